/- Corners of nef divisors and twice their area: the mathematics, the program. -/
import Derived.Test.YtmencjdlfeojkaaGreatDoorJb
import Derived.Test.YtmencjdlfeojkaaGreatDoorQx
import Derived.Test.YtmencjdlfeojkaaGreatDoorHa
import Derived.Test.YtmencjdlfeojkaaGreatDoorQg
import Derived.Test.YtmencjdlfeojkaaGreatDoorB2
namespace Go.Proofs.YtmencjdlfeojkaaGreatDoor
open Go.RowKit

/-- the corner of a cone -/
def cornZ (l : List V2) (d : List Int) (i : Nat) : V2 := (-(vecAt l d i).1, -(vecAt l d i).2)
def cornL (l : List V2) (d : List Int) : List V2 := (List.range l.length).map (cornZ l d)
theorem corn_len (l : List V2) (d : List Int) : (cornL l d).length = l.length := by simp [cornL]
theorem corn_cyc {l : List V2} {d : List Int} {k : Nat} (h : k < l.length) : cyc (cornL l d) k = cornZ l d k := by
  unfold cyc
  rw [corn_len, Nat.mod_eq_of_lt h]
  simp [cornL, h]
theorem corn_snoc (l : List V2) (d : List Int) (k : Nat) : (List.range (k + 1)).map (cornZ l d) = (List.range k).map (cornZ l d) ++ [cornZ l d k] := by simp [List.range_succ]
def allV (l : List V2) : Bool := l.all (fun m => vecB m.1 m.2)
theorem allV_bad {l : List V2} {k : Nat} (hk : k < l.length) (h : vecB (cyc l k).1 (cyc l k).2 = false) : allV l = false := by
  unfold allV
  rw [List.all_eq_false]
  exact ⟨_, cyc_mem (by omega) k, by rw [h]; decide⟩
theorem allV_good {l : List V2} (h : ∀ k, k < l.length → vecB (cyc l k).1 (cyc l k).2 = true) : allV l = true := by
  unfold allV
  rw [List.all_eq_true]
  intro x hx
  obtain ⟨i, hi, rfl⟩ := List.mem_iff_getElem.1 hx
  have := h i hi
  unfold cyc at this
  rw [Nat.mod_eq_of_lt hi, List.getElem?_eq_getElem hi] at this
  exact this
theorem allV_at {l : List V2} (h : allV l = true) {k : Nat} (hk : k < l.length) : vecB (cyc l k).1 (cyc l k).2 = true := List.all_eq_true.1 h _ (cyc_mem (by omega) k)
/-- are the corners those of a nef divisor, and vectors -/
def cornDB (l : List V2) (d : List Int) : Bool := nefDB l d && allV (cornL l d)
def areaZ (l : List V2) : Int := sumZ (fun i => detV (cyc l i) (cyc l (i + 1))) l.length
theorem area_terms {l : List V2} (h : allV l = true) (h0 : 0 < l.length) (i : Nat) : -2000000 ≤ detV (cyc l i) (cyc l (i + 1)) ∧ detV (cyc l i) (cyc l (i + 1)) ≤ 2000000 := by
  have h1 := allV_at h (Nat.mod_lt i h0)
  have h2 := allV_at h (Nat.mod_lt (i + 1) h0)
  rw [cyc_mod] at h1 h2
  unfold detV detZ
  have a := szs h1
  have b := szs h2
  have m1 := mul_le a.1 b.2
  have m2 := mul_le a.2 b.1
  omega
theorem area_bnd {l : List V2} (h : allV l = true) (h0 : 0 < l.length) {k : Nat} (hk : k ≤ 1000) : -2000000000 ≤ sumZ (fun i => detV (cyc l i) (cyc l (i + 1))) k ∧ sumZ (fun i => detV (cyc l i) (cyc l (i + 1))) k ≤ 2000000000 := by
  have := sumZ_bnd (area_terms h h0) k
  omega

/-! the program -/
set_option maxHeartbeats 1000000 in
theorem timesNeg_any (x y : Int) (w : World) (h : (-400000 ≤ x ∧ x ≤ 400000) ∧ -400000 ≤ y ∧ y ≤ 400000) :
    Calls Tryz.prog 45 #[.agg #[.int .i64 (x), .int .i64 (y)], .int .i64 (-1)] w fun e w' => e = .returned (.agg #[.int .i64 (-x), .int .i64 (-y)]) ∧ Below w.heap.size w w' := by
  obtain ⟨⟨_, _⟩, _, _⟩ := h
  go_enter Tryz.func45, Tryz.ntmps45
  go_wp2
  go_returns
  exact ⟨rfl, by go_grown⟩
set_option maxRecDepth 100000 in
set_option maxHeartbeats 8000000 in
theorem corners_any (base g : Nat) (ns : List Node) (u : Value) (d : List Int) (w : World) (hF : FanAt w base g ns) (hs : ns.length ≤ 1000) (hv : allVec (rays ns)) (hu : ReadsInts w u d) (hd : d.length = ns.length) (hb : bnd 200 d) :
    Calls Tryz.prog 33 #[.agg #[.pointer (some ⟨g, 0, none⟩), u]] w (GivesVecs w (cornL (rays ns) d)) := by
  obtain ⟨i0, hi, hz0, hz1, hz2⟩ := info_parts infoVec
  have HV := Lib.hid (fun i w' (hb' : Below w.heap.size w w') (hi : i < ns.length) => vectorAt_any base g ns u d i w' (hF.below hb') hs hv (hu.below hb') hd hi hb)
  have HT := Lib.hid (fun i w' => timesNeg_any (vecAt (rays ns) d i).1 (vecAt (rays ns) d i).2 w' (vecAt_bnd hv hb i))
  have c3 := hF.head.c1
  have hlt := cell_lt c3
  have HM := Lib.hid (corn_snoc (rays ns) d)
  have HC : Hid (∀ i, cornZ (rays ns) d i = (-(vecAt (rays ns) d i).1, -(vecAt (rays ns) d i).2)) := fun i => rfl
  have HZ : Hid (cornL (rays ns) d = (List.range ns.length).map (cornZ (rays ns) d)) := by show _ = _; unfold cornL; rw [rays_len]
  obtain ⟨a, c, rfl, _⟩ := hu.len
  generalize rays ns = l at *
  generalize ns.length = n at *
  clear hF hv hu hb
  have hA : Below w.heap.size w (w.alloc (.cells #[.pointer (some ⟨g, 0, none⟩), .slice a d.length c] 57)) := by go_grown
  have x0 : (w.alloc (.cells #[.pointer (some ⟨g, 0, none⟩), .slice a d.length c] 57)).cell? ⟨w.heap.size, 0, none⟩ = some (.pointer (some ⟨g, 0, none⟩)) := by simp
  have x1 : (w.alloc (.cells #[.pointer (some ⟨g, 0, none⟩), .slice a d.length c] 57)).cell? ⟨w.heap.size, 1, none⟩ = some (.slice a d.length c) := by simp
  have c1 := (hA.cell (p := ⟨g, 1, none⟩) hlt).trans c3
  have HA := Lib.hid hA
  have HX0 := Lib.hid x0
  have HX1 := Lib.hid x1
  have HC1 := Lib.hid c1
  clear hA x0 x1 c1 c3 hd
  go_enter Tryz.func33, Tryz.ntmps33
  have x0 := HX0.out
  have c1 := HC1.out
  go_wp2
  generalize (w.alloc (.cells #[.pointer (some ⟨g, 0, none⟩), .slice a d.length c] 57)) = W1 at *
  clear x0 c1
  have hws := HA.out.size
  go_loopw [3, 10] (fun s3 s10 wr => ∃ k : Nat, k ≤ n ∧ s10 = .int .i64 k ∧ Hid (Vecs wr W1.heap.size s3 ((List.range k).map (cornZ l d))) ∧ Below W1.heap.size W1 wr) (fun _ s10 _ => n - (intOf s10).toNat)
  case atStart => exact ⟨0, Nat.zero_le _, rfl, Vecs.nil _ _, Below.refl _ _⟩
  case round =>
    obtain ⟨k, hk, rfl, HI, hB⟩ := hrel
    have i1 : (0 : Int) ≤ (k : Int) := by omega
    by_cases hlt2 : k < n
    · have i2 : (k : Int) < (n : Int) := by omega
      have HK := Lib.hid (HV.out k wr (HA.out.trans (hB.mono hws)) hlt2)
      have HTk := Lib.hid (HT.out k)
      have HMk := Lib.hid (HM.out k)
      have HCk := Lib.hid (HC.out k)
      have hkl : ((List.range k).map (cornZ l d)).length = k := by simp
      have y0 := (hB.cell (p := ⟨w.heap.size, 0, none⟩) (cell_lt HX0.out)).trans HX0.out
      have y1 := (hB.cell (p := ⟨w.heap.size, 1, none⟩) (cell_lt HX0.out)).trans HX1.out
      generalize vecAt l d k = V at *
      obtain ⟨x, y⟩ := V
      dsimp only at HTk HK HCk
      go_wp2_with fail
      refine Calls.mono HK.out ?_
      rintro e w2 ⟨rfl, hb2⟩
      have hB1 := belowTo hB hb2
      have HI2 := Lib.hid (HI.out.below hb2)
      clear hb2 hB HI y0 y1
      go_wp2_with fail
      refine Calls.mono (HTk.out _) ?_
      rintro e w3 ⟨rfl, hb3⟩
      have hB2 := belowTo hB1 hb3
      have hown := HI2.out.below hb3
      unfold Vecs VRow at hown
      rw [hkl] at hown
      have hbs := hB2.size
      clear hb3 hB1 HI2
      go_wp2_with (at_builtin; refine wpList_append_own_at _ rfl _ _ 47 rfl W1.heap.size 39 i0 (.agg #[.int .i64 (0), .int .i64 (0)]) 2 16 Tryz.underlying47 hi hz0 hz1 hz2 rfl (by decide) _ _ _ rfl (hown.alloc _) ⟨w3.heap.size, 0, none⟩ 1 1 [.int .i64 (-x), .int .i64 (-y)] rfl rfl ?c1 ?c2 ?c3 ?c4 ?c5 ?_)
      case c1 =>
        intro j u hj
        match j, hj with
        | 0, hj => simp at hj; subst hj; simp [Addr.add]
        | 1, hj => simp at hj; subst hj; simp [Addr.add]
      case c2 => intro u hu; simp at hu; rcases hu with rfl | rfl <;> rfl
      case c3 => unfold maxLen; omega
      case c4 => omega
      case c5 => simp; omega
      intro v' w4 hown' hgrow _ _
      have hB3 : Below W1.heap.size W1 w4 := (hB2.alloc hbs _).grown hgrow (by simp; omega) (fun k hk => (hown.lt k hk).1)
      have HVk := Lib.hid (Vecs.snoc (l := (List.range k).map (cornZ l d)) hkl.symm hown')
      rw [← HCk.out, ← HMk.out] at HVk
      clear hown' hgrow hown hB2
      go_wp2
      go_roundw
      case rel => exact ⟨k + 1, by omega, by go_num, HVk, hB3⟩
      case measure => simp [intOf]; omega
    · obtain rfl : k = n := by omega
      have i2 : ¬ (k : Int) < (k : Int) := by omega
      have hB2 := HA.out.trans (hB.mono hws)
      go_wp2
      go_returns
      exact ⟨_, rfl, by rw [HZ.out]; exact HI.out.lower hws, hB2⟩
def CornPost (l : List V2) (w : World) (e : Ending) (w' : World) : Prop := ((allV l = true ∧ e = .returned .nilIface) ∨ (allV l = false ∧ IsNone e)) ∧ Below w.heap.size w w'
set_option maxHeartbeats 8000000 in
theorem cornCheck_any (v : Value) (l : List V2) (w : World) (h : ReadsVecs w v l) (h0 : 0 < l.length) (hm : l.length ≤ 1000) :
    Calls Tryz.prog 103 #[v] w (CornPost l w) := by
  obtain ⟨bv, ov, vc, rfl, _, _, hbv, hvs⟩ := h.open h0
  have HVS := Lib.hid hvs
  have HBad := Lib.hid (fun k hk hz => allV_bad (l := l) (k := k) hk hz)
  have HGood := Lib.hid (fun h => allV_good (l := l) h)
  have HKp := Lib.hid (fun x y w' (h : vecB x y = true) => check_in x y w' h)
  have HKn := Lib.hid (fun x y w' (h : vecB x y = false) => check_out x y w' h)
  clear h hvs
  unfold CornPost
  generalize allV l = K at *
  go_enter Tryz.func103, Tryz.ntmps103
  go_wp2
  go_loopw [8] (fun s wr => ∃ k : Nat, k ≤ l.length ∧ s = .int .i64 k ∧ Hid (∀ j, j < l.length → j < k → vecB (cyc l j).1 (cyc l j).2 = true) ∧ Below w.heap.size w wr) (fun s _ => l.length - (intOf s).toNat)
  case atStart => exact ⟨0, Nat.zero_le _, rfl, fun j _ hj => by omega, Below.refl _ _⟩
  case round =>
    obtain ⟨k, hk, rfl, HE, hB⟩ := hrel
    have i1 : (0 : Int) ≤ (k : Int) := by omega
    by_cases hlt : k < l.length
    · have i2 : (k : Int) < (l.length : Int) := by omega
      obtain ⟨c0, c1⟩ := HVS.out wr hB k hlt
      have HB := Lib.hid (fun h => HBad.out k hlt h)
      have HE2 : Hid (vecB (cyc l k).1 (cyc l k).2 = true → ∀ j, j < l.length → j < k + 1 → vecB (cyc l j).1 (cyc l j).2 = true) := fun h j h1 h2 => by
        by_cases e : j = k
        · subst e; exact h
        · exact HE.out j h1 (by omega)
      have hs := hB.size
      generalize cyc l k = V at HB HE2 c0 c1
      obtain ⟨x, y⟩ := V
      dsimp only at HB HE2 c0 c1
      cases hz : vecB x y
      · have HK := Lib.hid (fun w' => HKn.out x y w' hz)
        have HF := Lib.hid (HB.out hz)
        clear hz HE HE2 HB HVS
        go_wp2_with fail
        refine Calls.mono (HK.out _) ?_
        rintro e w2 ⟨rfl, hb2⟩
        have hA : Below w.heap.size w w2 := hB.trans (Below.mono (belowTo (a := wr) (by go_grown) hb2) hs)
        clear hb2
        go_wp2
        go_returns
        exact ⟨.inr ⟨HF.out, ⟨_, rfl⟩⟩, hA⟩
      · have HK := Lib.hid (fun w' => HKp.out x y w' hz)
        have HE3 := Lib.hid (HE2.out hz)
        clear hz HE HE2 HB HVS
        go_wp2_with fail
        refine Calls.mono (HK.out _) ?_
        rintro e w2 ⟨rfl, hb2⟩
        have hA : Below w.heap.size w w2 := hB.trans (Below.mono (belowTo (a := wr) (by go_grown) hb2) hs)
        clear hb2
        go_wp2
        go_roundw
        case rel => exact ⟨k + 1, by omega, by go_num, HE3, hA⟩
        case measure => simp [intOf]; omega
    · obtain rfl : k = l.length := by omega
      have i2 : ¬ ((l.length : Nat) : Int) < (l.length : Int) := by omega
      have HT2 := Lib.hid (HGood.out (fun j hj => HE.out j hj hj))
      go_wp2
      go_returns
      exact ⟨.inl ⟨HT2.out, rfl⟩, hB⟩
set_option maxHeartbeats 8000000 in
theorem madeCorn_any (v : Value) (l : List V2) (w : World) (hg : EtOk w) (h : ReadsVecs w v l) (h0 : 0 < l.length) (hm : l.length ≤ 1000) :
    Calls Tryz.prog 32 #[v] w fun e w' => e = .returned (.tuple #[if allV l then v else .slice none 0 0, .bool (allV l)]) ∧ Below w.heap.size w w' := by
  have HC := Lib.hid (fun w' (hb : Below w.heap.size w w') => cornCheck_any v l w' (h.below hb) h0 hm)
  obtain ⟨a, c, rfl, _⟩ := h
  unfold CornPost at HC
  generalize allV l = K at *
  go_enter Tryz.func32, Tryz.ntmps32
  go_wp2_with fail
  refine Calls.mono (HC.out _ (by go_grown)) ?_
  rintro e w1 ⟨⟨rfl, rfl⟩ | ⟨rfl, s, rfl⟩, hb1⟩
  · have hB : Below w.heap.size w w1 := belowTo (by go_grown) hb1
    clear hb1
    go_wp2_with fail
    refine Calls.mono (none_nil _) ?_
    rintro e w2 ⟨rfl, hb2⟩
    have hB2 := belowTo hB hb2
    clear hb2
    go_wp2
    go_returns
    exact ⟨rfl, hB2⟩
  · have hB : Below w.heap.size w w1 := belowTo (by go_grown) hb1
    have HN := Lib.hid (none_hit s w1 (hg.below hB))
    clear hb1
    go_wp2_with fail
    refine Calls.mono HN.out ?_
    rintro e w2 ⟨rfl, hb2⟩
    have hB2 := belowTo hB hb2
    clear hb2
    go_wp2
    go_returns
    exact ⟨rfl, hB2⟩
theorem cornD_in {l : List V2} {d : List Int} (h : cornDB l d = true) : divB l d = true ∧ nefL (degsZ l d) = true ∧ allV (cornL l d) = true := by
  unfold cornDB nefDB at h
  simp only [Bool.and_eq_true] at h
  exact ⟨h.1.1, h.1.2, h.2⟩
theorem cornD_len {l : List V2} {d : List Int} (h : cornDB l d = true) : l.length ≤ 20 := (div_len (cornD_in h).1).2
set_option maxHeartbeats 8000000 in
theorem cornersOf_any (v : Value) (l : List V2) (u : Value) (d : List Int) (w : World) (hl : ReadsVecs w v l) (hd : ReadsInts w u d) (hg : EtOk w) :
    Calls Tryz.prog 23 #[v, u] w (GivesVecsOk w (gV (cornDB l d) (cornL l d)) (cornDB l d)) := by
  have HO := Lib.hid (divisorOf_any v u l d w hl hd hg)
  have HNf := Lib.hid (fun base g (ns : List Node) w' (hF : FanAt w' base g ns) (hn : rays ns = l) (hb : Below w.heap.size w w') (h : divB l d = true) => by
    have h1 := isNef_any base g ns u d w' hF (by have := div_len h; rw [← hn, rays_len] at this; omega) (by rw [hn]; exact div_smooth h) (hd.below hb) (by rw [← rays_len, hn]; exact (div_in h).2.1) (bnd_mono (div_bnd h) (by omega))
    rw [hn] at h1
    exact h1)
  have HCn := Lib.hid (fun base g (ns : List Node) w' (hF : FanAt w' base g ns) (hn : rays ns = l) (hb : Below w.heap.size w w') (h : divB l d = true) => by
    have h1 := corners_any base g ns u d w' hF (by have := div_len h; rw [← hn, rays_len] at this; omega) (by rw [hn]; exact (div_smooth h).1) (hd.below hb) (by rw [← rays_len, hn]; exact (div_in h).2.1) (bnd_mono (div_bnd h) (by omega))
    rw [hn] at h1
    exact h1)
  have HMd := Lib.hid (fun v' b' w' (hb : Below w.heap.size w w') (hI : Vecs w' b' v' (cornL l d)) (h : divB l d = true) => madeCorn_any v' (cornL l d) w' (hg.below hb) (hI.reads (by rw [corn_len]; have := div_len h; omega)) (by rw [corn_len]; have := div_len h; omega) (by rw [corn_len]; have := div_len h; omega))
  obtain ⟨a, c, rfl, _⟩ := hd.len
  unfold cornDB nefDB
  clear hl hd
  cases hb : divB l d
  · rw [hb] at HO
    clear hb HNf HCn HMd
    go_enter Tryz.func23, Tryz.ntmps23
    go_wp2_with fail
    refine Calls.mono HO.out ?_
    rintro e w1 ⟨⟨h, _⟩ | ⟨_, rfl⟩, hb1⟩
    · cases h
    have hs1 := hb1.size
    go_wp2
    go_returns
    exact ⟨_, rfl, Vecs.nil _ _, by go_grown⟩
  · rw [hb] at HO
    have HN2 := Lib.hid (fun base g ns w' hF hn h => HNf.out base g ns w' hF hn h hb)
    have HC2 := Lib.hid (fun base g ns w' hF hn h => HCn.out base g ns w' hF hn h hb)
    have HM2 := Lib.hid (fun v' b' w' h hI => HMd.out v' b' w' h hI hb)
    clear hb HNf HCn HMd
    generalize nefL (degsZ l d) = N at *
    generalize cornL l d = L at *
    cases N
    · clear HM2 HC2
      go_enter Tryz.func23, Tryz.ntmps23
      go_wp2_with fail
      refine Calls.mono HO.out ?_
      rintro e w1 ⟨⟨_, g, ns, rfl, hF, hn⟩ | ⟨h, _⟩, hb1⟩
      case inr => cases h
      have HN3 := Lib.hid (fun w2 (h : Below w1.heap.size w1 w2) => HN2.out w.heap.size g ns w2 (hF.below h) hn (belowTo hb1 h))
      have hs1 := hb1.size
      clear hF hn HN2
      go_wp2_with fail
      refine Calls.mono (HN3.out _ (by go_grown)) ?_
      rintro e w2 ⟨rfl, hb2⟩
      have hB : Below w.heap.size w w2 := belowTo (by go_grown) hb2
      clear hb2
      go_wp2
      go_returns
      exact ⟨_, rfl, Vecs.nil _ _, hB⟩
    · go_enter Tryz.func23, Tryz.ntmps23
      go_wp2_with fail
      refine Calls.mono HO.out ?_
      rintro e w1 ⟨⟨_, g, ns, rfl, hF, hn⟩ | ⟨h, _⟩, hb1⟩
      case inr => cases h
      have HN3 := Lib.hid (fun w2 (h : Below w1.heap.size w1 w2) => HN2.out w.heap.size g ns w2 (hF.below h) hn (belowTo hb1 h))
      have HC3 := Lib.hid (fun w2 (h : Below w1.heap.size w1 w2) => HC2.out w.heap.size g ns w2 (hF.below h) hn (belowTo hb1 h))
      have hs1 := hb1.size
      clear hF hn HN2 HC2
      go_wp2_with fail
      refine Calls.mono (HN3.out _ (by go_grown)) ?_
      rintro e w2 ⟨rfl, hb2⟩
      have hA2 : Below w1.heap.size w1 w2 := belowTo (by go_grown) hb2
      have x0 : w2.cell? ⟨w1.heap.size, 0, none⟩ = some (.pointer (some ⟨g, 0, none⟩)) := (hb2.cell (p := ⟨w1.heap.size, 0, none⟩) (by simp)).trans (by first | (go_cell; done) | (go_simp; done) | (simp; done))
      have x1 : w2.cell? ⟨w1.heap.size, 1, none⟩ = some (.slice a d.length c) := (hb2.cell (p := ⟨w1.heap.size, 1, none⟩) (by simp)).trans (by first | (go_cell; done) | (go_simp; done) | (simp; done))
      clear hb2 HN3
      go_wp2_with fail
      refine Calls.mono (HC3.out _ hA2) ?_
      rintro e w3 ⟨v3, rfl, hI, hb3⟩
      have hB3 := belowTo hb1 (belowTo hA2 hb3)
      have HI := Lib.hid (hI.lower (base' := w.heap.size) (Nat.le_trans hs1 hA2.size))
      clear hI hb3 x0 x1 hA2 HC3
      go_wp2_with fail
      refine Calls.mono (HM2.out v3 _ _ hB3 HI.out) ?_
      rintro e w4 ⟨rfl, hb4⟩
      have hB4 := belowTo hB3 hb4
      have HI4 := Lib.hid (HI.out.below hb4)
      clear hb4 hB3 HI HM2
      generalize allV L = K at *
      cases K
      all_goals
        go_wp2
        go_returns
        first | exact ⟨_, rfl, HI4.out, hB4⟩ | exact ⟨_, rfl, Vecs.nil _ _, hB4⟩
set_option maxHeartbeats 4000000 in
theorem sectionCorners_any (v : Value) (l : List V2) (u : Value) (d : List Int) (w : World) (hl : ReadsVecs w v l) (hd : ReadsInts w u d) (hg : EtOk w) :
    Calls Tryz.prog 9 #[v, u] w (GivesVecsOk w (gV (cornDB l d) (cornL l d)) (cornDB l d)) := by
  have HO := Lib.hid (cornersOf_any v l u d w hl hd hg)
  obtain ⟨va, vc, rfl, _⟩ := hl
  obtain ⟨a, c, rfl, _⟩ := hd.len
  clear hd
  generalize cornDB l d = K at *
  generalize gV K (cornL l d) = L at *
  go_enter Tryz.func9, Tryz.ntmps9
  go_wp2_with fail
  refine Calls.mono HO.out ?_
  rintro e w1 ⟨v1, rfl, hI, hb1⟩
  have HI := Lib.hid hI
  clear hI
  go_wp2
  go_returns
  exact ⟨_, rfl, HI.out, hb1⟩
set_option maxRecDepth 100000 in
set_option maxHeartbeats 8000000 in
theorem area_any (v : Value) (l : List V2) (w : World) (h : ReadsVecs w v l) (h0 : 0 < l.length) (hm : l.length ≤ 1000) (ha : allV l = true) :
    Calls Tryz.prog 26 #[v] w fun e w' => e = .returned (.int .i64 (areaZ l)) ∧ Below w.heap.size w w' := by
  obtain ⟨bv, ov, vc, rfl, _, _, hbv, hvs⟩ := h.open h0
  have HVS := Lib.hid hvs
  have HA := Lib.hid (fun k hk => allV_at (l := l) ha (k := k) hk)
  have HD := Lib.hid (fun x1 y1 x2 y2 w' h1 h2 => det_any x1 y1 x2 y2 w' h1 h2)
  have HT := Lib.hid (fun i => area_terms ha h0 i)
  have HBd := Lib.hid (fun k (hk : k ≤ 1000) => area_bnd ha h0 hk)
  have HSu : Hid (∀ k, sumZ (fun i => detV (cyc l i) (cyc l (i + 1))) (k + 1) = sumZ (fun i => detV (cyc l i) (cyc l (i + 1))) k + detV (cyc l k) (cyc l (k + 1))) := fun _ => rfl
  have H00 : Hid (sumZ (fun i => detV (cyc l i) (cyc l (i + 1))) 0 = 0) := rfl
  unfold areaZ
  generalize sumZ (fun i => detV (cyc l i) (cyc l (i + 1))) = S at *
  clear h hvs ha
  go_enter Tryz.func26, Tryz.ntmps26
  go_wp2
  go_loopw [3, 8] (fun s3 s8 wr => ∃ k : Nat, k ≤ l.length ∧ s3 = .int .i64 (S k) ∧ s8 = .int .i64 k ∧ Below w.heap.size w wr) (fun _ s8 _ => l.length - (intOf s8).toNat)
  case atStart => exact ⟨0, Nat.zero_le _, by rw [H00.out], rfl, Below.refl _ _⟩
  case round =>
    obtain ⟨k, hk, rfl, rfl, hB⟩ := hrel
    have i1 : (0 : Int) ≤ (k : Int) := by omega
    by_cases hlt : k < l.length
    · have i2 : (k : Int) < (l.length : Int) := by omega
      have hq : (k + 1) % l.length < l.length := Nat.mod_lt _ h0
      have j3 : (0 : Int) ≤ (((k + 1) % l.length : Nat) : Int) := by omega
      have j4 : (((k + 1) % l.length : Nat) : Int) < (l.length : Int) := by omega
      have j5 : ¬ (l.length : Int) = 0 := by omega
      have j6 : ((l.length : Int) == 0) = false := by simpa using j5
      have j7 : ¬ l.length = 0 := by omega
      have t2 := next_is k l.length
      obtain ⟨c0, c1⟩ := HVS.out wr hB k hlt
      obtain ⟨d0, d1⟩ := HVS.out wr hB _ hq
      rw [cyc_mod] at d0 d1
      have v0 := HA.out k hlt
      have v1 := HA.out _ hq
      rw [cyc_mod] at v1
      have b1 := HBd.out k (by omega)
      have b2 := HT.out k
      have HSk := Lib.hid (HSu.out k)
      unfold detV at HSk b2
      have HDk := Lib.hid (fun w' => HD.out _ _ _ _ w' v0 v1)
      have q0 : IntKind.i64.wrap ((k : Int) + 1) = (k : Int) + 1 := by rw [IntKind.wrap_i64]; omega
      generalize hz : detZ (cyc l k).1 (cyc l k).2 (cyc l (k + 1)).1 (cyc l (k + 1)).2 = z at HSk b2 HDk
      have q1 : IntKind.i64.wrap (S k + z) = S k + z := by rw [IntKind.wrap_i64]; omega
      generalize cyc l k = V at *
      generalize cyc l (k + 1) = U at *
      obtain ⟨x1, y1⟩ := V
      obtain ⟨x2, y2⟩ := U
      dsimp only at c0 c1 d0 d1 HDk
      generalize (k + 1) % l.length = q at *
      have hs := hB.size
      have t0 := cell_lt c0
      have t1 := cell_lt d0
      clear hz v0 v1 HA HD HT HBd HSu H00 HVS b1 b2
      go_wp2_with fail
      have hA2 : Below wr.heap.size wr (wr.alloc (.cells #[.int .i64 x1, .int .i64 y1] 39)) := by go_grown
      have e0 : (wr.alloc (.cells #[.int .i64 x1, .int .i64 y1] 39)).cell? ⟨wr.heap.size, 0, none⟩ = some (.int .i64 x1) := by simp
      have e1 : (wr.alloc (.cells #[.int .i64 x1, .int .i64 y1] 39)).cell? ⟨wr.heap.size, 1, none⟩ = some (.int .i64 y1) := by simp
      replace d1 := (hA2.cell (p := ⟨bv, ov + q * 2 + 1, none⟩) t1).trans d1
      replace d0 := (hA2.cell (p := ⟨bv, ov + q * 2, none⟩) t1).trans d0
      have hB2 := hB.trans (hA2.mono hs)
      obtain ⟨B3, hB3⟩ : ∃ B3, B3 = wr.heap.size := ⟨_, rfl⟩
      rw [← hB3] at e0 e1 ⊢
      generalize (wr.alloc (.cells #[.int .i64 x1, .int .i64 y1] 39)) = W3 at *
      clear hA2 hB3 c0 c1 t0 t1
      have hs3 := hB2.size
      have t0 := cell_lt e0
      have t1 := cell_lt d0
      go_region_held3 (fun w' => w'.cell? ⟨B3, 0, none⟩ = some (.int .i64 (x1)) ∧ w'.cell? ⟨B3, 1, none⟩ = some (.int .i64 (y1)) ∧ w'.cell? ⟨bv, ov + q * 2, none⟩ = some (.int .i64 (x2)) ∧ w'.cell? ⟨bv, ov + q * 2 + 1, none⟩ = some (.int .i64 (y2)) ∧ Below (w.heap.size) W3 w') ((go_split_ands; refine ⟨by (first | (with_reducible assumption) | (go_keep; done) | (go_cell; done) | (go_simp; done) | (simp [*]; done)), by (first | (with_reducible assumption) | (go_keep; done) | (go_cell; done) | (go_simp; done) | (simp [*]; done)), by (first | (with_reducible assumption) | (go_keep; done) | (go_cell; done) | (go_simp; done) | (simp [*]; done)), by (first | (with_reducible assumption) | (go_keep; done) | (go_cell; done) | (go_simp; done) | (simp [*]; done)), by first | (with_reducible assumption) | (go_grown; done)⟩)) (first | (go_at_call 34; go_call (HDk.out _) as e w1 ⟨rfl, hb0⟩; go_split_ands; have q0 : w1.cell? ⟨B3, 0, none⟩ = some (.int .i64 (x1)) := (hb0.cell (p := ⟨B3, 0, none⟩) (by first | (with_reducible assumption) | (go_size; done) | (simp; omega))).trans (by first | (with_reducible assumption) | (go_keep; done) | (go_cell; done) | (go_simp; done) | (simp [*]; done)); have q1 : w1.cell? ⟨B3, 1, none⟩ = some (.int .i64 (y1)) := (hb0.cell (p := ⟨B3, 1, none⟩) (by first | (with_reducible assumption) | (go_size; done) | (simp; omega))).trans (by first | (with_reducible assumption) | (go_keep; done) | (go_cell; done) | (go_simp; done) | (simp [*]; done)); have q2 : w1.cell? ⟨bv, ov + q * 2, none⟩ = some (.int .i64 (x2)) := (hb0.cell (p := ⟨bv, ov + q * 2, none⟩) (by first | (with_reducible assumption) | (go_size; done) | (simp; omega))).trans (by first | (with_reducible assumption) | (go_keep; done) | (go_cell; done) | (go_simp; done) | (simp [*]; done)); have q3 : w1.cell? ⟨bv, ov + q * 2 + 1, none⟩ = some (.int .i64 (y2)) := (hb0.cell (p := ⟨bv, ov + q * 2 + 1, none⟩) (by first | (with_reducible assumption) | (go_size; done) | (simp; omega))).trans (by first | (with_reducible assumption) | (go_keep; done) | (go_cell; done) | (go_simp; done) | (simp [*]; done)); have hs0 : B3 < w1.heap.size := Nat.lt_of_lt_of_le (by first | (with_reducible assumption) | (go_size; done) | (simp; omega)) hb0.size; have hs1 : bv < w1.heap.size := Nat.lt_of_lt_of_le (by first | (with_reducible assumption) | (go_size; done) | (simp; omega)) hb0.size; have hT : Below (w.heap.size) W3 w1 := Below.trans (by first | (with_reducible assumption) | (go_grown; done)) (hb0.mono (by first | (with_reducible assumption) | (go_size; done) | (simp; omega) | omega)); have hTs := hT.size; (try have hT2 : Below W3.heap.size W3 w1 := belowTo (by first | (with_reducible assumption) | (go_grown; done)) hb0); clear hb0))
      have hBk := hB2.trans hT
      go_wp2
      go_roundw
      case rel => exact ⟨k + 1, by omega, by rw [HSk.out], by go_num, hBk⟩
      case measure => simp [intOf]; omega
    · obtain rfl : k = l.length := by omega
      have i2 : ¬ ((l.length : Nat) : Int) < (l.length : Int) := by omega
      go_wp2
      go_returns
      exact ⟨rfl, hB⟩
set_option maxHeartbeats 4000000 in
theorem sectionArea_any (v : Value) (l : List V2) (u : Value) (d : List Int) (w : World) (hl : ReadsVecs w v l) (hd : ReadsInts w u d) (hg : EtOk w) :
    Calls Tryz.prog 16 #[v, u] w fun e w' => e = .returned (.tuple #[.int .i64 (gate (cornDB l d) (areaZ (cornL l d))), .bool (cornDB l d)]) ∧ Below w.heap.size w w' := by
  have HO := Lib.hid (cornersOf_any v l u d w hl hd hg)
  have HA := Lib.hid (fun v' b' w' (hI : Vecs w' b' v' (cornL l d)) (hk : cornDB l d = true) => area_any v' (cornL l d) w' (hI.reads (by rw [corn_len]; have := cornD_len hk; omega)) (by rw [corn_len]; have := div_len (cornD_in hk).1; omega) (by rw [corn_len]; have := cornD_len hk; omega) (cornD_in hk).2.2)
  obtain ⟨va, vc, rfl, _⟩ := hl
  obtain ⟨a, c, rfl, _⟩ := hd.len
  clear hd
  cases hk : cornDB l d
  · rw [hk] at HO
    clear HA hk
    go_enter Tryz.func16, Tryz.ntmps16
    go_wp2_with fail
    refine Calls.mono HO.out ?_
    rintro e w1 ⟨v1, rfl, hI, hb1⟩
    clear hI
    go_wp2
    go_returns
    exact ⟨rfl, hb1⟩
  · rw [hk] at HO
    have HA2 := Lib.hid (fun v' b' w' hI => HA.out v' b' w' hI hk)
    have HO2 : Hid (Calls Tryz.prog 23 #[.slice va l.length vc, .slice a d.length c] w (GivesVecsOk w (cornL l d) true)) := HO.out
    clear HA hk HO
    generalize areaZ (cornL l d) = Q at *
    generalize cornL l d = L at *
    go_enter Tryz.func16, Tryz.ntmps16
    go_wp2_with fail
    refine Calls.mono HO2.out ?_
    rintro e w1 ⟨v1, rfl, hI, hb1⟩
    have HA3 := Lib.hid (HA2.out v1 _ w1 hI)
    clear hI HA2
    go_wp2_with fail
    refine Calls.mono HA3.out ?_
    rintro e w2 ⟨rfl, hb2⟩
    have hB := belowTo hb1 hb2
    clear hb2
    go_wp2
    go_returns
    exact ⟨rfl, hB⟩
end Go.Proofs.YtmencjdlfeojkaaGreatDoor
