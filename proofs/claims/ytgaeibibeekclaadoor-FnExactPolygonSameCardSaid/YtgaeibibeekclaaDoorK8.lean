import Derived.Test.YtgaeibibeekclaaDoorYg
import Derived.Test.YtgaeibibeekclaaDoorYh
import Derived.Test.YtgaeibibeekclaaDoorK4
import Derived.Test.YtgaeibibeekclaaDoorK1
/- Sums of polygons: the program. -/
namespace Go.Proofs.YtgaeibibeekclaaDoor
open Go.RowKit

/-- the sum of two vectors, all sums of two lists -/
def adV (a b : V2) : V2 := (a.1 + b.1, a.2 + b.2)
def adR (q : List V2) (a : V2) (k : Nat) : List V2 := (List.range k).map (fun j => adV a (cyc q j))
def sumK (p q : List V2) (i : Nat) : List V2 := (List.range i).flatMap (fun i => adR q (cyc p i) q.length)
def smL (p q : List V2) : List V2 := sumK p q p.length
theorem adR_zero (q : List V2) (a : V2) : adR q a 0 = [] := rfl
theorem adR_succ (q : List V2) (a : V2) (k : Nat) : adR q a (k + 1) = adR q a k ++ [adV a (cyc q k)] := by simp [adR, List.range_succ]
theorem adR_len (q : List V2) (a : V2) (k : Nat) : (adR q a k).length = k := by simp [adR]
theorem sumK_zero (p q : List V2) : sumK p q 0 = [] := rfl
theorem sumK_succ (p q : List V2) (i : Nat) : sumK p q (i + 1) = sumK p q i ++ adR q (cyc p i) q.length := by
  unfold sumK
  rw [List.range_succ, List.flatMap_append]
  simp
theorem sumK_len (p q : List V2) (i : Nat) : (sumK p q i).length = i * q.length := by
  induction i with
  | zero => simp [sumK_zero]
  | succ i ih => rw [sumK_succ, List.length_append, ih, adR_len, Nat.succ_mul]
theorem sum_len {p q : List V2} (hp : p.length ≤ 30) (hq : q.length ≤ 30) {i k : Nat} (hi : i < p.length) (hk : k ≤ q.length) : (sumK p q i ++ adR q (cyc p i) k).length ≤ 1000 := by
  rw [List.length_append, sumK_len, adR_len]
  have := Nat.mul_le_mul (show i ≤ 29 by omega) hq
  omega
theorem smL_len {p q : List V2} (hp : p.length ≤ 30) (hq : q.length ≤ 30) : (smL p q).length ≤ 1000 := by
  unfold smL
  rw [sumK_len]
  have := Nat.mul_le_mul hp hq
  omega
theorem sumK_mem {p q : List V2} {x : V2} {i : Nat} (h : x ∈ sumK p q i) : ∃ a b, x = adV (cyc p a) (cyc q b) := by
  unfold sumK at h
  obtain ⟨a, _, h2⟩ := List.mem_flatMap.1 h
  unfold adR at h2
  obtain ⟨b, _, rfl⟩ := List.mem_map.1 h2
  exact ⟨a, b, rfl⟩
theorem sum_small {p q : List V2} (hp : polyB p = true) (hq : polyB q = true) : ∀ x ∈ smL p q, (-200 ≤ x.1 ∧ x.1 ≤ 200) ∧ -200 ≤ x.2 ∧ x.2 ≤ 200 := by
  intro x hx
  obtain ⟨a, b, rfl⟩ := sumK_mem hx
  have h1 := poly_small hp a
  have h2 := poly_small hq b
  unfold adV
  dsimp only
  omega
theorem sm_cells (W : World) (X Y : Int) (t : TypeId) : ∀ j u, [Value.int .i64 X, Value.int .i64 Y][j]? = some u → (W.alloc (.cells #[.int .i64 X, .int .i64 Y] t)).cell? ((⟨W.heap.size, 0, none⟩ : Addr).add j) = some u := by
  intro j u hj
  match j, hj with
  | 0, hj => simp at hj; subst hj; simp [Addr.add]
  | 1, hj => simp at hj; subst hj; simp [Addr.add]
theorem sm_one (X Y : Int) : ∀ u ∈ [Value.int .i64 X, Value.int .i64 Y], u.oneCell' = true := by
  intro u hu
  simp at hu
  rcases hu with rfl | rfl <;> rfl
theorem sm_ne {w : World} {b B : Nat} {v : Value} {l : List V2} (h : Vecs w b v l) (hB : w.heap.size ≤ B) : v.ownBlock ≠ some B := by
  intro e
  have := (World.ownsRow.lt h B e).2
  omega
theorem sm_bnd {p q : List V2} (hp : polyB p = true) (hq : polyB q = true) (a b : Nat) : vecB (cyc p a).1 (cyc p a).2 = true ∧ vecB (cyc q b).1 (cyc q b).2 = true := ⟨poly_vec hp a, poly_vec hq b⟩
set_option maxRecDepth 100000 in
set_option maxHeartbeats 16000000 in
theorem polyPlus_any (v u : Value) (p q : List V2) (w : World) (hl : ReadsVecs w v p) (hl2 : ReadsVecs w u q) (hg : EtOk w) (hp : polyB p = true) (hq : polyB q = true) :
    Calls Tryd.prog 35 #[v, u] w (GivesVecsR w (gV (polyB (hullD (smL p q))) (hullD (smL p q))) (polyB (hullD (smL p q)))) := by
  obtain ⟨i0, hi, hz0, hz1, hz2⟩ := info_parts infoVec
  have h30 := poly_len hp
  have h30' := poly_len hq
  have HH := Lib.hid (fun v' b' w' (hI : Vecs w' b' v' (smL p q)) (hb : Below w.heap.size w w') => hullOf_any v' (smL p q) w' (hg.below hb) (hI.reads (by have := smL_len h30.2 h30'.2; omega)) (smL_len h30.2 h30'.2) (fun x hx => by have := sum_small hp hq x hx; unfold big; omega))
  obtain ⟨bv, ov, vc, rfl, _, _, hbv, hvs⟩ := hl.open (by omega)
  obtain ⟨bu, ou, uc, rfl, _, _, hbu, hus⟩ := hl2.open (by omega)
  have HVS := Lib.hid hvs
  have HUS := Lib.hid hus
  have HBd := Lib.hid (fun a b => sm_bnd hp hq a b)
  have HLn := Lib.hid (fun i k (hi : i < p.length) (hk : k ≤ q.length) => sum_len h30.2 h30'.2 hi hk)
  have HX := Lib.hid (fun a k => adR_succ q a k)
  have HXK := Lib.hid (fun k => sumK_succ p q k)
  have HX0 := Lib.hid (fun a => adR_zero q a)
  have HZ0 := Lib.hid (sumK_zero p q)
  have HZ : Hid (sumK p q p.length = smL p q) := rfl
  generalize polyB (hullD (smL p q)) = P at *
  generalize hullD (smL p q) = H at *
  obtain ⟨m, hm⟩ : ∃ m, m = p.length := ⟨_, rfl⟩
  obtain ⟨n, hn⟩ : ∃ n, n = q.length := ⟨_, rfl⟩
  rw [← hm] at HLn HVS HZ h30 ⊢
  rw [← hn] at HLn HUS HXK h30' ⊢
  clear hl hl2 hp hq hvs hus hm hn
  go_enter Tryd.func35, Tryd.ntmps35
  go_wp2
  go_loopw [6, 13] (fun s6 s wr => ∃ i : Nat, i ≤ m ∧ s = .int .i64 i ∧ Hid (Vecs wr w.heap.size s6 (sumK p q i)) ∧ Below w.heap.size w wr) (fun _ s _ => m - (intOf s).toNat)
  case atStart => exact ⟨0, Nat.zero_le _, rfl, by rw [HZ0.out]; exact Vecs.nil _ _, Below.refl _ _⟩
  case round =>
    obtain ⟨i, hi', rfl, HI, hB⟩ := hrel
    have i1 : (0 : Int) ≤ (i : Int) := by omega
    by_cases hlt : i < m
    · have i2 : (i : Int) < (m : Int) := by omega
      obtain ⟨c0, c1⟩ := HVS.out wr hB i hlt
      have HLi := Lib.hid (fun k hk => HLn.out i k hlt hk)
      have HBi := Lib.hid (fun b => HBd.out i b)
      have HXi := Lib.hid (fun k => HX.out (cyc p i) k)
      have HXKi := Lib.hid (HXK.out i)
      have HX0i := Lib.hid (HX0.out (cyc p i))
      have HO := Lib.hid (fun B (hB : wr.heap.size ≤ B) => sm_ne HI.out hB)
      generalize hV : cyc p i = V at *
      clear hV
      obtain ⟨x1, y1⟩ := V
      dsimp only at c0 c1 HBi
      obtain ⟨wo, hwo⟩ : ∃ wo, wo = wr := ⟨_, rfl⟩
      subst hwo
      have hs := hB.size
      clear HLn HBd HX HXK HX0 HZ0 HVS
      go_wp2
      go_loopw [6, 19] (fun s6 s wi => ∃ k : Nat, k ≤ n ∧ s = .int .i64 k ∧ Hid (Vecs wi w.heap.size s6 (sumK p q i ++ adR q (x1, y1) k)) ∧ Hid (Value.ownBlock s6 ≠ some wo.heap.size) ∧ wi.cell? ⟨wo.heap.size, 0, none⟩ = some (.int .i64 x1) ∧ wi.cell? ⟨wo.heap.size, 1, none⟩ = some (.int .i64 y1) ∧ Below w.heap.size w wi) (fun _ s _ => n - (intOf s).toNat)
      case atStart =>
        refine ⟨0, Nat.zero_le _, rfl, ?_, HO.out _ (Nat.le_refl _), by simp, by simp, by go_grown⟩
        rw [HX0i.out, List.append_nil]
        exact HI.out.below (show Below wo.heap.size wo (wo.alloc (.cells #[.int .i64 x1, .int .i64 y1] 31)) by go_grown)
      case round =>
        obtain ⟨B8, hB8⟩ : ∃ B8, B8 = wo.heap.size := ⟨_, rfl⟩
        rw [← hB8] at hrel ⊢
        clear hB8 HI HO hB hs c0 c1
        obtain ⟨k, hk, rfl, HI, HO, s0, s1, hB⟩ := hrel
        have j1 : (0 : Int) ≤ (k : Int) := by omega
        by_cases hkl : k < n
        · have j2 : (k : Int) < (n : Int) := by omega
          obtain ⟨d0, d1⟩ := HUS.out _ hB k hkl
          have hln := HLi.out k hk
          obtain ⟨v1, v2⟩ := HBi.out k
          have HXx := Lib.hid (HXi.out k)
          generalize hU : cyc q k = U at *
          clear hU
          obtain ⟨x2, y2⟩ := U
          dsimp only at d0 d1 v1 v2
          have HPl := Lib.hid (fun w' => plus_any x1 y1 x2 y2 w' v1 v2)
          have HAd : Hid (adV (x1, y1) (x2, y2) = (x1 + x2, y1 + y2)) := rfl
          rw [HAd.out] at HXx
          obtain ⟨L, hL⟩ : ∃ L, L = sumK p q i ++ adR q (x1, y1) k := ⟨_, rfl⟩
          have HLe := Lib.hid hL
          rw [← hL] at hln HI
          obtain ⟨N, hN⟩ : ∃ N, N = L.length := ⟨_, rfl⟩
          rw [← hN] at hln
          have HNe := Lib.hid hN
          have hs := hB.size
          have t8 := cell_lt s0
          clear hL hN v1 v2
          go_wp2_with fail
          refine Calls.mono (HPl.out _) ?_
          rintro e w2 ⟨rfl, hb2⟩
          have hb3 : Below wr.heap.size wr w2 := belowTo (by go_grown) hb2
          have s0' := (hb3.cell (p := ⟨B8, 0, none⟩) t8).trans s0
          have s1' := (hb3.cell (p := ⟨B8, 1, none⟩) t8).trans s1
          have hB2 := hB.trans (hb3.mono hs)
          have hown := HI.out.below hb3
          unfold Vecs VRow at hown
          rw [← HNe.out] at hown
          have hbs := hB2.size
          have t9 := cell_lt s0'
          clear hb2 hb3 HI d0 d1 HPl hs hB
          go_wp2_with (at_builtin; refine wpList_append_own_at _ rfl _ _ 23 rfl w.heap.size 31 i0 (.agg #[.int .i64 (0), .int .i64 (0)]) 2 16 Tryd.underlying23 ‹_› hz0 hz1 hz2 rfl (by decide) _ _ _ rfl (hown.alloc _) ⟨_, 0, none⟩ 1 1 [.int .i64 (x1 + x2), .int .i64 (y1 + y2)] rfl rfl (sm_cells _ _ _ _) (sm_one _ _) ?c3 ?c4 ?c5 ?_)
          case c3 => unfold maxLen; omega
          case c4 => omega
          case c5 => simp; omega
          intro v' w8 hown' hgrow _ hob
          have hB9 := (hB2.alloc hbs _).grown hgrow (by simp; omega) (fun k hk => (hown.lt k hk).1)
          have z0 : w8.cell? ⟨B8, 0, none⟩ = some (.int .i64 x1) := (World.cell?_of_block (a := ⟨B8, 0, none⟩) (hgrow.block _ (by simp; omega) (fun e => HO.out e.symm))).trans ((World.cell?_alloc_lt _ _ ⟨_, _, none⟩ (by simp; omega)).trans s0')
          have z1 : w8.cell? ⟨B8, 1, none⟩ = some (.int .i64 y1) := (World.cell?_of_block (a := ⟨B8, 1, none⟩) (hgrow.block _ (by simp; omega) (fun e => HO.out e.symm))).trans ((World.cell?_alloc_lt _ _ ⟨_, _, none⟩ (by simp; omega)).trans s1')
          have HO4 : Hid (Value.ownBlock v' ≠ some B8) := by
            rcases hob with e | e
            · rw [e]; exact HO.out
            · rw [e]; intro q; simp at q; omega
          have HVv := Lib.hid (Vecs.snoc (l := L) HNe.out hown')
          rw [HLe.out, List.append_assoc, ← HXx.out] at HVv
          clear hown' hgrow hown hB2 hbs s0' s1' s0 s1 hln hob
          go_wp2
          go_roundw
          case rel => exact ⟨k + 1, by omega, by go_num, HVv, HO4, z0, z1, hB9⟩
          case measure => simp [intOf]; omega
        · obtain rfl : k = n := by omega
          have j2 : ¬ ((k : Nat) : Int) < (k : Int) := by omega
          rw [← HXKi.out] at HI
          clear s0 s1 HO HLi HBi HXi HXKi HX0i
          go_wp2
          go_roundw
          case rel => exact ⟨i + 1, by omega, by go_num, HI, hB⟩
          case measure => simp [intOf]; omega
    · obtain rfl : i = m := by omega
      have i2 : ¬ ((i : Nat) : Int) < (i : Int) := by omega
      have hV := HI.out
      rw [HZ.out] at hV
      have HH2 := Lib.hid (HH.out _ _ wr hV hB)
      clear hV HI HH HLn HBd HX HXK HX0 HZ0 HVS HUS
      go_wp2_with fail
      refine Calls.mono HH2.out ?_
      rintro e w3 ⟨v3, rfl, I3, hb3⟩
      have HI3 := Lib.hid (I3.lower hB.size)
      have hb := belowTo hB hb3
      clear hb3 I3 HH2
      go_wp2
      go_returns
      exact ⟨_, rfl, HI3.out, hb⟩
set_option maxHeartbeats 4000000 in
theorem checkAll_pp (v u : Value) (p q : List V2) (B : Nat) (w : World) (h : ReadsVecs w v p) (h2 : ReadsVecs w u q)
    (c0 : w.cell? ⟨B, 0, none⟩ = some (.iface 51 v)) (c1 : w.cell? ⟨B, 1, none⟩ = some (.iface 51 u)) (hB : B < w.heap.size) :
    Calls Tryd.prog 34 #[.slice (some ⟨B, 0, none⟩) 2 2] w fun e w' => PolyEnd (polyB p && polyB q) e ∧ Below w.heap.size w w' := by
  have HC := Lib.hid (fun w' hb => polyCheck_any v p w' (h.below (w := w) hb))
  have HD := Lib.hid (fun w' hb => polyCheck_any u q w' (h2.below (w := w) hb))
  clear h h2
  generalize polyB p = K at *
  generalize polyB q = J at *
  go_enter Tryd.func34, Tryd.ntmps34
  go_wp2
  refine wp_loop_rounds 3 ?_
  rw [rounds_succ]
  go_wp2_with fail
  refine Calls.mono (HC.out _ (by go_grown)) ?_
  rintro e w1 ⟨he, hb1⟩
  replace hb1 : Below w.heap.size w w1 := belowTo (by go_grown) hb1
  have c1' : w1.cell? ⟨B, 1, none⟩ = some (.iface 51 u) := (hb1.cell (p := ⟨B, 1, none⟩) hB).trans c1
  rcases polyEnd_of he with ⟨rfl, rfl⟩ | ⟨rfl, s, rfl⟩
  · have HD1 := Lib.hid (HD.out w1 hb1)
    clear he c0 c1 HC HD
    go_wp2_with fail
    rw [rounds_succ]
    go_wp2_with fail
    refine Calls.mono HD1.out ?_
    rintro e w2 ⟨he, hb2⟩
    clear c1' HD1
    rcases polyEnd_of he with ⟨rfl, rfl⟩ | ⟨rfl, s, rfl⟩
    · clear he
      go_wp2_with fail
      rw [rounds_succ]
      go_wp2
      go_returns
      exact ⟨polyEnd_ok rfl rfl, belowTo hb1 hb2⟩
    · clear he
      go_wp2
      go_returns
      exact ⟨polyEnd_err rfl ⟨_, rfl⟩, belowTo hb1 hb2⟩
  · clear he c0 c1 HC c1' HD
    go_wp2
    go_returns
    exact ⟨polyEnd_err rfl ⟨_, rfl⟩, hb1⟩
/-- the sum, and whether it is told -/
def SumB (p q : List V2) : Bool := (polyB p && polyB q) && polyB (hullD (smL p q))
def SumL (p q : List V2) : List V2 := gV (SumB p q) (hullD (smL p q))
theorem SumL_len (p q : List V2) : (SumL p q).length ≤ 576460752303423488 := gV_len (fun h => by
  unfold SumB at h
  rw [Bool.and_eq_true] at h
  have := poly_len h.2
  omega)
set_option maxHeartbeats 4000000 in
theorem polygonSum_any (v u : Value) (p q : List V2) (w : World) (hl : ReadsVecs w v p) (hl2 : ReadsVecs w u q) (hg : EtOk w) :
    Calls Tryd.prog 10 #[v, u] w (GivesVecsR w (SumL p q) (SumB p q)) := by
  have HC := Lib.hid (fun B w' (hb : Below w.heap.size w w') c0 c1 hB => checkAll_pp v u p q B w' (hl.below hb) (hl2.below hb) c0 c1 hB)
  have HP := Lib.hid (fun w' (hb : Below w.heap.size w w') hp hq => polyPlus_any v u p q w' (hl.below hb) (hl2.below hb) (hg.below hb) hp hq)
  obtain ⟨a, c, rfl, _⟩ := hl
  obtain ⟨a2, c2, rfl, _⟩ := hl2
  unfold SumL SumB
  generalize polyB (hullD (smL p q)) = K at *
  generalize hullD (smL p q) = H at *
  cases hk : (polyB p && polyB q)
  · rw [hk] at HC
    clear hk HP
    go_enter Tryd.func10, Tryd.ntmps10
    go_wp2_with fail
    refine Calls.mono (HC.out _ _ (by go_grown) (by go_cell) (by go_cell) (by go_size)) ?_
    rintro e w1 ⟨he, hb1⟩
    obtain ⟨s, rfl⟩ : IsNone e := he
    have hb : Below w.heap.size w w1 := belowTo (by go_grown) hb1
    clear hb1
    go_wp2_with fail
    refine Calls.mono (none_hit s _ (hg.below hb)) ?_
    rintro e w2 ⟨rfl, hb2⟩
    replace hb := belowTo hb hb2
    clear hb2
    go_wp2
    go_returns
    exact ⟨_, rfl, VecsR.nil _ _, hb⟩
  · rw [hk] at HC
    have hk2 : polyB p = true ∧ polyB q = true := by simpa using hk
    have HP2 := Lib.hid (fun w' hb => HP.out w' hb hk2.1 hk2.2)
    clear hk hk2 HP
    rw [Bool.true_and]
    generalize gV K H = L at *
    go_enter Tryd.func10, Tryd.ntmps10
    go_wp2_with fail
    refine Calls.mono (HC.out _ _ (by go_grown) (by go_cell) (by go_cell) (by go_size)) ?_
    rintro e w1 ⟨he, hb1⟩
    obtain rfl : e = .returned .nilIface := he
    have hb : Below w.heap.size w w1 := belowTo (by go_grown) hb1
    clear hb1
    go_wp2_with fail
    refine Calls.mono (none_nil _) ?_
    rintro e w2 ⟨rfl, hb2⟩
    replace hb := belowTo hb hb2
    have hs := hb.size
    clear hb2
    go_wp2_with fail
    refine Calls.mono (HP2.out _ hb) ?_
    rintro e w3 ⟨v3, rfl, I3, hb3⟩
    have HB := Lib.hid (belowTo hb hb3)
    have HI3 := Lib.hid (I3.lower hs)
    clear hb3 I3
    go_wp2
    go_returns
    exact ⟨_, rfl, HI3.out, HB.out⟩
end Go.Proofs.YtgaeibibeekclaaDoor

/- Sums of polygons: the model. -/
namespace Go.Proofs.YtgaeibibeekclaaDoor
open Go.RowKit

theorem sum_small5 {p q : List V2} (hp : polyB p = true) (hq : polyB q = true) : ∀ x ∈ smL p q, small5 x := fun x hx => by
  have := sum_small hp hq x hx
  unfold small5
  omega
theorem hullM_len (l : List V2) (h : l.length ≤ 1000) : (hullM l).length ≤ 576460752303423488 := by
  have h1 := sortD_len l
  unfold hullM
  split
  · omega
  · have h1' := half_len (sortD l)
    have h2' := half_len (sortD l).reverse
    have h4 : (sortD l).reverse.length = (sortD l).length := by simp
    show ((halfH (sortD l)).tail.reverse ++ (halfH (sortD l).reverse).tail.reverse).length ≤ _
    rw [List.length_append]
    omega
set_option maxRecDepth 100000 in
set_option maxHeartbeats 16000000 in
theorem l6gSum_any (v u : Value) (p q : List V2) (w : World) (hl : ReadsVecs w v p) (hl2 : ReadsVecs w u q) (hp : polyB p = true) (hq : polyB q = true) :
    Calls Tryd.prog 37 #[v, u] w (GivesVecs w (hullM (smL p q))) := by
  obtain ⟨i0, hi, hz0, hz1, hz2⟩ := info_parts infoVec
  have h30 := poly_len hp
  have h30' := poly_len hq
  have HH := Lib.hid (fun v' b' w' (hI : Vecs w' b' v' (smL p q)) => l6gHull_any v' (smL p q) w' (hI.reads (by have := smL_len h30.2 h30'.2; omega)) (smL_len h30.2 h30'.2) (sum_small5 hp hq))
  obtain ⟨bv, ov, vc, rfl, _, _, hbv, hvs⟩ := hl.open (by omega)
  obtain ⟨bu, ou, uc, rfl, _, _, hbu, hus⟩ := hl2.open (by omega)
  have HVS := Lib.hid hvs
  have HUS := Lib.hid hus
  have HMp := Lib.hid (fun a => poly_small hp a)
  have HMq := Lib.hid (fun a => poly_small hq a)
  have HLn := Lib.hid (fun i k (hi : i < p.length) (hk : k ≤ q.length) => sum_len h30.2 h30'.2 hi hk)
  have HX := Lib.hid (fun a k => adR_succ q a k)
  have HXK := Lib.hid (fun k => sumK_succ p q k)
  have HX0 := Lib.hid (fun a => adR_zero q a)
  have HZ0 := Lib.hid (sumK_zero p q)
  have HZ : Hid (sumK p q p.length = smL p q) := rfl
  have HEm := Lib.hid (Vecs.empty w)
  generalize hullM (smL p q) = H at *
  obtain ⟨m, hm⟩ : ∃ m, m = p.length := ⟨_, rfl⟩
  obtain ⟨n, hn⟩ : ∃ n, n = q.length := ⟨_, rfl⟩
  rw [← hm] at HLn HVS HZ h30 ⊢
  rw [← hn] at HLn HUS HXK h30' ⊢
  clear hl hl2 hp hq hvs hus hm hn
  go_enter Tryd.func37, Tryd.ntmps37
  go_wp2
  go_loopw [5, 6] (fun s6 s wr => ∃ i : Nat, i ≤ m ∧ s = .int .i64 i ∧ Hid (Vecs wr w.heap.size s6 (sumK p q i)) ∧ Below w.heap.size w wr) (fun _ s _ => m - (intOf s).toNat)
  case atStart => exact ⟨0, Nat.zero_le _, rfl, by rw [HZ0.out]; exact HEm.out, by go_grown⟩
  case round =>
    obtain ⟨i, hi', rfl, HI, hB⟩ := hrel
    have i1 : (0 : Int) ≤ (i : Int) := by omega
    by_cases hlt : i < m
    · have i2 : (i : Int) < (m : Int) := by omega
      have HCi := Lib.hid (fun w' hw => HVS.out w' hw i hlt)
      have HLi := Lib.hid (fun k hk => HLn.out i k hlt hk)
      have HXi := Lib.hid (fun k => HX.out (cyc p i) k)
      have HXKi := Lib.hid (HXK.out i)
      have HX0i := Lib.hid (HX0.out (cyc p i))
      have HMi := Lib.hid (HMp.out i)
      generalize hV : cyc p i = V at *
      clear hV
      obtain ⟨x1, y1⟩ := V
      dsimp only at HCi HMi
      clear HLn HX HXK HX0 HZ0 HVS HMp HEm
      go_wp2
      go_loopw [5, 7] (fun s6 s wi => ∃ k : Nat, k ≤ n ∧ s = .int .i64 k ∧ Hid (Vecs wi w.heap.size s6 (sumK p q i ++ adR q (x1, y1) k)) ∧ Below w.heap.size w wi) (fun _ s _ => n - (intOf s).toNat)
      case atStart => exact ⟨0, Nat.zero_le _, rfl, by rw [HX0i.out, List.append_nil]; exact HI.out, hB⟩
      case round =>
        clear HI hB
        obtain ⟨k, hk, rfl, HI, hB⟩ := hrel
        have j1 : (0 : Int) ≤ (k : Int) := by omega
        by_cases hkl : k < n
        · have j2 : (k : Int) < (n : Int) := by omega
          obtain ⟨c0, c1⟩ := HCi.out _ hB
          obtain ⟨d0, d1⟩ := HUS.out _ hB k hkl
          have hln := HLi.out k hk
          have m1 := HMi.out
          have m2 := HMq.out k
          have HXx := Lib.hid (HXi.out k)
          generalize hU : cyc q k = U at *
          clear hU
          obtain ⟨x2, y2⟩ := U
          dsimp only at d0 d1 m2
          have HAd : Hid (adV (x1, y1) (x2, y2) = (x1 + x2, y1 + y2)) := rfl
          rw [HAd.out] at HXx
          obtain ⟨X, hX⟩ : ∃ X, X = x1 + x2 := ⟨_, rfl⟩
          obtain ⟨Y, hY⟩ : ∃ Y, Y = y1 + y2 := ⟨_, rfl⟩
          have q1 : IntKind.i64.wrap (x1 + x2) = X := by rw [IntKind.wrap_i64, hX]; omega
          have q2 : IntKind.i64.wrap (y1 + y2) = Y := by rw [IntKind.wrap_i64, hY]; omega
          rw [← hX, ← hY] at HXx
          obtain ⟨L, hL⟩ : ∃ L, L = sumK p q i ++ adR q (x1, y1) k := ⟨_, rfl⟩
          have HLe := Lib.hid hL
          rw [← hL] at hln HI
          obtain ⟨N, hN⟩ : ∃ N, N = L.length := ⟨_, rfl⟩
          rw [← hN] at hln
          have HNe := Lib.hid hN
          have hown := HI.out
          unfold Vecs VRow at hown
          rw [← HNe.out] at hown
          have HOw := Lib.hid (World.ownsRow.drew hown)
          have hws := hB.size
          have HB := Lib.hid hB
          have hbv' := cell_lt c0
          have hbu' := cell_lt d0
          clear hL hN m1 m2 hX hY hown HI hB HCi HLi HXi HXKi HX0i HMi HMq HUS HAd HH HZ
          go_wp2
          refine wp_region_any (by kernel_rfl) ?_
          try (change wpAny _ _ _ _ _ _ _ (World.drew _))
          refine wpAny_of_held (S := fun w' => Below (w.heap.size) wr w') _ _ _ _ ?_
          have hSw : Below (w.heap.size) wr (World.drew wr) := by go_grown
          generalize hwd : World.drew wr = wd at hSw ⊢
          refine wpAnyH_take (i := 0) (v := ?_) rfl (by kernel_rfl) (by kernel_rfl) (by kernel_rfl) (fun _ _ _ h => h) (Or.inl ⟨by rfl, ?_⟩) hSw ?_
          rotate_left
          focus (intro w0 hS0; clear hS0; go_simp; try with_reducible rfl)
          refine wpAnyH_take (i := 1) (v := ?_) rfl (by kernel_rfl) (by kernel_rfl) (by kernel_rfl) (fun _ _ _ h => h) (Or.inl ⟨by rfl, ?_⟩) hSw ?_
          rotate_left
          focus (intro w0 hS0; clear hS0; go_simp; try with_reducible rfl)
          refine wpAnyH_take (i := 2) (v := ?_) rfl (by kernel_rfl) (by kernel_rfl) (by kernel_rfl) (fun _ _ _ h => h) (Or.inl ⟨by rfl, ?_⟩) hSw ?_
          rotate_left
          focus (intro w0 hS0; clear hS0; go_simp; try with_reducible rfl)
          refine wpAnyH_take (i := 3) (v := ?_) rfl (by kernel_rfl) (by kernel_rfl) (by kernel_rfl) (fun _ _ _ h => h) (Or.inl ⟨by rfl, ?_⟩) hSw ?_
          rotate_left
          focus (intro w0 hS0; clear hS0; go_simp; try with_reducible rfl)
          refine wpAnyH_take (i := 4) (v := ?_) rfl (by kernel_rfl) (by kernel_rfl) (by kernel_rfl) (fun _ _ _ h => h) (Or.inl ⟨by rfl, ?_⟩) hSw ?_
          rotate_left
          focus (intro w0 hS0; clear hS0; go_simp; try with_reducible rfl)
          refine wpAnyH_take (i := 5) (v := ?_) rfl (by kernel_rfl) (by kernel_rfl) (by kernel_rfl) (fun _ _ _ h => h) (Or.inl ⟨by rfl, ?_⟩) hSw ?_
          rotate_left
          focus (intro w0 hS0; have f0 := (hS0.cell (p := ⟨bv, ov + i * 2, none⟩) hbv).trans c0; have f1 := (hS0.cell (p := ⟨bv, ov + i * 2 + 1, none⟩) hbv).trans c1; have f2 := (hS0.cell (p := ⟨bu, ou + k * 2, none⟩) hbu).trans d0; have f3 := (hS0.cell (p := ⟨bu, ou + k * 2 + 1, none⟩) hbu).trans d1; clear hS0; go_simp; try with_reducible rfl)
          refine wpAnyH_take (i := 6) (v := ?_) rfl (by kernel_rfl) (by kernel_rfl) (by kernel_rfl) (fun _ _ _ h => h) (Or.inl ⟨by rfl, ?_⟩) hSw ?_
          rotate_left
          focus (intro w0 hS0; clear hS0; go_simp; try with_reducible rfl)
          refine wpAnyH_take (i := 7) (v := ?_) rfl (by kernel_rfl) (by kernel_rfl) (by kernel_rfl) (fun _ _ _ h => h) (Or.inl ⟨by rfl, ?_⟩) hSw ?_
          rotate_left
          focus (intro w0 hS0; clear hS0; go_simp; try with_reducible rfl)
          refine wpAnyH_take (i := 8) (v := ?_) rfl (by kernel_rfl) (by kernel_rfl) (by kernel_rfl) (fun _ _ _ h => h) (Or.inl ⟨by rfl, ?_⟩) hSw ?_
          rotate_left
          focus (intro w0 hS0; clear hS0; go_simp; try with_reducible rfl)
          refine wpAnyH_take (i := 9) (v := ?_) rfl (by kernel_rfl) (by kernel_rfl) (by kernel_rfl) (fun _ _ _ h => h) (Or.inl ⟨by rfl, ?_⟩) hSw ?_
          rotate_left
          focus (intro w0 hS0; clear hS0; go_simp; try with_reducible rfl)
          refine wpAnyH_take (i := 10) (v := ?_) rfl (by kernel_rfl) (by kernel_rfl) (by kernel_rfl) (fun _ _ _ h => h) (Or.inl ⟨by rfl, ?_⟩) hSw ?_
          rotate_left
          focus (intro w0 hS0; have f0 := (hS0.cell (p := ⟨bv, ov + i * 2, none⟩) hbv).trans c0; have f1 := (hS0.cell (p := ⟨bv, ov + i * 2 + 1, none⟩) hbv).trans c1; have f2 := (hS0.cell (p := ⟨bu, ou + k * 2, none⟩) hbu).trans d0; have f3 := (hS0.cell (p := ⟨bu, ou + k * 2 + 1, none⟩) hbu).trans d1; clear hS0; go_simp; try with_reducible rfl)
          refine wpAnyH_take (i := 11) (v := ?_) rfl (by kernel_rfl) (by kernel_rfl) (by kernel_rfl) (fun _ _ _ h => h) (Or.inl ⟨by rfl, ?_⟩) hSw ?_
          rotate_left
          focus (intro w0 hS0; clear hS0; go_simp; try with_reducible rfl)
          refine wpAnyH_take (i := 12) (v := ?_) rfl (by kernel_rfl) (by kernel_rfl) (by kernel_rfl) (fun _ _ _ h => h) (Or.inl ⟨by rfl, ?_⟩) hSw ?_
          rotate_left
          focus (intro w0 hS0; clear hS0; go_simp; try with_reducible rfl)
          refine wpAnyH_take (i := 13) (v := ?_) rfl (by kernel_rfl) (by kernel_rfl) (by kernel_rfl) (fun _ _ _ h => h) (Or.inl ⟨by rfl, ?_⟩) hSw ?_
          rotate_left
          focus (intro w0 hS0; clear hS0; go_simp; try with_reducible rfl)
          refine wpAnyH_take (i := 14) (v := ?_) rfl (by kernel_rfl) (by kernel_rfl) (by kernel_rfl) (fun _ _ _ h => h) (Or.inl ⟨by rfl, ?_⟩) hSw ?_
          rotate_left
          focus (intro w0 hS0; clear hS0; go_simp; try with_reducible rfl)
          refine wpAnyH_take (i := 15) (v := ?_) rfl (by kernel_rfl) (by kernel_rfl) (by kernel_rfl) (fun _ _ _ h => h) (Or.inl ⟨by rfl, ?_⟩) hSw ?_
          rotate_left
          focus (intro w0 hS0; clear hS0; go_simp; try with_reducible rfl)
          refine wpAnyH_take (i := 16) (v := ?_) rfl (by kernel_rfl) (by kernel_rfl) (by kernel_rfl) (fun _ _ _ h => h) (Or.inl ⟨by rfl, ?_⟩) hSw ?_
          rotate_left
          focus (intro w0 hS0; have f0 := (hS0.cell (p := ⟨bv, ov + i * 2, none⟩) hbv).trans c0; have f1 := (hS0.cell (p := ⟨bv, ov + i * 2 + 1, none⟩) hbv).trans c1; have f2 := (hS0.cell (p := ⟨bu, ou + k * 2, none⟩) hbu).trans d0; have f3 := (hS0.cell (p := ⟨bu, ou + k * 2 + 1, none⟩) hbu).trans d1; clear hS0; go_simp; try with_reducible rfl)
          refine wpAnyH_take (i := 17) (v := ?_) rfl (by kernel_rfl) (by kernel_rfl) (by kernel_rfl) (fun _ _ _ h => h) (Or.inl ⟨by rfl, ?_⟩) hSw ?_
          rotate_left
          focus (intro w0 hS0; clear hS0; go_simp; try with_reducible rfl)
          refine wpAnyH_take (i := 18) (v := ?_) rfl (by kernel_rfl) (by kernel_rfl) (by kernel_rfl) (fun _ _ _ h => h) (Or.inl ⟨by rfl, ?_⟩) hSw ?_
          rotate_left
          focus (intro w0 hS0; clear hS0; go_simp; try with_reducible rfl)
          refine wpAnyH_take (i := 19) (v := ?_) rfl (by kernel_rfl) (by kernel_rfl) (by kernel_rfl) (fun _ _ _ h => h) (Or.inl ⟨by rfl, ?_⟩) hSw ?_
          rotate_left
          focus (intro w0 hS0; clear hS0; go_simp; try with_reducible rfl)
          refine wpAnyH_take (i := 20) (v := ?_) rfl (by kernel_rfl) (by kernel_rfl) (by kernel_rfl) (fun _ _ _ h => h) (Or.inl ⟨by rfl, ?_⟩) hSw ?_
          rotate_left
          focus (intro w0 hS0; clear hS0; go_simp; try with_reducible rfl)
          refine wpAnyH_take (i := 21) (v := ?_) rfl (by kernel_rfl) (by kernel_rfl) (by kernel_rfl) (fun _ _ _ h => h) (Or.inl ⟨by rfl, ?_⟩) hSw ?_
          rotate_left
          focus (intro w0 hS0; have f0 := (hS0.cell (p := ⟨bv, ov + i * 2, none⟩) hbv).trans c0; have f1 := (hS0.cell (p := ⟨bv, ov + i * 2 + 1, none⟩) hbv).trans c1; have f2 := (hS0.cell (p := ⟨bu, ou + k * 2, none⟩) hbu).trans d0; have f3 := (hS0.cell (p := ⟨bu, ou + k * 2 + 1, none⟩) hbu).trans d1; clear hS0; go_simp; try with_reducible rfl)
          refine wpAnyH_take (i := 22) (v := ?_) rfl (by kernel_rfl) (by kernel_rfl) (by kernel_rfl) (fun _ _ _ h => h) (Or.inl ⟨by rfl, ?_⟩) hSw ?_
          rotate_left
          focus (intro w0 hS0; clear hS0; go_simp; try with_reducible rfl)
          refine wpAnyH_take (i := 23) (v := ?_) rfl (by kernel_rfl) (by kernel_rfl) (by kernel_rfl) (fun _ _ _ h => h) (Or.inl ⟨by rfl, ?_⟩) hSw ?_
          rotate_left
          focus (intro w0 hS0; clear hS0; go_simp; try with_reducible rfl)
          refine wpAnyH_ready (rs := [24]) (by kernel_rfl) (by simp) (AllReadyH.cons rfl (fun K hK => ?_) (AllReadyH.nil))
          go_simp
          (have hwz : w.heap.size ≤ wd.heap.size := (by rw [← hwd]; exact hws); have HOz := HOw; rw [hwd] at HOz; replace hSw := hSw.alloc hwz (.cells #[.int .i64 X, .int .i64 Y] 31); refine hK.out _ _ hSw (fun _ => ?_); clear hK K)
          refine wpAnyH_ready (rs := [25]) (by kernel_rfl) (by simp) (AllReadyH.cons rfl (fun K hK => ?_) (AllReadyH.nil))
          (refine step_list (by rintro ⟨_, _, h⟩; obtain ⟨_, hv, _⟩ := h; cases hv) (by kernel_rfl) ?_; refine wpList_append_own_at _ rfl _ _ 23 rfl w.heap.size 31 i0 (.agg #[.int .i64 (0), .int .i64 (0)]) 2 16 Tryd.underlying23 hi hz0 hz1 hz2 rfl (by decide) _ _ _ rfl (HOz.out.alloc _) ⟨_, 0, none⟩ 1 1 [.int .i64 X, .int .i64 Y] rfl rfl (sm_cells _ X Y _) (sm_one X Y) (by unfold maxLen; omega) (by omega) (by simp; omega) ?_; intro v' w4 hown' hgrow _ _; replace hSw := hSw.grown hgrow (by simp; omega) (fun k hk => (HOz.out.lt k hk).1); refine hK.out _ _ hSw (fun _ => ?_); clear hK K)
          refine wpAnyH_take (i := 26) (v := ?_) rfl (by kernel_rfl) (by kernel_rfl) (by kernel_rfl) (fun _ _ _ h => h) (Or.inl ⟨by rfl, ?_⟩) hSw ?_
          rotate_left
          focus (intro w0 hS0; clear hS0; go_simp; try with_reducible rfl)
          refine wpAnyH_done (by kernel_rfl) ?_ _
          have HB5 := Lib.hid (HB.out.trans hSw)
          have HVv := Lib.hid (Vecs.snoc (l := L) HNe.out hown')
          rw [HLe.out, List.append_assoc, ← HXx.out] at HVv
          clear hown' hgrow hSw c0 c1 d0 d1 hln
          go_wp2
          go_roundw
          case rel => exact ⟨k + 1, by omega, by go_num, HVv, HB5.out⟩
          case measure => simp [intOf]; omega
        · obtain rfl : k = n := by omega
          have j2 : ¬ ((k : Nat) : Int) < (k : Int) := by omega
          rw [← HXKi.out] at HI
          clear HLi HXi HXKi HX0i HCi HMi HMq
          go_wp2
          go_roundw
          case rel => exact ⟨i + 1, by omega, by go_num, HI, hB⟩
          case measure => simp [intOf]; omega
    · obtain rfl : i = m := by omega
      have i2 : ¬ ((i : Nat) : Int) < (i : Int) := by omega
      have hV := HI.out
      rw [HZ.out] at hV
      have HH2 := Lib.hid (HH.out _ _ wr hV)
      clear hV HI HH HLn HX HXK HX0 HZ0 HVS HUS HMp HMq HEm
      go_wp2_with fail
      refine Calls.mono HH2.out ?_
      rintro e w3 ⟨v3, rfl, I3, hb3⟩
      have HI3 := Lib.hid (I3.lower hB.size)
      have hb := belowTo hB hb3
      clear hb3 I3 HH2
      go_wp2
      go_returns
      exact ⟨_, rfl, HI3.out, hb⟩
set_option maxHeartbeats 4000000 in
theorem specPolygonSum_any (v u : Value) (p q : List V2) (w : World) (hl : ReadsVecs w v p) (hl2 : ReadsVecs w u q) :
    Calls Tryd.prog 11 #[v, u] w (GivesVecsOk w (SumL p q) (SumB p q)) := by
  have HC := Lib.hid (fun w' (hb : Below w.heap.size w w') => specPolygonIn_any v p w' (hl.below hb))
  have HC2 := Lib.hid (fun w' (hb : Below w.heap.size w w') => specPolygonIn_any u q w' (hl2.below hb))
  have HS := Lib.hid (fun w' (hb : Below w.heap.size w w') hp hq => l6gSum_any v u p q w' (hl.below hb) (hl2.below hb) hp hq)
  have HD := Lib.hid (fun v' b' w' (hI : Vecs w' b' v' (hullM (smL p q))) (hm : (hullM (smL p q)).length ≤ 576460752303423488) => l6gDone_any v' (hullM (smL p q)) w' (hI.reads hm))
  have HLn := Lib.hid (fun (hp : polyB p = true) (hq : polyB q = true) => hullM_len _ (smL_len (poly_len hp).2 (poly_len hq).2))
  have hE := Lib.hid (fun w' => Vecs.empty w')
  unfold TidyS at HD
  rw [(hullM_done (smL p q)).2, (hullM_done (smL p q)).1] at HD
  obtain ⟨a, c, rfl, _⟩ := hl
  obtain ⟨a2, c2, rfl, _⟩ := hl2
  unfold SumL SumB
  generalize hullM (smL p q) = M at *
  generalize polyB (hullD (smL p q)) = K at *
  generalize hullD (smL p q) = H at *
  cases hk : polyB p
  · rw [hk] at HC
    clear hk HC2 HS HD HLn
    go_enter Tryd.func11, Tryd.ntmps11
    go_wp2_with fail
    refine Calls.mono (HC.out _ (by go_grown)) ?_
    rintro e w1 ⟨rfl, hb1⟩
    have hb : Below w.heap.size w w1 := belowTo (by go_grown) hb1
    have hs := hb.size
    have HE := Lib.hid ((hE.out w1).lower hs)
    clear hb1
    go_wp2
    go_returns
    exact ⟨_, rfl, HE.out, by go_grown⟩
  · rw [hk] at HC
    cases hk2 : polyB q
    · rw [hk2] at HC2
      clear hk hk2 HS HD HLn
      go_enter Tryd.func11, Tryd.ntmps11
      go_wp2_with fail
      refine Calls.mono (HC.out _ (by go_grown)) ?_
      rintro e w1 ⟨rfl, hb1⟩
      have hb : Below w.heap.size w w1 := belowTo (by go_grown) hb1
      clear hb1
      go_wp2_with fail
      refine Calls.mono (HC2.out _ hb) ?_
      rintro e w2 ⟨rfl, hb2⟩
      replace hb := belowTo hb hb2
      have hs := hb.size
      have HE := Lib.hid ((hE.out w2).lower hs)
      clear hb2
      go_wp2
      go_returns
      exact ⟨_, rfl, HE.out, by go_grown⟩
    · rw [hk2] at HC2
      have HS2 := Lib.hid (fun w' hb => HS.out w' hb hk hk2)
      have HLn2 := Lib.hid (HLn.out hk hk2)
      clear hk hk2 HS HLn
      rw [Bool.true_and, Bool.true_and]
      generalize gV K H = L at *
      go_enter Tryd.func11, Tryd.ntmps11
      go_wp2_with fail
      refine Calls.mono (HC.out _ (by go_grown)) ?_
      rintro e w1 ⟨rfl, hb1⟩
      have hb : Below w.heap.size w w1 := belowTo (by go_grown) hb1
      clear hb1
      go_wp2_with fail
      refine Calls.mono (HC2.out _ hb) ?_
      rintro e w2 ⟨rfl, hb2⟩
      replace hb := belowTo hb hb2
      clear hb2
      go_wp2_with fail
      refine Calls.mono (HS2.out _ hb) ?_
      rintro e w3 ⟨v3, rfl, I3, hb3⟩
      have HD2 := Lib.hid (HD.out v3 _ w3 I3 HLn2.out)
      replace hb := belowTo hb hb3
      clear hb3 I3 HD HS2
      go_wp2_with fail
      refine Calls.mono HD2.out ?_
      rintro e w4 ⟨v4, rfl, I4, hb4⟩
      have HI4 := Lib.hid (I4.lower hb.size)
      replace hb := belowTo hb hb4
      clear hb4 I4 HD2
      go_wp2
      go_returns
      exact ⟨_, rfl, HI4.out, hb⟩
end Go.Proofs.YtgaeibibeekclaaDoor

/- PolygonMixed: both sides. -/
namespace Go.Proofs.YtgaeibibeekclaaDoor
open Go.RowKit

def mixZ (p q : List V2) : Int := (areaZ (SumL p q) - areaZ p - areaZ q).tdiv 2
theorem sum_parts {p q : List V2} (h : SumB p q = true) : polyB p = true ∧ polyB q = true ∧ polyB (SumL p q) = true := by
  have h' := h
  unfold SumB at h'
  rw [Bool.and_eq_true, Bool.and_eq_true] at h'
  refine ⟨h'.1.1, h'.1.2, ?_⟩
  unfold SumL
  rw [h]
  exact h'.2
theorem poly_areaB {l : List V2} (h : polyB l = true) : -2000000000 ≤ areaZ l ∧ areaZ l ≤ 2000000000 :=
  area_bnd (poly_allV h) (by have := poly_len h; omega) (by have := poly_len h; omega)
end Go.Proofs.YtgaeibibeekclaaDoor
