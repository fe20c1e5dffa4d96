/- Tables: the program's table of a smooth fan. -/
import Derived.Test.YtohojjoediibhaaDoorEm
import Derived.Test.YtohojjoediibhaaDoorEi
import Derived.Test.YtohojjoediibhaaDoorB9
import Derived.Laws.Tables
import Derived.Deep.MidRow
import Derived.Laws.CopyOwn
namespace Go.Proofs.YtohojjoediibhaaDoor
open Go.RowKit Go.Maps

/-! a table that is filled up to row i and column k -/
def cellP (l : List V2) (i k q : Nat) : Int := if q % 18 < l.length - 2 ∧ (q / 18 < i ∨ (q / 18 = i ∧ q % 18 < k)) then tabZ l (q / 18) (q % 18) else 0
def tabP (l : List V2) (i k : Nat) : List Value := (List.range 324).map fun q => .int .i64 (cellP l i k q)
theorem tabP_len (l : List V2) (i k : Nat) : (tabP l i k).length = 324 := by simp [tabP]
theorem tabP_get {l : List V2} {i k q : Nat} (h : q < 324) : (tabP l i k)[q]? = some (.int .i64 (cellP l i k q)) := by simp [tabP, h]
theorem tabP_one (l : List V2) (i k : Nat) : ∀ v ∈ tabP l i k, v.oneCell' = true := by
  intro v hv
  obtain ⟨q, _, rfl⟩ := List.mem_map.1 hv
  rfl
theorem tabP_zero (l : List V2) : tabP l 0 0 = List.replicate 324 (.int .i64 0) := by
  refine List.ext_getElem (by rw [tabP_len, List.length_replicate]) (fun q h1 h2 => ?_)
  rw [List.getElem_replicate]
  simp only [tabP, List.getElem_map, List.getElem_range, cellP]
  rw [if_neg (by omega)]
theorem zeroTable : Tryd.zeroCells125 = (List.replicate 324 (Value.int .i64 0)).toArray := by kernel_rfl
theorem tabP_set {l : List V2} {i k : Nat} (hk : k < 18) (hn : k < l.length - 2) : (tabP l i k).set (i * 18 + k) (.int .i64 (tabZ l i k)) = tabP l i (k + 1) := by
  refine List.ext_getElem (by simp [tabP]) (fun q h1 h2 => ?_)
  have hq : q < 324 := by simpa [tabP] using h2
  rw [List.getElem_set]
  by_cases e : i * 18 + k = q
  · subst e
    rw [if_pos rfl]
    simp only [tabP, List.getElem_map, List.getElem_range, cellP]
    rw [show (i * 18 + k) % 18 = k by omega, show (i * 18 + k) / 18 = i by omega, if_pos ⟨hn, .inr ⟨rfl, by omega⟩⟩]
  · rw [if_neg e]
    simp only [tabP, List.getElem_map, List.getElem_range, cellP]
    have : ¬ (q / 18 = i ∧ q % 18 = k) := by omega
    by_cases h : q % 18 < l.length - 2 ∧ (q / 18 < i ∨ (q / 18 = i ∧ q % 18 < k))
    · rw [if_pos h, if_pos (by omega)]
    · rw [if_neg h, if_neg (by omega)]
theorem tabP_row (l : List V2) (i : Nat) : tabP l i (l.length - 2) = tabP l (i + 1) 0 := by
  refine List.ext_getElem (by simp [tabP]) (fun q h1 h2 => ?_)
  simp only [tabP, List.getElem_map, List.getElem_range, cellP]
  by_cases h : q % 18 < l.length - 2 ∧ (q / 18 < i ∨ (q / 18 = i ∧ q % 18 < l.length - 2))
  · rw [if_pos h, if_pos (by omega)]
  · rw [if_neg h, if_neg (by omega)]
/-- the whole table -/
def tabL (l : List V2) : List Value := tabP l (l.length - 2) 0
theorem tabL_get {l : List V2} {i k : Nat} (hi : i < 18) (hk : k < 18) : (tabL l)[i * 18 + k]? = some (.int .i64 (if k < l.length - 2 ∧ i < l.length - 2 then tabZ l i k else 0)) := by
  unfold tabL
  rw [tabP_get (by omega)]
  simp only [cellP]
  rw [show (i * 18 + k) % 18 = k by omega, show (i * 18 + k) / 18 = i by omega]
  by_cases h : k < l.length - 2 ∧ i < l.length - 2
  · rw [if_pos h, if_pos (by omega)]
  · rw [if_neg h, if_neg (by omega)]
theorem infoTable : (Tryd.prog.info? 125).map (·.size) = some 324 := by kernel_rfl
/-- what stays while a table is filled: the result's block, the rays' list -/
def TabB (w wr : World) (R b : Nat) (v : Value) (l : List V2) : Prop := RowAt wr R 125 (tabP l 0 0) ∧ Vecs wr b v l ∧ Below w.heap.size w wr ∧ b ≤ wr.heap.size
theorem TabB.more {w wr : World} {R b : Nat} {v : Value} {l : List V2} (h : TabB w wr R b v l) (o : Obj) : TabB w (wr.alloc o) R b v l :=
  ⟨h.1.more o, h.2.1.below (by go_grown), h.2.2.1.alloc h.2.2.1.size o, by simp; have := h.2.2.2; omega⟩
theorem TabB.drawn {w wr : World} {R b : Nat} {v : Value} {l : List V2} (h : TabB w wr R b v l) : TabB w wr.drew R b v l := ⟨h.1, h.2.1.below (by go_grown), h.2.2.1.drew, h.2.2.2⟩
theorem TabB.grown {w wr w' : World} {R b k : Nat} {v : Value} {l : List V2} (h : TabB w wr R b v l) (hg : wr.grownBy w' (some k)) (hk : w.heap.size ≤ k) (hR : R ≠ k) (hb : k < b) : TabB w w' R b v l :=
  ⟨h.1.grown hg (fun e => hR (by injection e)), h.2.1.far hg (fun q hq e => by have := (h.2.1.block q hq).1; cases e; omega), h.2.2.1.grown hg h.2.2.1.size (fun q e => by cases e; exact hk), Nat.le_trans h.2.2.2 hg.size⟩
theorem TabB.put {w wr : World} {R b k o : Nat} {v : Value} {l : List V2} (h : TabB w wr R b v l) (hk : w.heap.size ≤ k) (hR : R ≠ k) (hb : k < b) (u : Value) : TabB w (wr.setCell ⟨k, o, none⟩ u) R b v l :=
  h.grown (grown_set wr k o u) hk hR hb
set_option maxRecDepth 100000 in
set_option maxHeartbeats 16000000 in
theorem table_any (base g : Nat) (ns : List Node) (w : World) (hF : FanAt w base g ns) (hS : smoothB (rays ns) = true) :
    Calls Tryd.prog 132 #[.pointer (some ⟨g, 0, none⟩)] w fun e w' => e = .returned (.agg (tabL (rays ns)).toArray) ∧ Below w.heap.size w w' := by
  have h3 := smooth_len hS
  rw [rays_len] at h3
  have hv := (smooth_all hS).1
  have hmm := @run_makeMap Tryd.prog
  have HRy := Lib.hid (fun w' (hb : Below w.heap.size w w') => rays_any base g ns w' (hF.below hb) (by omega))
  have HAt := Lib.hid (fun m w' (hb : Below w.heap.size w w') (hm : m < ns.length) => at_in base g ns m w' (hF.below hb) (by omega) hm)
  have HTl := Lib.hid (fun m c D x w' (hb : Below w.heap.size w w') (hm : w.heap.size ≤ m) hown => tell_any m c D ns x w' (hF.ring.below hb) (fun i => by have := hF.ring.lt i; omega) hv hown)
  have HTd := Lib.hid (fun i k (hi : i + 2 < (rays ns).length) hk => toldM_at hS (i := i) (k := k) hi hk)
  have HV := Lib.hid hv
  have HL := Lib.hid (rays_len ns)
  have HZ := Lib.hid zeroTable
  clear hF hS hv
  go_enter Tryd.func132, Tryd.ntmps132
  go_wp2_with fail
  have hA : Below w.heap.size w (((w.alloc (.cells Tryd.zeroCells125 125)).alloc (.cells Tryd.zeroCells125 125)).alloc (.map #[] 0)) := by go_grown
  have hR0 : RowAt (((w.alloc (.cells Tryd.zeroCells125 125)).alloc (.cells Tryd.zeroCells125 125)).alloc (.map #[] 0)) w.heap.size 125 (tabP (rays ns) 0 0) := by
    rw [HZ.out, ← tabP_zero (rays ns)]
    exact ((RowAt.made w 125 (tabP (rays ns) 0 0)).more _).more _
  have hT0 : RowAt (((w.alloc (.cells Tryd.zeroCells125 125)).alloc (.cells Tryd.zeroCells125 125)).alloc (.map #[] 0)) (w.heap.size + 1) 125 (tabP (rays ns) 0 0) := by
    rw [HZ.out, ← tabP_zero (rays ns)]
    have := (RowAt.made (w.alloc (.cells (tabP (rays ns) 0 0).toArray 125)) 125 (tabP (rays ns) 0 0)).more (.map #[] 0)
    rwa [World.size_alloc] at this
  have hM0 : OwnMap (((w.alloc (.cells Tryd.zeroCells125 125)).alloc (.cells Tryd.zeroCells125 125)).alloc (.map #[] 0)) (w.heap.size + 1 + 1) 0 (.map []) := by
    have := World.ownsMap_made (H := Unit) ((w.alloc (.cells Tryd.zeroCells125 125)).alloc (.cells Tryd.zeroCells125 125)) Tryd.prog 43 (plainElem Tryd.prog 3)
    simpa [OwnMap] using this
  have hz0 : (((w.alloc (.cells Tryd.zeroCells125 125)).alloc (.cells Tryd.zeroCells125 125)).alloc (.map #[] 0)).heap.size = w.heap.size + 1 + 1 + 1 := by simp
  generalize (((w.alloc (.cells Tryd.zeroCells125 125)).alloc (.cells Tryd.zeroCells125 125)).alloc (.map #[] 0)) = W0 at *
  refine Calls.mono (HRy.out W0 hA) ?_
  rintro e w1 ⟨v1, rfl, hV1, hb1⟩
  have hl : (rays ns).length = ns.length := rays_len ns
  have HB1 : Hid (TabB w w1 w.heap.size (w.heap.size + 1 + 1 + 1) v1 (rays ns)) := ⟨hR0.below hb1, hV1.lower (by omega), belowTo hA hb1, by have := hb1.size; omega⟩
  have HT1 : Hid (RowAt w1 (w.heap.size + 1) 125 (tabP (rays ns) 0 0)) := hT0.below hb1
  have HM1 : Hid (OwnMap w1 (w.heap.size + 1 + 1) 0 (.map [])) := OwnMap.below hM0 hb1
  obtain ⟨bb, off, c, hv1, hcap, _, hbb, _⟩ := (hV1.reads (by omega)).open (by omega)
  subst hv1
  obtain ⟨n, hn⟩ : ∃ n, n = ns.length := ⟨_, rfl⟩
  have HRd := Lib.hid (fun wr (h : TabB w wr w.heap.size (w.heap.size + 1 + 1 + 1) (.slice (some ⟨bb, off, none⟩) (rays ns).length c) (rays ns)) k (hk : k < ns.length) => (h.2.1.reads (show (rays ns).length ≤ 576460752303423488 by omega)).open (by omega))
  have HTd2 := HTd
  rw [hl, ← hn] at hcap HB1 ⊢
  have hn2 : ¬ c = 2 := by omega
  have hn3 : 2 ≤ n := by omega
  have hn4 : (2 : Int) ≤ (n : Int) := by omega
  have hn5 : 2 ≤ c := by omega
  have hn6 : (2 : Int) ≤ (c : Int) := by omega
  have hn7 : n ≤ c := by omega
  have HN := Lib.hid hn
  have HLn := Lib.hid hl
  clear hA hR0 hT0 hM0 hV1 hb1 HRy hn hl
  go_wp2
  obtain ⟨N, hN⟩ : ∃ N, N = n - 2 := ⟨_, rfl⟩
  have HNn : Hid (N = (rays ns).length - 2 ∧ N + 2 = n ∧ n = ns.length) := ⟨by have := HN.out; have := HLn.out; omega, by omega, HN.out⟩
  have hN18 : N ≤ 18 := by have := HN.out; omega
  have hN1 : 1 ≤ N := by have := HN.out; omega
  rw [← hN]
  clear hN hn2 hn3 hn4 hn5 hn6 hn7 hcap
  go_loopw [15] (fun s15 wr => ∃ i : Nat, s15 = .int .i64 i ∧ i ≤ N ∧ Hid (TabB w wr w.heap.size (w.heap.size + 1 + 1 + 1) (.slice (some ⟨bb, off, none⟩) n c) (rays ns)) ∧ Hid (RowAt wr (w.heap.size + 1) 125 (tabP (rays ns) i 0)) ∧ Hid (∃ k D, OwnMap wr (w.heap.size + 1 + 1) k D)) (fun s15 _ => N - (intOf s15).toNat)
  case atStart => exact ⟨0, rfl, Nat.zero_le _, HB1, HT1, ⟨_, _, HM1.out⟩⟩
  case round =>
    obtain ⟨i, rfl, hi, HB, HT, HM⟩ := hrel
    clear HB1 HT1 HM1
    have i0 : (0 : Int) ≤ (i : Int) := by omega
    by_cases hlt : i < N
    · have i1 : (i : Int) < (N : Int) := by omega
      have q1 : IntKind.i64.wrap ((i : Int) + 2) = (i : Int) + 2 := by rw [IntKind.wrap_i64]; omega
      have hB := HB.out.2.2.1
      have hA2 := HAt.out (i + 2) wr hB (by have := HNn.out; omega)
      rw [show ((i + 2 : Nat) : Int) = (i : Int) + 2 by simp] at hA2
      have HA2 := Lib.hid hA2
      obtain ⟨k0, D0, hM0⟩ := HM.out
      have HT2 := Lib.hid (HTl.out (w.heap.size + 1 + 1) k0 D0 (i + 2) wr hB (by omega) hM0)
      clear hA2 hB hM0 HM
      go_wp2_with fail
      refine Calls.mono HA2.out ?_
      rintro e w2 ⟨rfl, rfl⟩
      go_wp2_with fail
      refine Calls.mono HT2.out ?_
      rintro e w3 ⟨⟨ve, rfl⟩, hM3, hg3⟩
      have HB3 := Lib.hid (HB.out.grown hg3 (by omega) (by omega) (by omega))
      have HT3 := Lib.hid (HT.out.grown hg3 (fun e => by injection e; omega))
      have HM3 := Lib.hid hM3
      clear hM3 hg3 HT2 HA2 HB HT
      go_wp2
      go_loopw [26] (fun s26 wr => ∃ k : Nat, s26 = .int .i64 k ∧ k ≤ N ∧ Hid (TabB w wr w.heap.size (w.heap.size + 1 + 1 + 1) (.slice (some ⟨bb, off, none⟩) n c) (rays ns)) ∧ Hid (RowAt wr (w.heap.size + 1) 125 (tabP (rays ns) i k)) ∧ Hid (OwnMap wr (w.heap.size + 1 + 1) 3 (toldM (rays ns) (i + 2)))) (fun s26 _ => N - (intOf s26).toNat)
      case atStart => exact ⟨0, rfl, Nat.zero_le _, HB3, HT3, HM3⟩
      case round =>
        obtain ⟨k, rfl, hk, HB, HT, HM⟩ := hrel
        clear HB3 HT3 HM3
        have k0 : (0 : Int) ≤ (k : Int) := by omega
        by_cases hlk : k < N
        · have k1 : (k : Int) < (N : Int) := by omega
          have hi18 : (i : Int) < 18 := by omega
          have hk18 : (k : Int) < 18 := by omega
          have HS := Lib.hid (tabP_set (l := rays ns) (i := i) (k := k) (by omega) (by have := HNn.out; omega))
          obtain ⟨bb', off', c', hv', _, _, _, hcs⟩ := (HB.out.2.1.reads (show (rays ns).length ≤ 576460752303423488 by have := HLn.out; omega)).open (by have := HLn.out; omega)
          obtain ⟨rfl, rfl⟩ : bb = bb' ∧ off = off' := by
            injection hv' with h1
            injection h1 with h1
            injection h1 with h1 h2
            exact ⟨h1, h2⟩
          obtain ⟨g0, g1⟩ := hcs _ (Below.refl _ _) (k + 2) (by have := HNn.out; omega)
          have hvk := HV.out (k + 2)
          rw [show off + (k + 2) * 2 = off + 4 + k * 2 by omega] at g0 g1
          have hat2 := HTd.out i k (by have := HNn.out; omega) (by have := HNn.out; omega)
          obtain ⟨p, hp⟩ : ∃ p, p = cyc (rays ns) (k + 2) := ⟨_, rfl⟩
          rw [← hp] at g0 g1 hvk hat2
          obtain ⟨x, y⟩ := p
          dsimp only at g0 g1 hvk
          have HK := Lib.hid (keyOf_vec (wf_vec hvk).1 (wf_vec hvk).2)
          have HAt2 := Lib.hid hat2
          obtain ⟨z, hz⟩ : ∃ z, z = tabZ (rays ns) i k := ⟨_, rfl⟩
          rw [← hz] at HS HAt2
          have HL8 : Hid (∀ W : World, OwnMap W (w.heap.size + 1 + 1) 3 (toldM (rays ns) (i + 2)) → (Instr.lookup 148 (.map (some (w.heap.size + 1 + 1))) (.agg #[.int .i64 (x), .int .i64 (y)]) false).run Tryd.prog W = .ok (.int .i64 z) W) := by
            intro W hM
            obtain ⟨cc, hrun, hat, _⟩ := World.ownsMap.lookup_int hM keyLaw Tryd.underlying148 Tryd.underlying3 (zeroInt W) HK.out
            have e := hat.symm.trans HAt2.out
            have : cc = z := by
              unfold numV at e
              injection e with e
              injection e
            rw [this] at hrun
            exact hrun
          clear hv' hcs hvk hat2 hp hz HK HAt2
          have HB8 := Lib.hid (HB.out.more (.cells #[.int .i64 x, .int .i64 y] 43))
          have HT8 := Lib.hid (HT.out.more (.cells #[.int .i64 x, .int .i64 y] 43))
          have HM8 := Lib.hid (show OwnMap (wr.alloc (.cells #[.int .i64 x, .int .i64 y] 43)) (w.heap.size + 1 + 1) 3 (toldM (rays ns) (i + 2)) from World.ownsMap.alloc HM.out _)
          clear HB HT HM
          go_wp2
          have h80 : (wr.alloc (.cells #[.int .i64 x, .int .i64 y] 43)).cell? ⟨wr.heap.size, 0, none⟩ = some (.int .i64 x) := by simp
          have h81 : (wr.alloc (.cells #[.int .i64 x, .int .i64 y] 43)).cell? ⟨wr.heap.size, 1, none⟩ = some (.int .i64 y) := by simp
          generalize wr.alloc (.cells #[.int .i64 x, .int .i64 y] 43) = W8 at *
          have hrun := HL8.out W8.drew (OwnMap.drewn HM8.out)
          have f0 := HT8.out.free
          have f1 := HT8.out.val (i * 18 + k)
          rw [tabP_get (by omega)] at f1
          have hbk := HT8.out.here
          refine wp_region_any (by kernel_rfl) ?_
          try (change wpAny _ _ _ _ _ _ _ (World.drew _))
          refine wpAny_take (i := 0) (v := ?_) rfl (by kernel_rfl) (by kernel_rfl) (by kernel_rfl) (fun _ _ _ h => h) (Or.inl ⟨by rfl, ?_⟩) ?_
          rotate_left
          focus (intro w0; go_simp; try with_reducible rfl)
          refine wpAny_take (i := 1) (v := ?_) rfl (by kernel_rfl) (by kernel_rfl) (by kernel_rfl) (fun _ _ _ h => h) (Or.inl ⟨by rfl, ?_⟩) ?_
          rotate_left
          focus (intro w0; go_simp; try with_reducible rfl)
          refine wpAny_take (i := 2) (v := ?_) rfl (by kernel_rfl) (by kernel_rfl) (by kernel_rfl) (fun _ _ _ h => h) (Or.inl ⟨by rfl, ?_⟩) ?_
          rotate_left
          focus (intro w0; go_simp; try with_reducible rfl)
          refine wpAny_take (i := 5) (v := ?_) rfl (by kernel_rfl) (by kernel_rfl) (by kernel_rfl) (fun _ _ _ h => h) (Or.inl ⟨by rfl, ?_⟩) ?_
          rotate_left
          focus (intro w0; go_simp; try with_reducible rfl)
          refine wpAny_ready (rs := [3]) (by kernel_rfl) (by simp) (AllReady.cons rfl (fun K hK => ?_) (AllReady.nil))
          go_simp
          refine hK _ _ ?_
          clear hK K
          refine wpAny_ready (rs := [4]) (by kernel_rfl) (by simp) (AllReady.cons rfl (fun K hK => ?_) (AllReady.nil))
          go_simp
          refine hK _ _ ?_
          clear hK K
          refine wpAny_seq 6 rfl (by kernel_rfl) ?_
          simp only [List.drop_succ_cons, List.drop_zero]
          have HB9 := Lib.hid (HB8.out.drawn.put (k := w.heap.size + 1) (o := i * 18 + k) (by omega) (by omega) (by omega) (.int .i64 z))
          have hT9 := HT8.out.drawn.store (i * 18 + k) (.int .i64 z)
          rw [HS.out] at hT9
          have HT9 := Lib.hid hT9
          have HM9 := Lib.hid (OwnMap.grown (OwnMap.drewn HM8.out) (grown_set W8.drew (w.heap.size + 1) (i * 18 + k) (.int .i64 z)) (by omega))
          clear hT9 HB8 HT8 HM8 hrun g0 g1 h80 h81 HL8 HS
          go_wp2
          go_roundw
          case rel => exact ⟨k + 1, by go_num, by omega, HB9, HT9, HM9⟩
          case measure => simp [intOf]; omega
        · obtain rfl : k = N := by omega
          have k2 : ¬ (k : Int) < (k : Int) := by omega
          have hT9 := HT.out
          have e9 : k = (rays ns).length - 2 := HNn.out.1
          rw [e9, tabP_row] at hT9
          have HT9 := Lib.hid hT9
          have HM9 : Hid (∃ q D, OwnMap wr (w.heap.size + 1 + 1) q D) := ⟨_, _, HM.out⟩
          clear hT9 e9 HT HM
          go_wp2
          go_roundw
          case rel => exact ⟨i + 1, by go_num, by omega, HB, HT9, HM9⟩
          case measure => simp [intOf]; omega
    · obtain rfl : i = N := by omega
      have i2 : ¬ (i : Int) < (i : Int) := by omega
      have eT : tabP (rays ns) i 0 = tabL (rays ns) := by unfold tabL; rw [← HNn.out.1]
      have hTl := HT.out
      rw [eT] at hTl
      have HTl2 := Lib.hid hTl
      have HSz : Hid ((Tryd.prog.info? 125).map (·.size) = some (tabL (rays ns)).toArray.size) := by
        show _ = _
        rw [infoTable]
        unfold tabL
        rw [List.size_toArray, tabP_len]
      have HSz0 : Hid ((tabP (rays ns) 0 0).toArray.size = (tabL (rays ns)).toArray.size) := by
        show _ = _
        unfold tabL
        rw [List.size_toArray, List.size_toArray, tabP_len, tabP_len]
      have HOne : Hid ((tabL (rays ns)).toArray.all (·.oneCell') = true) := all_oneCell_toArray (tabP_one _ _ _)
      have HR : Hid (RowAt wr w.heap.size 125 (tabP (rays ns) 0 0)) := HB.out.1
      have HBl := Lib.hid HB.out.2.2.1
      clear hTl eT HT HM HB
      go_wp2_with (first
        | (refine wpList_load_row rfl 125 _ rfl (w.heap.size + 1) rfl 125 (tabL (rays ns)).toArray (0, 0) _ HTl2.out Tryd.underlying125 rfl HSz.out ?_)
        | (refine wpList_store_row rfl 125 _ _ rfl w.heap.size (tabL (rays ns)).toArray rfl rfl 125 (tabP (rays ns) 0 0).toArray HR.out HSz.out HSz0.out HOne.out ?_))
      refine bodyPost_ret (v := .agg (tabL (rays ns)).toArray) (results_cell_row rfl _ _ w.heap.size 125 (tabL (rays ns)).toArray (0, 0) _ rfl (setRow_heap wr w.heap.size _ _ _ _ HR.out) Tryd.underlying125 rfl HSz.out) rfl ⟨rfl, below_setRow HBl.out (Nat.le_refl _) _⟩
end Go.Proofs.YtohojjoediibhaaDoor
