/- FnHull: the walk. -/
import Derived.Test.YtgaeibibeekclaaDoorK9
import Derived.Test.YtgaeibibeekclaaDoorK6
import Derived.Test.YtgaeibibeekclaaDoorK0
import Derived.Test.YtgaeibibeekclaaDoorBa
import Derived.Test.YtgaeibibeekclaaDoorSx
import Derived.Test.YtgaeibibeekclaaDoorK4
import Derived.Test.YtgaeibibeekclaaDoorK1
namespace Go.Proofs.YtgaeibibeekclaaDoor
open Go.RowKit

set_option maxRecDepth 100000 in
set_option maxHeartbeats 16000000 in
theorem fnHull_any (a : Option Addr) (len cap : Nat) (w : World) (h : Bytes w a len cap) (hg : EtOk w) :
    Calls Tryd.prog 6 #[.slice a len cap] w fun e w' => e = .returned (.bool true) ∧ Below w.heap.size w w' := by
  by_cases hlen : len ≤ 1048576
  case neg =>
    have j1 : (1048576 : Int) < (len : Int) := by omega
    clear h hg
    go_enter Tryd.func6, Tryd.ntmps6
    go_wp2
    go_returns
    exact ⟨rfl, by go_grown⟩
  case pos =>
  have j1 : (len : Int) ≤ 1048576 := by omega
  have HO := Lib.hid (drawPolygonOf_any w a len cap h)
  clear h
  go_enter Tryd.func6, Tryd.ntmps6
  go_wp2_with fail
  refine Calls.mono HO.out ?_
  rintro e w1 ⟨v, l, rfl, hV, h2, h20, hb1⟩
  have HG := Lib.hid (hg.below hb1)
  have Hf := Lib.hid hV
  have HB : Hid (Below w.heap.size w w1) := hb1
  clear hb1 HO hg hV
  cases hk : OfB l
  · have C1 : Hid (∀ (w' : World) (v0 : Value), ReadsVecs w' v0 (l) → EtOk w' → Calls Tryd.prog 21 #[v0] w' (GivesVecsR w' ([]) (false))) := fun w' v0 h0 hg' => by
      have h := polygonOf_any v0 l w' h0 hg'
      unfold OfL at h; rw [hk] at h
      exact h
    have C2 : Hid (∀ (w' : World) (v0 : Value), ReadsVecs w' v0 (l) → EtOk w' → Calls Tryd.prog 24 #[v0] w' (GivesVecsOk w' ([]) (false))) := fun w' v0 h0 hg' => by
      have h := specPolygonOf_any v0 l w' h0
      unfold OfL at h; rw [hk] at h
      exact h
    clear hk
    go_wp2_with fail
    refine Calls.mono (C1.out _ _ (Hf.out.below (by go_grown)) (HG.out.below (by go_grown))) ?_
    rintro e w2 ⟨v2, rfl, hI2, hb2⟩
    have hB2 := belowTo (a := w1) (by go_grown) hb2
    replace Hf := Lib.hid (Hf.out.below hB2)
    replace HG := Lib.hid (HG.out.below hB2)
    replace HB := Lib.hid (belowTo HB.out hB2)
    clear hb2 hB2
    have Ho1 := Lib.hid (VecsR.reads hI2 (by simp))
    clear hI2
    go_wp2_with fail
    refine Calls.mono (C2.out _ _ (Hf.out.below (by go_grown)) (HG.out.below (by go_grown))) ?_
    rintro e w3 ⟨v3, rfl, hI3, hb3⟩
    have hB3 := belowTo (a := w2) (by go_grown) hb3
    replace Hf := Lib.hid (Hf.out.below hB3)
    replace Ho1 := Lib.hid (Ho1.out.below hB3)
    replace HG := Lib.hid (HG.out.below hB3)
    replace HB := Lib.hid (belowTo HB.out hB3)
    clear hb3 hB3
    have Ho2 := Lib.hid (Vecs.reads hI3 (by simp))
    clear hI3
    go_wp2_with fail
    refine Calls.mono (sameVecs_eq _ _ _ _ (Ho1.out.below (by go_grown)) (Ho2.out.below (by go_grown))) ?_
    rintro e w4 ⟨rfl, hb4⟩
    have hB4 := belowTo (a := w3) (by go_grown) hb4
    replace Hf := Lib.hid (Hf.out.below hB4)
    replace Ho1 := Lib.hid (Ho1.out.below hB4)
    replace Ho2 := Lib.hid (Ho2.out.below hB4)
    replace HG := Lib.hid (HG.out.below hB4)
    replace HB := Lib.hid (belowTo HB.out hB4)
    clear hb4 hB4
    go_wp2_with fail
    refine Calls.mono (sameVecs_eq _ _ _ _ (Ho1.out.below (by go_grown)) (Ho2.out.below (by go_grown))) ?_
    rintro e w5 ⟨rfl, hb5⟩
    have hB5 := belowTo (a := w4) (by go_grown) hb5
    replace Hf := Lib.hid (Hf.out.below hB5)
    replace Ho1 := Lib.hid (Ho1.out.below hB5)
    replace Ho2 := Lib.hid (Ho2.out.below hB5)
    replace HG := Lib.hid (HG.out.below hB5)
    replace HB := Lib.hid (belowTo HB.out hB5)
    clear hb5 hB5
    go_wp2
    go_returns
    exact ⟨rfl, HB.out⟩
  · have C1 : Hid (∀ (w' : World) (v0 : Value), ReadsVecs w' v0 (l) → EtOk w' → Calls Tryd.prog 21 #[v0] w' (GivesVecsR w' (hullD l) (true))) := fun w' v0 h0 hg' => by
      have h := polygonOf_any v0 l w' h0 hg'
      unfold OfL at h; rw [hk] at h
      exact h
    have C2 : Hid (∀ (w' : World) (v0 : Value), ReadsVecs w' v0 (l) → EtOk w' → Calls Tryd.prog 24 #[v0] w' (GivesVecsOk w' (hullD l) (true))) := fun w' v0 h0 hg' => by
      have h := specPolygonOf_any v0 l w' h0
      unfold OfL at h; rw [hk] at h
      exact h
    obtain ⟨q1, q2⟩ := pr_rev l
    rw [hk] at q1
    have q3 := pr_of hk
    have q4 := poly_len q3.1
    have q5 : (hullD l).length ≤ 30 := by omega
    have q6 : 3 ≤ (hullD l).length := by omega
    have C3 : Hid (∀ (w' : World) (v0 : Value), ReadsVecs w' v0 (l.reverse) → EtOk w' → Calls Tryd.prog 21 #[v0] w' (GivesVecsR w' (hullD l) (true))) := fun w' v0 h0 hg' => by
      have h := polygonOf_any v0 (l.reverse) w' h0 hg'
      rw [q1, q2, q3.2.1] at h
      exact h
    have C5 : Hid (∀ (k : Nat), k < l.length → ∀ (w' : World) (v0 : Value), ReadsVecs w' v0 (hullD l) → EtOk w' → Calls Tryd.prog 13 #[v0, .agg #[.int .i64 ((cyc l k).1), .int .i64 ((cyc l k).2)]] w' (fun e w'' => e = .returned (.bool true) ∧ Below w'.heap.size w' w'')) := fun k hkk w' v0 h0 hg' => by
      have h := polygonHas_any v0 (hullD l) (cyc l k).1 (cyc l k).2 w' h0 hg'
      rw [pr_all hk (cyc_mem (by omega) k)] at h
      exact h
    have HX : Hid (∀ k, k < (hullD l).length → ∃ i, i < l.length ∧ cyc l i = cyc (hullD l) k) := fun k hkk => pr_sub hkk
    clear hk q1 q2 q3 q4
    generalize hullD l = m at *
    have HL : Hid (m.length ≤ 1000) := by show _ ≤ _; omega
    go_wp2_with fail
    refine Calls.mono (C1.out _ _ (Hf.out.below (by go_grown)) (HG.out.below (by go_grown))) ?_
    rintro e w2 ⟨v2, rfl, hI2, hb2⟩
    have hB2 := belowTo (a := w1) (by go_grown) hb2
    replace Hf := Lib.hid (Hf.out.below hB2)
    replace HG := Lib.hid (HG.out.below hB2)
    replace HB := Lib.hid (belowTo HB.out hB2)
    clear hb2 hB2
    have Ho := Lib.hid (VecsR.reads hI2 (by have := HL.out; omega))
    clear hI2
    go_wp2_with fail
    refine Calls.mono (C2.out _ _ (Hf.out.below (by go_grown)) (HG.out.below (by go_grown))) ?_
    rintro e w3 ⟨v3, rfl, hI3, hb3⟩
    have hB3 := belowTo (a := w2) (by go_grown) hb3
    replace Hf := Lib.hid (Hf.out.below hB3)
    replace Ho := Lib.hid (Ho.out.below hB3)
    replace HG := Lib.hid (HG.out.below hB3)
    replace HB := Lib.hid (belowTo HB.out hB3)
    clear hb3 hB3
    have Ho2 := Lib.hid (Vecs.reads hI3 (by have := HL.out; omega))
    clear hI3
    go_wp2_with fail
    refine Calls.mono (sameVecs_eq _ _ _ _ (Ho.out.below (by go_grown)) (Ho2.out.below (by go_grown))) ?_
    rintro e w4 ⟨rfl, hb4⟩
    have hB4 := belowTo (a := w3) (by go_grown) hb4
    replace Hf := Lib.hid (Hf.out.below hB4)
    replace Ho := Lib.hid (Ho.out.below hB4)
    replace Ho2 := Lib.hid (Ho2.out.below hB4)
    replace HG := Lib.hid (HG.out.below hB4)
    replace HB := Lib.hid (belowTo HB.out hB4)
    clear hb4 hB4
    clear Ho2
    obtain ⟨i0, hi, hz0, hz1, hz2⟩ := info_parts infoVec
    obtain ⟨fb, fo, fc, rfl, -, -, hfb, hfs⟩ := Hf.out.open (by omega)
    have Hfs := Lib.hid hfs
    obtain ⟨ob, oo, oc, rfl, -, -, hob, hos⟩ := Ho.out.open (by omega)
    have Hos := Lib.hid hos
    clear hfs hos
    have HE : Hid (Vecs (w4.alloc (.cells #[] 31)) w4.heap.size (.slice (some ⟨w4.heap.size, 0, none⟩) 0 0) []) := Vecs.empty w4
    have HBE : Hid (Below w4.heap.size w4 (w4.alloc (.cells #[] 31))) := (by go_grown : Below _ _ _)
    have HRv : Hid (∀ k, k < l.length → (l.reverse.take (k + 1)) = l.reverse.take k ++ [cyc l (l.length - 1 - k)]) := fun k hkk => hull_take hkk
    obtain ⟨n, hn⟩ : ∃ n, n = l.length := ⟨_, rfl⟩
    obtain ⟨M, hM⟩ : ∃ M, M = m.length := ⟨_, rfl⟩
    have n2 : 3 ≤ n := by omega
    have n20 : n ≤ 30 := by omega
    have M3 : 3 ≤ M := by omega
    have M30 : M ≤ 30 := by omega
    rw [← hn] at HX Hfs Hf C5 HRv ⊢
    rw [← hM] at HX Hos Ho ⊢
    have Hn := Lib.hid hn
    clear hn hM h2 h20 q5 q6
    have qn : IntKind.i64.wrap ((n : Int) - 1) = (n : Int) - 1 := by rw [IntKind.wrap_i64]; omega
    go_wp2
    go_loopw [8, 9] (fun s8 s9 wr => ∃ k : Nat, k ≤ n ∧ s9 = .int .i64 ((n : Int) - 1 - k) ∧ Hid (Vecs wr w4.heap.size s8 (l.reverse.take k)) ∧ Hid (Below w4.heap.size w4 wr)) (fun _ s9 _ => (intOf s9 + 1).toNat)
    case atStart => exact ⟨0, Nat.zero_le _, by simp, HE, HBE⟩
    case round =>
      obtain ⟨k, hk, rfl, HV, HBr⟩ := hrel
      clear HE HBE qn
      by_cases hlt : k < n
      · obtain ⟨j, hj⟩ : ∃ j, j = n - 1 - k := ⟨_, rfl⟩
        have ej : (n : Int) - 1 - (k : Int) = (j : Int) := by omega
        have i1 : (0 : Int) ≤ (j : Int) := by omega
        have i2 : (j : Int) < (n : Int) := by omega
        have hjn : j < n := by omega
        have qj : IntKind.i64.wrap ((j : Int) - 1) = (j : Int) - 1 := by rw [IntKind.wrap_i64]; omega
        have HQe : Hid ((j : Int) - 1 = (n : Int) - 1 - ((k + 1 : Nat) : Int)) := by show _ = _; omega
        rw [ej]
        clear ej
        have hRk := HRv.out k hlt
        rw [← hj] at hRk
        have HRk := Lib.hid hRk
        clear hRk hj
        obtain ⟨a0, a1⟩ := Hfs.out wr HBr.out j hjn
        have hbr := HBr.out
        have lf := Nat.lt_of_lt_of_le hfb hbr.size
        have lo := hbr.size
        have hown := HV.out
        unfold Vecs VRow at hown
        have hLk : (l.reverse.take k).length = k := by rw [List.length_take, List.length_reverse, ← Hn.out]; omega
        rw [hLk] at hown
        have HLk := Lib.hid hLk
        clear hLk HV
        have HC := Lib.hid (fun w7 (hb7 : Below w4.heap.size w4 w7) w' (hb : Below w7.heap.size w7 w') => C5.out j hjn w' _ ((Ho.out.below hb7).below hb) ((HG.out.below hb7).below hb))
        generalize cyc l j = F at *
        obtain ⟨fx, fy⟩ := F
        dsimp only at a0 a1 HC
        clear Hfs C5 HX HRv Hos
        go_wp2_with (at_builtin; refine wpList_append_own_at _ rfl _ _ 23 rfl w4.heap.size 31 i0 (.agg #[.int .i64 (0), .int .i64 (0)]) 2 16 Tryd.underlying23 hi hz0 hz1 hz2 rfl (by decide) _ _ _ rfl (hown.alloc _) ⟨wr.heap.size, 0, none⟩ 1 1 [.int .i64 fx, .int .i64 fy] rfl rfl (vec_cellsL _ fx fy _) (vec_oneL fx fy) ?c3 ?c4 ?c5 ?_)
        case c3 => unfold maxLen; omega
        case c4 => omega
        case c5 => simp; omega
        intro v' w7 hown' hgrow _ _
        have hg5 : Below w4.heap.size wr w7 := ((Below.refl _ wr).alloc lo _).grown hgrow (by simp; omega) (fun k hk => (hown.lt k hk).1)
        have HVv := Lib.hid (Vecs.snoc (l := l.reverse.take k) HLk.out.symm hown')
        rw [← HRk.out] at HVv
        have HB5 := Lib.hid (hbr.trans hg5)
        have b0 := (hg5.cell (p := ⟨fb, fo + j * 2, none⟩) hfb).trans a0
        have b1 := (hg5.cell (p := ⟨fb, fo + j * 2 + 1, none⟩) hfb).trans a1
        have lf5 := Nat.lt_of_lt_of_le hfb HB5.out.size
        clear hown hown' hgrow hg5 a0 a1 HLk HRk lf lo hbr HBr
        go_wp2_with fail
        refine Calls.mono (HC.out _ HB5.out _ (by go_grown)) ?_
        rintro e w9 ⟨rfl, hb9⟩
        have hb59 := belowTo (a := w7) (by go_grown) hb9
        have HB9 := Lib.hid (belowTo HB5.out hb59)
        have HV9 := Lib.hid (HVv.out.below hb59)
        clear hb9 hb59 HC b0 b1 HVv HB5 lf5
        go_wp2
        go_roundw
        case rel => exact ⟨k + 1, by omega, by first | (rw [HQe.out]; done) | go_num, HV9, HB9⟩
        case measure => simp [intOf] <;> omega
      · obtain rfl : k = n := by omega
        have ek : (k : Int) - 1 - (k : Int) = -1 := by omega
        rw [ek]
        clear ek
        have et : l.reverse.take k = l.reverse := List.take_of_length_le (by rw [List.length_reverse, ← Hn.out]; omega)
        rw [et] at HV
        clear et
        obtain ⟨w5, hw5⟩ : ∃ w5, w5 = wr := ⟨_, rfl⟩
        subst hw5
        have hB5 := HBr.out
        have Hb := Lib.hid (HV.out.reads (by rw [List.length_reverse, ← Hn.out]; omega))
        have Hfs4 := Lib.hid (fun w' (hb : Below w5.heap.size w5 w') => Hfs.out w' (belowTo hB5 hb))
        have Hos4 := Lib.hid (fun w' (hb : Below w5.heap.size w5 w') => Hos.out w' (belowTo hB5 hb))
        replace Hf := Lib.hid (Hf.out.below hB5)
        replace Ho := Lib.hid (Ho.out.below hB5)
        replace HG := Lib.hid (HG.out.below hB5)
        replace HB := Lib.hid (belowTo HB.out hB5)
        replace hfb := Nat.lt_of_lt_of_le hfb hB5.size
        replace hob := Nat.lt_of_lt_of_le hob hB5.size
        clear HBr hB5 HV Hfs Hos HRv C5 Hn hlt hk
        obtain ⟨n, hnk⟩ : ∃ n, n = k := ⟨_, rfl⟩
        subst hnk
        go_wp2
        go_loopw [10] (fun s10 wr => ∃ k : Nat, k ≤ M ∧ s10 = .int .i64 k ∧ Hid (Below w5.heap.size w5 wr)) (fun s10 _ => M - (intOf s10).toNat)
        case atStart => exact ⟨0, Nat.zero_le _, rfl, by show Below _ _ _; go_grown⟩
        case round =>
          obtain ⟨k, hk, rfl, HBr⟩ := hrel
          have i1 : (0 : Int) ≤ (k : Int) := by omega
          by_cases hlt : k < M
          · have i2 : (k : Int) < (M : Int) := by omega
            obtain ⟨wo, hwo⟩ : ∃ wo, wo = wr := ⟨_, rfl⟩
            subst hwo
            obtain ⟨j0, hj0, ej⟩ := HX.out k hlt
            go_wp2
            go_loopw [11, 12] (fun s11 s12 wr => ∃ j : Nat, j ≤ n ∧ s12 = .int .i64 j ∧ (∃ b : Bool, s11 = .bool b ∧ (j0 < j → b = true)) ∧ Hid (Below w5.heap.size w5 wr)) (fun _ s12 _ => n - (intOf s12).toNat)
            case atStart => exact ⟨0, Nat.zero_le _, rfl, ⟨false, rfl, fun h => by omega⟩, HBr⟩
            case round =>
              obtain ⟨j, hj, rfl, ⟨b, rfl, hjb⟩, HBj⟩ := hrel
              have z1 : (0 : Int) ≤ (j : Int) := by omega
              by_cases hjt : j < n
              · have z2 : (j : Int) < (n : Int) := by omega
                obtain ⟨a0, a1⟩ := Hfs4.out wr HBj.out j hjt
                obtain ⟨b0, b1⟩ := Hos4.out wr HBj.out k hlt
                have HJB := Lib.hid hjb
                clear hjb
                cases b
                · by_cases he : cyc l j = cyc m k
                  · rw [he] at a0 a1
                    generalize cyc m k = P at *
                    obtain ⟨px, py⟩ := P
                    dsimp only at a0 a1 b0 b1
                    have qs := fun w' => run_eqSame px py w'
                    clear he ej HX Hos4 Hfs4
                    go_wp2_with fail
                    go_quiet (fail)
                    go_wp2
                    go_roundw
                    case rel => exact ⟨j + 1, by omega, by go_num, ⟨true, rfl, fun _ => rfl⟩, below_drewN HBj.out _⟩
                    case measure => simp [intOf]; omega
                  · have hne : j ≠ j0 := fun e => he (by rw [e]; exact ej)
                    generalize cyc l j = Q at *
                    generalize cyc m k = P at *
                    obtain ⟨px, py⟩ := P
                    obtain ⟨qx, qy⟩ := Q
                    dsimp only at a0 a1 b0 b1
                    have qs := fun w' => run_eqDiff qx qy px py w' (fun hc => he (Prod.ext hc.1 hc.2))
                    clear he ej HX Hos4 Hfs4
                    go_wp2_with fail
                    go_quiet (fail)
                    go_wp2
                    go_roundw
                    case rel => exact ⟨j + 1, by omega, by go_num, ⟨false, rfl, fun h => HJB.out (by omega)⟩, below_drewN HBj.out _⟩
                    case measure => simp [intOf]; omega
                · clear ej HX Hos4 Hfs4
                  go_wp2_with fail
                  go_quiet (fail)
                  go_wp2
                  go_roundw
                  case rel => exact ⟨j + 1, by omega, by go_num, ⟨true, rfl, fun _ => rfl⟩, below_drewN HBj.out _⟩
                  case measure => simp [intOf]; omega
              · obtain rfl : b = true := hjb (by omega)
                have z2 : ¬ (j : Int) < (n : Int) := by omega
                clear hjb ej
                go_wp2
                go_roundw
                case rel => exact ⟨k + 1, by omega, by go_num, HBj⟩
                case measure => simp [intOf]; omega
          · have hkn : k = M := by omega
            obtain ⟨w6, hw6⟩ : ∃ w6, w6 = wr := ⟨_, rfl⟩
            subst hw6
            have hB6 := HBr.out
            have i2 : ¬ (k : Int) < (M : Int) := by omega
            replace Hf := Lib.hid (Hf.out.below hB6)
            replace Ho := Lib.hid (Ho.out.below hB6)
            replace Hb := Lib.hid (Hb.out.below hB6)
            replace HG := Lib.hid (HG.out.below hB6)
            replace HB := Lib.hid (belowTo HB.out hB6)
            clear HBr hB6
            go_wp2_with fail
            refine Calls.mono (C3.out _ _ (Hb.out.below (by go_grown)) (HG.out.below (by go_grown))) ?_
            rintro e w7 ⟨v7, rfl, hI7, hb7⟩
            have hB7 := belowTo (a := w6) (by go_grown) hb7
            replace Hf := Lib.hid (Hf.out.below hB7)
            replace Ho := Lib.hid (Ho.out.below hB7)
            replace Hb := Lib.hid (Hb.out.below hB7)
            replace HG := Lib.hid (HG.out.below hB7)
            replace HB := Lib.hid (belowTo HB.out hB7)
            clear hb7 hB7
            have Hx := Lib.hid (VecsR.reads hI7 (by have := HL.out; omega))
            clear hI7
            go_wp2_with fail
            refine Calls.mono (sameVecs_eq _ _ _ _ (Hx.out.below (by go_grown)) (Ho.out.below (by go_grown))) ?_
            rintro e w8 ⟨rfl, hb8⟩
            have hB8 := belowTo (a := w7) (by go_grown) hb8
            replace Hf := Lib.hid (Hf.out.below hB8)
            replace Ho := Lib.hid (Ho.out.below hB8)
            replace Hb := Lib.hid (Hb.out.below hB8)
            replace Hx := Lib.hid (Hx.out.below hB8)
            replace HG := Lib.hid (HG.out.below hB8)
            replace HB := Lib.hid (belowTo HB.out hB8)
            clear hb8 hB8
            go_wp2
            go_returns
            exact ⟨rfl, HB.out⟩
end Go.Proofs.YtgaeibibeekclaaDoor
