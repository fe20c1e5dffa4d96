/- FnFanOf: the walk. -/
import Derived.Test.YtcieihbknfeddaaDoorUw
import Derived.Test.YtcieihbknfeddaaDoorI9
import Derived.Test.YtcieihbknfeddaaDoorK0
import Derived.Test.YtcieihbknfeddaaDoorJ3
import Derived.Test.YtcieihbknfeddaaDoorSu
import Derived.Test.YtcieihbknfeddaaDoorBa
import Derived.Test.YtcieihbknfeddaaDoorB9
namespace Go.Proofs.YtcieihbknfeddaaDoor
open Go.RowKit

theorem rev_take {l : List V2} {k : Nat} (h : k < l.length) : l.reverse.take (k + 1) = l.reverse.take k ++ [cyc l (l.length - 1 - k)] := by
  have h2 : l.length - 1 - k < l.length := by omega
  rw [List.take_add_one, List.getElem?_reverse h, cyc_lt h2, List.getElem?_eq_getElem h2]
  rfl
set_option maxRecDepth 100000 in
set_option maxHeartbeats 16000000 in
theorem fnFanOf_any (a : Option Addr) (len cap : Nat) (w : World) (h : Bytes w a len cap) (hg : EtOk w) :
    Calls Tryd.prog 18 #[.slice a len cap] w fun e w' => e = .returned (.bool true) ∧ Below w.heap.size w w' := by
  by_cases hlen : len ≤ 1048576
  case neg =>
    have j1 : (1048576 : Int) < (len : Int) := by omega
    clear h hg
    go_enter Tryd.func18, Tryd.ntmps18
    go_wp2
    go_returns
    exact ⟨rfl, by go_grown⟩
  case pos =>
  have j1 : (len : Int) ≤ 1048576 := by omega
  have HO := Lib.hid (drawFanOf_any w a len cap h)
  clear h
  go_enter Tryd.func18, Tryd.ntmps18
  go_wp2_with fail
  refine Calls.mono HO.out ?_
  rintro e w1 ⟨v, l, rfl, hV, h2, h20, hb1⟩
  have HG := Lib.hid (hg.below hb1)
  have Hf := Lib.hid hV
  have HB : Hid (Below w.heap.size w w1) := hb1
  clear hb1 HO hg hV
  cases hk : ofB l
  · have C1 : Hid (∀ (w' : World) (v0 : Value), ReadsVecs w' v0 (l) → EtOk w' → Calls Tryd.prog 34 #[v0] w' (GivesVecsOk w' ([]) (false))) := fun w' v0 h0 hg' => by
      have h := fanOfR_any v0 l w' h0 (by omega) (by omega) hg'
      rw [hk] at h
      exact h
    have C2 : Hid (∀ (w' : World) (v0 : Value), ReadsVecs w' v0 (l) → EtOk w' → Calls Tryd.prog 33 #[v0] w' (GivesVecsOk w' ([]) (false))) := fun w' v0 h0 hg' => by
      have h := specFanOf_any v0 l w' h0 (by omega)
      rw [hk] at h
      exact h
    clear hk
    go_wp2_with fail
    refine Calls.mono (C1.out _ _ (Hf.out.below (by go_grown)) (HG.out.below (by go_grown))) ?_
    rintro e w2 ⟨v2, rfl, hI2, hb2⟩
    have hB2 := belowTo (a := w1) (by go_grown) hb2
    replace Hf := Lib.hid (Hf.out.below hB2)
    replace HG := Lib.hid (HG.out.below hB2)
    replace HB := Lib.hid (belowTo HB.out hB2)
    clear hb2 hB2
    have Ho1 := Lib.hid (Vecs.reads hI2 (by simp))
    clear hI2
    go_wp2_with fail
    refine Calls.mono (C2.out _ _ (Hf.out.below (by go_grown)) (HG.out.below (by go_grown))) ?_
    rintro e w3 ⟨v3, rfl, hI3, hb3⟩
    have hB3 := belowTo (a := w2) (by go_grown) hb3
    replace Hf := Lib.hid (Hf.out.below hB3)
    replace Ho1 := Lib.hid (Ho1.out.below hB3)
    replace HG := Lib.hid (HG.out.below hB3)
    replace HB := Lib.hid (belowTo HB.out hB3)
    clear hb3 hB3
    have Ho2 := Lib.hid (Vecs.reads hI3 (by simp))
    clear hI3
    go_wp2_with fail
    refine Calls.mono (sameVecs_eq _ _ _ _ (Ho1.out.below (by go_grown)) (Ho2.out.below (by go_grown))) ?_
    rintro e w4 ⟨rfl, hb4⟩
    have hB4 := belowTo (a := w3) (by go_grown) hb4
    replace Hf := Lib.hid (Hf.out.below hB4)
    replace Ho1 := Lib.hid (Ho1.out.below hB4)
    replace Ho2 := Lib.hid (Ho2.out.below hB4)
    replace HG := Lib.hid (HG.out.below hB4)
    replace HB := Lib.hid (belowTo HB.out hB4)
    clear hb4 hB4
    go_wp2_with fail
    refine Calls.mono (sameVecs_eq _ _ _ _ (Ho1.out.below (by go_grown)) (Ho2.out.below (by go_grown))) ?_
    rintro e w5 ⟨rfl, hb5⟩
    have hB5 := belowTo (a := w4) (by go_grown) hb5
    replace Hf := Lib.hid (Hf.out.below hB5)
    replace Ho1 := Lib.hid (Ho1.out.below hB5)
    replace Ho2 := Lib.hid (Ho2.out.below hB5)
    replace HG := Lib.hid (HG.out.below hB5)
    replace HB := Lib.hid (belowTo HB.out hB5)
    clear hb5 hB5
    go_wp2
    go_returns
    exact ⟨rfl, HB.out⟩
  · have C1 : Hid (∀ (w' : World) (v0 : Value), ReadsVecs w' v0 (l) → EtOk w' → Calls Tryd.prog 34 #[v0] w' (GivesVecsOk w' (sortL l) (true))) := fun w' v0 h0 hg' => by
      have h := fanOfR_any v0 l w' h0 (by omega) (by omega) hg'
      rw [hk] at h
      exact h
    have C2 : Hid (∀ (w' : World) (v0 : Value), ReadsVecs w' v0 (l) → EtOk w' → Calls Tryd.prog 33 #[v0] w' (GivesVecsOk w' (sortL l) (true))) := fun w' v0 h0 hg' => by
      have h := specFanOf_any v0 l w' h0 (by omega)
      rw [hk] at h
      exact h
    obtain ⟨q1, q2, q3⟩ := of_rev hk
    have q4 := fan_len q3
    have hlr : l.reverse.length = l.length := List.length_reverse ..
    have C3 : Hid (∀ (w' : World) (v0 : Value), ReadsVecs w' v0 (l.reverse) → EtOk w' → Calls Tryd.prog 34 #[v0] w' (GivesVecsOk w' (sortL l) (true))) := fun w' v0 h0 hg' => by
      have h := fanOfR_any v0 l.reverse w' h0 (by omega) (by omega) hg'
      rw [q1, q2] at h
      exact h
    have C4 : Hid (∀ (w' : World) (v0 : Value), ReadsVecs w' v0 (sortL l) → EtOk w' → Calls Tryd.prog 27 #[v0] w' (fun e w'' => e = .returned (.bool (true)) ∧ Below w'.heap.size w' w'')) := fun w' v0 h0 hg' => by
      have h := fanIn_any v0 (sortL l) w' h0 hg'
      rw [q3] at h
      exact h
    have HL : Hid ((sortL l).length ≤ 1000) := by show _ ≤ _; omega
    generalize sortL l = m at *
    clear hk q1 q2 q3 q4 hlr
    go_wp2_with fail
    refine Calls.mono (C1.out _ _ (Hf.out.below (by go_grown)) (HG.out.below (by go_grown))) ?_
    rintro e w2 ⟨v2, rfl, hI2, hb2⟩
    have hB2 := belowTo (a := w1) (by go_grown) hb2
    replace Hf := Lib.hid (Hf.out.below hB2)
    replace HG := Lib.hid (HG.out.below hB2)
    replace HB := Lib.hid (belowTo HB.out hB2)
    clear hb2 hB2
    have Ho := Lib.hid (Vecs.reads hI2 (by have := HL.out; omega))
    clear hI2
    go_wp2_with fail
    refine Calls.mono (C2.out _ _ (Hf.out.below (by go_grown)) (HG.out.below (by go_grown))) ?_
    rintro e w3 ⟨v3, rfl, hI3, hb3⟩
    have hB3 := belowTo (a := w2) (by go_grown) hb3
    replace Hf := Lib.hid (Hf.out.below hB3)
    replace Ho := Lib.hid (Ho.out.below hB3)
    replace HG := Lib.hid (HG.out.below hB3)
    replace HB := Lib.hid (belowTo HB.out hB3)
    clear hb3 hB3
    have Ho2 := Lib.hid (Vecs.reads hI3 (by have := HL.out; omega))
    clear hI3
    go_wp2_with fail
    refine Calls.mono (sameVecs_eq _ _ _ _ (Ho.out.below (by go_grown)) (Ho2.out.below (by go_grown))) ?_
    rintro e w4 ⟨rfl, hb4⟩
    have hB4 := belowTo (a := w3) (by go_grown) hb4
    replace Hf := Lib.hid (Hf.out.below hB4)
    replace Ho := Lib.hid (Ho.out.below hB4)
    replace Ho2 := Lib.hid (Ho2.out.below hB4)
    replace HG := Lib.hid (HG.out.below hB4)
    replace HB := Lib.hid (belowTo HB.out hB4)
    clear hb4 hB4
    clear Ho2
    obtain ⟨i0, hi, hz0, hz1, hz2⟩ := info_parts infoVec
    obtain ⟨fb, fo, fc, rfl, -, -, hfb, hfs⟩ := Hf.out.open (by omega)
    have Hfs := Lib.hid hfs
    clear hfs
    have HE : Hid (Vecs (w4.alloc (.cells #[] 26)) w4.heap.size (.slice (some ⟨w4.heap.size, 0, none⟩) 0 0) []) := Vecs.empty w4
    have HBE : Hid (Below w4.heap.size w4 (w4.alloc (.cells #[] 26))) := (by go_grown : Below _ _ _)
    have HRv : Hid (∀ k, k < l.length → (l.reverse.take (k + 1)) = l.reverse.take k ++ [cyc l (l.length - 1 - k)]) := fun k hkk => rev_take hkk
    obtain ⟨n, hn⟩ : ∃ n, n = l.length := ⟨_, rfl⟩
    have n2 : 2 ≤ n := by omega
    have n20 : n ≤ 30 := by omega
    rw [← hn] at Hfs Hf HRv ⊢
    have Hn := Lib.hid hn
    clear hn h2 h20
    have qn : IntKind.i64.wrap ((n : Int) - 1) = (n : Int) - 1 := by rw [IntKind.wrap_i64]; omega
    go_wp2
    go_loopw [8, 9] (fun s8 s9 wr => ∃ k : Nat, k ≤ n ∧ s9 = .int .i64 ((n : Int) - 1 - k) ∧ Hid (Vecs wr w4.heap.size s8 (l.reverse.take k)) ∧ Hid (Below w4.heap.size w4 wr)) (fun _ s9 _ => (intOf s9 + 1).toNat)
    case atStart => exact ⟨0, Nat.zero_le _, by simp, HE, HBE⟩
    case round =>
      obtain ⟨k, hk, rfl, HV, HBr⟩ := hrel
      clear HE HBE qn
      by_cases hlt : k < n
      · obtain ⟨j, hj⟩ : ∃ j, j = n - 1 - k := ⟨_, rfl⟩
        have ej : (n : Int) - 1 - (k : Int) = (j : Int) := by omega
        have i1 : (0 : Int) ≤ (j : Int) := by omega
        have i2 : (j : Int) < (n : Int) := by omega
        have hjn : j < n := by omega
        have qj : IntKind.i64.wrap ((j : Int) - 1) = (j : Int) - 1 := by rw [IntKind.wrap_i64]; omega
        have HQe : Hid ((j : Int) - 1 = (n : Int) - 1 - ((k + 1 : Nat) : Int)) := by show _ = _; omega
        rw [ej]
        clear ej
        have hRk := HRv.out k hlt
        rw [← hj] at hRk
        have HRk := Lib.hid hRk
        clear hRk hj
        obtain ⟨a0, a1⟩ := Hfs.out wr HBr.out j hjn
        have hbr := HBr.out
        have lf := Nat.lt_of_lt_of_le hfb hbr.size
        have lo := hbr.size
        have hown := HV.out
        unfold Vecs VRow at hown
        have hLk : (l.reverse.take k).length = k := by rw [List.length_take, List.length_reverse, ← Hn.out]; omega
        rw [hLk] at hown
        have HLk := Lib.hid hLk
        clear hLk HV
        generalize cyc l j = F at *
        obtain ⟨fx, fy⟩ := F
        dsimp only at a0 a1
        clear Hfs HRv
        go_wp2_with (at_builtin; refine wpList_append_own_at _ rfl _ _ 39 rfl w4.heap.size 26 i0 (.agg #[.int .i64 (0), .int .i64 (0)]) 2 16 Tryd.underlying39 hi hz0 hz1 hz2 rfl (by decide) _ _ _ rfl (hown.alloc _) ⟨wr.heap.size, 0, none⟩ 1 1 [.int .i64 fx, .int .i64 fy] rfl rfl (vec_cellsL _ fx fy _) (vec_oneL fx fy) ?c3 ?c4 ?c5 ?_)
        case c3 => unfold maxLen; omega
        case c4 => omega
        case c5 => simp; omega
        intro v' w7 hown' hgrow _ _
        have hg5 : Below w4.heap.size wr w7 := ((Below.refl _ wr).alloc lo _).grown hgrow (by simp; omega) (fun k hk => (hown.lt k hk).1)
        have HVv := Lib.hid (Vecs.snoc (l := l.reverse.take k) HLk.out.symm hown')
        rw [← HRk.out] at HVv
        have HB5 := Lib.hid (hbr.trans hg5)
        clear hown hown' hgrow hg5 a0 a1 HLk HRk lf lo hbr HBr
        go_wp2
        go_roundw
        case rel => exact ⟨k + 1, by omega, by first | (rw [HQe.out]; done) | go_num, HVv, HB5⟩
        case measure => simp [intOf] <;> omega
      · obtain rfl : k = n := by omega
        have ek : (k : Int) - 1 - (k : Int) = -1 := by omega
        rw [ek]
        clear ek
        have et : l.reverse.take k = l.reverse := List.take_of_length_le (by rw [List.length_reverse, ← Hn.out]; omega)
        rw [et] at HV
        clear et
        obtain ⟨w5, hw5⟩ : ∃ w5, w5 = wr := ⟨_, rfl⟩
        subst hw5
        have hB5 := HBr.out
        have Hb := Lib.hid (HV.out.reads (by rw [List.length_reverse, ← Hn.out]; omega))
        replace Hf := Lib.hid (Hf.out.below hB5)
        replace Ho := Lib.hid (Ho.out.below hB5)
        replace HG := Lib.hid (HG.out.below hB5)
        replace HB := Lib.hid (belowTo HB.out hB5)
        clear HBr hB5 HV Hfs HRv Hn hlt hk
        go_wp2_with fail
        refine Calls.mono (C3.out _ _ (Hb.out.below (by go_grown)) (HG.out.below (by go_grown))) ?_
        rintro e w6 ⟨v6, rfl, hI6, hb6⟩
        have hB6 := belowTo (a := w5) (by go_grown) hb6
        replace Hf := Lib.hid (Hf.out.below hB6)
        replace Ho := Lib.hid (Ho.out.below hB6)
        replace Hb := Lib.hid (Hb.out.below hB6)
        replace HG := Lib.hid (HG.out.below hB6)
        replace HB := Lib.hid (belowTo HB.out hB6)
        clear hb6 hB6
        have Hx := Lib.hid (Vecs.reads hI6 (by have := HL.out; omega))
        clear hI6
        go_wp2_with fail
        refine Calls.mono (sameVecs_eq _ _ _ _ (Hx.out.below (by go_grown)) (Ho.out.below (by go_grown))) ?_
        rintro e w7 ⟨rfl, hb7⟩
        have hB7 := belowTo (a := w6) (by go_grown) hb7
        replace Hf := Lib.hid (Hf.out.below hB7)
        replace Ho := Lib.hid (Ho.out.below hB7)
        replace Hb := Lib.hid (Hb.out.below hB7)
        replace Hx := Lib.hid (Hx.out.below hB7)
        replace HG := Lib.hid (HG.out.below hB7)
        replace HB := Lib.hid (belowTo HB.out hB7)
        clear hb7 hB7
        obtain ⟨oa, oc, rfl, -⟩ := id Ho.out
        go_wp2_with fail
        refine Calls.mono (C4.out _ _ (Ho.out.below (by go_grown)) (HG.out.below (by go_grown))) ?_
        rintro e w8 ⟨rfl, hb8⟩
        have hB8 := belowTo (a := w7) (by go_grown) hb8
        replace Hf := Lib.hid (Hf.out.below hB8)
        replace Ho := Lib.hid (Ho.out.below hB8)
        replace Hb := Lib.hid (Hb.out.below hB8)
        replace Hx := Lib.hid (Hx.out.below hB8)
        replace HG := Lib.hid (HG.out.below hB8)
        replace HB := Lib.hid (belowTo HB.out hB8)
        clear hb8 hB8
        go_wp2
        go_returns
        exact ⟨rfl, HB.out⟩
end Go.Proofs.YtcieihbknfeddaaDoor
