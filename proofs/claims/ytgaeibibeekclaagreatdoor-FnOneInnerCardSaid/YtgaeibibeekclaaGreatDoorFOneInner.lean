/- FnOneInner: the walk. -/
import Derived.Test.YtgaeibibeekclaaGreatDoorK9
import Derived.Test.YtgaeibibeekclaaGreatDoorK7
import Derived.Test.YtgaeibibeekclaaGreatDoorK3
import Derived.Test.YtgaeibibeekclaaGreatDoorK0
import Derived.Test.YtgaeibibeekclaaGreatDoorK1
import Derived.Test.YtgaeibibeekclaaGreatDoorBk
import Derived.Test.YtgaeibibeekclaaGreatDoorB2
namespace Go.Proofs.YtgaeibibeekclaaGreatDoor
open Go.RowKit

set_option maxRecDepth 100000 in
set_option maxHeartbeats 16000000 in
theorem fnOneInner_any (a : Option Addr) (len cap : Nat) (w : World) (h : Bytes w a len cap) (hg : EtOk w) :
    Calls Tryz.prog 5 #[.slice a len cap] w fun e w' => e = .returned (.bool true) ∧ Below w.heap.size w w' := by
  by_cases hlen : len ≤ 1048576
  case neg =>
    have j1 : (1048576 : Int) < (len : Int) := by omega
    clear h hg
    go_enter Tryz.func5, Tryz.ntmps5
    go_wp2
    go_returns
    exact ⟨rfl, by go_grown⟩
  case pos =>
  have j1 : (len : Int) ≤ 1048576 := by omega
  have HO := Lib.hid (drawPolygonInner_any w a len cap h)
  clear h
  go_enter Tryz.func5, Tryz.ntmps5
  go_wp2_with fail
  refine Calls.mono HO.out ?_
  rintro e w1 ⟨v, l, rfl, hV, h2, h20, hb1⟩
  have HG := Lib.hid (hg.below hb1)
  have Hf := Lib.hid hV
  have HB : Hid (Below w.heap.size w w1) := hb1
  clear hb1 HO hg hV
  cases hk : polyB l
  · have C1 : Hid (∀ (w' : World) (v0 : Value), ReadsVecs w' v0 (l) → EtOk w' → Calls Tryz.prog 17 #[v0] w' (fun e w'' => e = .returned (.tuple #[.int .i64 (0), .bool (false)]) ∧ Below w'.heap.size w' w'')) := fun w' v0 h0 hg' => by
      have h := polygonInner_any v0 l w' h0 hg'
      rw [hk] at h
      exact h
    have C2 : Hid (∀ (w' : World) (v0 : Value), ReadsVecs w' v0 (l) → EtOk w' → Calls Tryz.prog 19 #[v0] w' (fun e w'' => e = .returned (.tuple #[.int .i64 (0), .bool (false)]) ∧ Below w'.heap.size w' w'')) := fun w' v0 h0 hg' => by
      have h := specPolygonInner_any v0 l w' h0
      rw [hk] at h
      exact h
    clear hk
    go_wp2_with fail
    refine Calls.mono (C1.out _ _ (Hf.out.below (by go_grown)) (HG.out.below (by go_grown))) ?_
    rintro e w2 ⟨rfl, hb2⟩
    have hB2 := belowTo (a := w1) (by go_grown) hb2
    replace Hf := Lib.hid (Hf.out.below hB2)
    replace HG := Lib.hid (HG.out.below hB2)
    replace HB := Lib.hid (belowTo HB.out hB2)
    clear hb2 hB2
    go_wp2_with fail
    refine Calls.mono (C2.out _ _ (Hf.out.below (by go_grown)) (HG.out.below (by go_grown))) ?_
    rintro e w3 ⟨rfl, hb3⟩
    have hB3 := belowTo (a := w2) (by go_grown) hb3
    replace Hf := Lib.hid (Hf.out.below hB3)
    replace HG := Lib.hid (HG.out.below hB3)
    replace HB := Lib.hid (belowTo HB.out hB3)
    clear hb3 hB3
    go_wp2
    go_returns
    exact ⟨rfl, HB.out⟩
  · have C1 : Hid (∀ (w' : World) (v0 : Value), ReadsVecs w' v0 (l) → EtOk w' → Calls Tryz.prog 17 #[v0] w' (fun e w'' => e = .returned (.tuple #[.int .i64 (innerZ l), .bool (true)]) ∧ Below w'.heap.size w' w'')) := fun w' v0 h0 hg' => by
      have h := polygonInner_any v0 l w' h0 hg'
      rw [hk] at h
      exact h
    have C2 : Hid (∀ (w' : World) (v0 : Value), ReadsVecs w' v0 (l) → EtOk w' → Calls Tryz.prog 19 #[v0] w' (fun e w'' => e = .returned (.tuple #[.int .i64 (innerZ l), .bool (true)]) ∧ Below w'.heap.size w' w'')) := fun w' v0 h0 hg' => by
      have h := specPolygonInner_any v0 l w' h0
      rw [hk] at h
      exact h
    have pn := (pc_pick hk).2.1
    have pm := poly_nums hk
    have pk := (pc_pick hk).1
    have qL := pf_law hk
    have C3 : Hid (∀ (w' : World) (v0 : Value), ReadsVecs w' v0 (l) → EtOk w' → Calls Tryz.prog 21 #[v0] w' (fun e w'' => e = .returned (.bool (reflB l)) ∧ Below w'.heap.size w' w'')) := fun w' v0 h0 hg' => by
      have h := reflexiveIn_any v0 l w' h0 hg'
      exact h
    have C4 : Hid (∀ (k : Nat) (w' : World), EtOk w' → Calls Tryz.prog 20 #[.agg #[.int .i64 ((cyc l k).1), .int .i64 ((cyc l k).2)], .agg #[.int .i64 ((cyc l (k + 1)).1), .int .i64 ((cyc l (k + 1)).2)]] w' (fun e w'' => e = .returned (.tuple #[.int .i64 (detV (cyc l k) (cyc l (k + 1))), .bool true]) ∧ Below w'.heap.size w' w'')) := fun k w' hg' => by
      have h := vecDet_any (cyc l k).1 (cyc l k).2 (cyc l (k + 1)).1 (cyc l (k + 1)).2 w' hg'
      have s1 := poly_small hk k
      have s2 := poly_small hk (k + 1)
      have e1 : twoOk (cyc l k).1 (cyc l k).2 (cyc l (k + 1)).1 (cyc l (k + 1)).2 = true := by
        show (vecB _ _ && vecB _ _) = true
        rw [vec_of (by omega), vec_of (by omega)]
        rfl
      rw [e1] at h
      exact h
    have HZ : Hid (∀ k, zroB l (k + 1) = (zroB l k && decide (0 < detV (cyc l k) (cyc l (k + 1))))) := fun k => zro_succ l k
    have HZ0 : Hid (zroB l 0 = true) := Lib.hid (by rfl)
    have HQ : Hid ((!zroB l l.length || reflB l == (innerZ l == 1)) = true) := qL
    have HNx : Hid (∀ k, k < l.length → cyc l ((k + 1) % l.length) = cyc l (k + 1)) := fun k _ => cyc_mod l (k + 1)
    clear qL hk pk pm
    generalize zroB l = Z at *
    generalize innerZ l = N at *
    generalize reflB l = R at *
    go_wp2_with fail
    refine Calls.mono (C1.out _ _ (Hf.out.below (by go_grown)) (HG.out.below (by go_grown))) ?_
    rintro e w2 ⟨rfl, hb2⟩
    have hB2 := belowTo (a := w1) (by go_grown) hb2
    replace Hf := Lib.hid (Hf.out.below hB2)
    replace HG := Lib.hid (HG.out.below hB2)
    replace HB := Lib.hid (belowTo HB.out hB2)
    clear hb2 hB2
    go_wp2_with fail
    refine Calls.mono (C2.out _ _ (Hf.out.below (by go_grown)) (HG.out.below (by go_grown))) ?_
    rintro e w3 ⟨rfl, hb3⟩
    have hB3 := belowTo (a := w2) (by go_grown) hb3
    replace Hf := Lib.hid (Hf.out.below hB3)
    replace HG := Lib.hid (HG.out.below hB3)
    replace HB := Lib.hid (belowTo HB.out hB3)
    clear hb3 hB3
    obtain ⟨fb, fo, fc, rfl, -, -, hfb, hfs⟩ := Hf.out.open (by omega)
    have Hfs := Lib.hid hfs
    clear hfs
    obtain ⟨n, hn⟩ : ∃ n, n = l.length := ⟨_, rfl⟩
    rw [← hn] at HNx Hfs Hf HQ h2 h20 ⊢
    clear hn
    go_wp2
    go_loopw [8, 9] (fun s8 s9 wr => ∃ k : Nat, k ≤ n ∧ s9 = .int .i64 k ∧ (∃ b : Bool, s8 = .bool b ∧ Hid (b = Z k)) ∧ Hid (Below w3.heap.size w3 wr)) (fun s8 s9 _ => n - (intOf s9).toNat)
    case atStart => exact ⟨0, Nat.zero_le _, rfl, ⟨true, rfl, Lib.hid HZ0.out.symm⟩, by show Below _ _ _; go_grown⟩
    case round =>
      obtain ⟨k, hk, rfl, ⟨b, rfl, HZb⟩, HBr⟩ := hrel
      have i1 : (0 : Int) ≤ (k : Int) := by omega
      by_cases hlt : k < n
      · have i2 : (k : Int) < (n : Int) := by omega
        have HC := Lib.hid (fun w' (hb : Below wr.heap.size wr w') => C4.out k w' ((HG.out.below HBr.out).below hb))
        obtain ⟨a0, a1⟩ := Hfs.out wr HBr.out k hlt
        have hq : (k + 1) % n < n := Nat.mod_lt _ (by omega)
        obtain ⟨b0, b1⟩ := Hfs.out wr HBr.out ((k + 1) % n) hq
        rw [HNx.out k hlt] at b0 b1
        have HZk := Lib.hid (HZ.out k)
        have hbr := HBr.out
        have lf := Nat.lt_of_lt_of_le hfb hbr.size
        have qi : Int.tmod ((k : Int) + 1) (n : Int) = (((k + 1) % n : Nat) : Int) := by rw [show (k : Int) + 1 = ((k + 1 : Nat) : Int) by omega]; exact (Int.ofNat_tmod _ _).symm
        have qj : ((k : Int) + 1) % (n : Int) = (((k + 1) % n : Nat) : Int) := by rw [show (k : Int) + 1 = ((k + 1 : Nat) : Int) by omega]; exact (Int.natCast_emod _ _).symm
        generalize (k + 1) % n = q at *
        have i3 : (0 : Int) ≤ (q : Int) := by omega
        have i4 : (q : Int) < (n : Int) := by omega
        have i5 : ¬ (n : Int) = 0 := by omega
        have i6 : ¬ n = 0 := by omega
        have qk : IntKind.i64.wrap ((k : Int) + 1) = (k : Int) + 1 := by rw [IntKind.wrap_i64]; omega
        generalize detV (cyc l k) (cyc l (k + 1)) = D at *
        generalize cyc l k = F at *
        generalize cyc l (k + 1) = E at *
        obtain ⟨fx, fy⟩ := F
        obtain ⟨ex, ey⟩ := E
        dsimp only at a0 a1 b0 b1 HC
        clear Hfs C4 HNx HBr
        go_wp2_with fail
        refine wp_region_any (by kernel_rfl) ?_
        try (change wpAny _ _ _ _ _ _ _ (World.drew _))
        refine wpAny_of_held (S := fun w' => Below (wr.heap.size) wr w') _ _ _ _ ?_
        have hSw : Below (wr.heap.size) wr (World.drew wr) := by go_grown
        generalize World.drew wr = wd at hSw ⊢
        refine wpAnyH_take (i := 0) (v := ?_) rfl (by kernel_rfl) (by kernel_rfl) (by kernel_rfl) (fun _ _ _ h => h) (Or.inl ⟨by rfl, ?_⟩) hSw ?_
        rotate_left
        focus (intro w0 hS0; clear hS0; go_simp; try with_reducible rfl)
        refine wpAnyH_take (i := 1) (v := ?_) rfl (by kernel_rfl) (by kernel_rfl) (by kernel_rfl) (fun _ _ _ h => h) (Or.inl ⟨by rfl, ?_⟩) hSw ?_
        rotate_left
        focus (intro w0 hS0; clear hS0; go_simp; try with_reducible rfl)
        refine wpAnyH_take (i := 2) (v := ?_) rfl (by kernel_rfl) (by kernel_rfl) (by kernel_rfl) (fun _ _ _ h => h) (Or.inl ⟨by rfl, ?_⟩) hSw ?_
        rotate_left
        focus (intro w0 hS0; clear hS0; go_simp; try with_reducible rfl)
        refine wpAnyH_take (i := 3) (v := ?_) rfl (by kernel_rfl) (by kernel_rfl) (by kernel_rfl) (fun _ _ _ h => h) (Or.inl ⟨by rfl, ?_⟩) hSw ?_
        rotate_left
        focus (intro w0 hS0; have r0 := (hS0.cell (p := ⟨fb, fo + k * 2, none⟩) lf).trans a0; have r1 := (hS0.cell (p := ⟨fb, fo + k * 2 + 1, none⟩) lf).trans a1; have r2 := (hS0.cell (p := ⟨fb, fo + q * 2, none⟩) lf).trans b0; have r3 := (hS0.cell (p := ⟨fb, fo + q * 2 + 1, none⟩) lf).trans b1; go_simp; try with_reducible rfl)
        refine wpAnyH_take (i := 4) (v := ?_) rfl (by kernel_rfl) (by kernel_rfl) (by kernel_rfl) (fun _ _ _ h => h) (Or.inl ⟨by rfl, ?_⟩) hSw ?_
        rotate_left
        focus (intro w0 hS0; clear hS0; go_simp; try with_reducible rfl)
        refine wpAnyH_take (i := 5) (v := ?_) rfl (by kernel_rfl) (by kernel_rfl) (by kernel_rfl) (fun _ _ _ h => h) (Or.inl ⟨by rfl, ?_⟩) hSw ?_
        rotate_left
        focus (intro w0 hS0; clear hS0; go_simp; try with_reducible rfl)
        refine wpAnyH_take (i := 6) (v := ?_) rfl (by kernel_rfl) (by kernel_rfl) (by kernel_rfl) (fun _ _ _ h => h) (Or.inl ⟨by rfl, ?_⟩) hSw ?_
        rotate_left
        focus (intro w0 hS0; clear hS0; go_simp; try with_reducible rfl)
        refine wpAnyH_take (i := 7) (v := ?_) rfl (by kernel_rfl) (by kernel_rfl) (by kernel_rfl) (fun _ _ _ h => h) (Or.inl ⟨by rfl, ?_⟩) hSw ?_
        rotate_left
        focus (intro w0 hS0; clear hS0; go_simp; try with_reducible rfl)
        refine wpAnyH_take (i := 8) (v := ?_) rfl (by kernel_rfl) (by kernel_rfl) (by kernel_rfl) (fun _ _ _ h => h) (Or.inl ⟨by rfl, ?_⟩) hSw ?_
        rotate_left
        focus (intro w0 hS0; clear hS0; go_simp; try with_reducible rfl)
        refine wpAnyH_take (i := 9) (v := ?_) rfl (by kernel_rfl) (by kernel_rfl) (by kernel_rfl) (fun _ _ _ h => h) (Or.inl ⟨by rfl, ?_⟩) hSw ?_
        rotate_left
        focus (intro w0 hS0; clear hS0; go_simp; try with_reducible rfl)
        refine wpAnyH_take (i := 10) (v := ?_) rfl (by kernel_rfl) (by kernel_rfl) (by kernel_rfl) (fun _ _ _ h => h) (Or.inl ⟨by rfl, ?_⟩) hSw ?_
        rotate_left
        focus (intro w0 hS0; clear hS0; go_simp; try with_reducible rfl)
        refine wpAnyH_take (i := 11) (v := ?_) rfl (by kernel_rfl) (by kernel_rfl) (by kernel_rfl) (fun _ _ _ h => h) (Or.inl ⟨by rfl, ?_⟩) hSw ?_
        rotate_left
        focus (intro w0 hS0; have r0 := (hS0.cell (p := ⟨fb, fo + k * 2, none⟩) lf).trans a0; have r1 := (hS0.cell (p := ⟨fb, fo + k * 2 + 1, none⟩) lf).trans a1; have r2 := (hS0.cell (p := ⟨fb, fo + q * 2, none⟩) lf).trans b0; have r3 := (hS0.cell (p := ⟨fb, fo + q * 2 + 1, none⟩) lf).trans b1; go_simp; try with_reducible rfl)
        refine wpAnyH_ready (rs := [12]) (by kernel_rfl) (by simp) (AllReadyH.cons rfl (fun K hK => ?_) (AllReadyH.nil))
        go_simp
        (refine Calls.mono (HC.out _ hSw) ?_; rintro e W2 ⟨rfl, hbX⟩; replace hSw := belowTo hSw hbX; refine hK.out _ _ hSw (fun _ => ?_); clear hK K hbX)
        refine wpAnyH_take (i := 13) (v := ?_) rfl (by kernel_rfl) (by kernel_rfl) (by kernel_rfl) (fun _ _ _ h => h) (Or.inl ⟨by rfl, ?_⟩) hSw ?_
        rotate_left
        focus (intro w0 hS0; clear hS0; go_simp; try with_reducible rfl)
        refine wpAnyH_take (i := 14) (v := ?_) rfl (by kernel_rfl) (by kernel_rfl) (by kernel_rfl) (fun _ _ _ h => h) (Or.inl ⟨by rfl, ?_⟩) hSw ?_
        rotate_left
        focus (intro w0 hS0; clear hS0; go_simp; try with_reducible rfl)
        refine wpAnyH_take (i := 16) (v := ?_) rfl (by kernel_rfl) (by kernel_rfl) (by kernel_rfl) (fun _ _ _ h => h) (Or.inl ⟨by rfl, ?_⟩) hSw ?_
        rotate_left
        focus (intro w0 hS0; clear hS0; go_simp; try with_reducible rfl)
        refine wpAnyH_take (i := 15) (v := ?_) rfl (by kernel_rfl) (by kernel_rfl) (by kernel_rfl) (fun _ _ _ h => h) (Or.inl ⟨by rfl, ?_⟩) hSw ?_
        rotate_left
        focus (intro w0 hS0; clear hS0; go_simp; try with_reducible rfl)
        refine wpAnyH_take (i := 17) (v := ?_) rfl (by kernel_rfl) (by kernel_rfl) (by kernel_rfl) (fun _ _ _ h => h) (Or.inl ⟨by rfl, ?_⟩) hSw ?_
        rotate_left
        focus (intro w0 hS0; clear hS0; go_simp; try with_reducible rfl)
        refine wpAnyH_done (by kernel_rfl) ?_ _
        have HB9 := Lib.hid (belowTo hbr hSw)
        clear hSw hbr a0 a1 b0 b1 HC qi qj i3 i4 i5 i6 qk lf
        by_cases hD : 0 < D
        · have e9 : Z (k + 1) = b := by rw [HZk.out, decide_eq_true hD, ← HZb.out]; cases b <;> rfl
          have H9 := Lib.hid e9.symm
          clear e9 HZk HZb
          cases b
          · go_wp2
            go_roundw
            case rel => exact ⟨k + 1, by omega, by go_num, ⟨_, rfl, H9⟩, HB9⟩
            case measure => simp [intOf]; omega
          · go_wp2
            go_roundw
            case rel => exact ⟨k + 1, by omega, by go_num, ⟨_, rfl, H9⟩, HB9⟩
            case measure => simp [intOf]; omega
        · have e9 : Z (k + 1) = false := by rw [HZk.out, decide_eq_false hD, ← HZb.out]; cases b <;> rfl
          have H9 := Lib.hid e9.symm
          clear e9 HZk HZb
          cases b
          · go_wp2
            go_roundw
            case rel => exact ⟨k + 1, by omega, by go_num, ⟨_, rfl, H9⟩, HB9⟩
            case measure => simp [intOf]; omega
          · go_wp2
            go_roundw
            case rel => exact ⟨k + 1, by omega, by go_num, ⟨_, rfl, H9⟩, HB9⟩
            case measure => simp [intOf]; omega
      · have hkn : k = n := by omega
        obtain ⟨w4, hw4⟩ : ∃ w4, w4 = wr := ⟨_, rfl⟩
        subst hw4
        have hB4 := HBr.out
        have i2 : ¬ (k : Int) < (n : Int) := by omega
        replace Hf := Lib.hid (Hf.out.below hB4)
        replace HG := Lib.hid (HG.out.below hB4)
        replace HB := Lib.hid (belowTo HB.out hB4)
        clear HBr hB4
        rw [hkn] at HZb
        have HQ2 := HQ.out
        rw [← HZb.out] at HQ2
        clear HQ HZb HZ HZ0
        cases b
        · clear HQ2
          go_wp2
          go_returns
          exact ⟨rfl, HB.out⟩
        · have HQ3 : R = (N == 1) := by simpa using HQ2
          clear HQ2
          go_wp2_with fail
          refine Calls.mono (C3.out _ _ (Hf.out.below (by go_grown)) (HG.out.below (by go_grown))) ?_
          rintro e w5 ⟨rfl, hb5⟩
          have hB5 := belowTo (a := w4) (by go_grown) hb5
          replace Hf := Lib.hid (Hf.out.below hB5)
          replace HG := Lib.hid (HG.out.below hB5)
          replace HB := Lib.hid (belowTo HB.out hB5)
          clear hb5 hB5
          subst HQ3
          go_wp2
          go_returns
          exact ⟨rfl, HB.out⟩
end Go.Proofs.YtgaeibibeekclaaGreatDoor
