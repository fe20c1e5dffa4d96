/- FnCorners: the walk. -/
import Derived.Test.YtohojjoediibhaaGreatDoorUh
import Derived.Test.YtohojjoediibhaaGreatDoorNe
import Derived.Test.YtohojjoediibhaaGreatDoorSm
import Derived.Test.YtohojjoediibhaaGreatDoorJk
import Derived.Test.YtohojjoediibhaaGreatDoorJm
import Derived.Test.YtohojjoediibhaaGreatDoorBp
import Derived.Test.YtohojjoediibhaaGreatDoorBq
import Derived.Test.YtohojjoediibhaaGreatDoorBs
import Derived.Test.YtohojjoediibhaaGreatDoorBe
namespace Go.Proofs.YtohojjoediibhaaGreatDoor
open Go.RowKit

set_option maxRecDepth 100000 in
set_option maxHeartbeats 16000000 in
theorem fnCorners_any (a : Option Addr) (len cap : Nat) (w : World) (h : Bytes w a len cap) (hg : EtOk w) :
    Calls Tryz.prog 10 #[.slice a len cap] w fun e w' => e = .returned (.bool true) ∧ Below w.heap.size w w' := by
  by_cases hlen : len ≤ 1048576
  case neg =>
    have j1 : (1048576 : Int) < (len : Int) := by omega
    clear h hg
    go_enter Tryz.func10, Tryz.ntmps10
    go_wp2
    go_returns
    exact ⟨rfl, by go_grown⟩
  case pos =>
  have j1 : (len : Int) ≤ 1048576 := by omega
  have HO := Lib.hid (drawSectionCorners_any w a len cap h)
  clear h
  go_enter Tryz.func10, Tryz.ntmps10
  go_wp2_with fail
  refine Calls.mono HO.out ?_
  rintro e w1 ⟨v, u, l, d, rfl, hV, hI, h2, h20, hd, hb1⟩
  have HG := Lib.hid (hg.below hb1)
  have Hf := Lib.hid hV
  have Hd := Lib.hid hI
  have HB : Hid (Below w.heap.size w w1) := hb1
  clear hb1 HO hg hV hI
  cases hk : cornDB l d
  · have C1 : Hid (∀ (w' : World) (v0 : Value) (v1 : Value), ReadsVecs w' v0 (l) → ReadsInts w' v1 (d) → EtOk w' → Calls Tryz.prog 37 #[v0, v1] w' (GivesVecsOk w' ([]) (false))) := fun w' v0 v1 h0 h1 hg' => by
      have h := sectionCorners_any v0 (l) v1 (d) w' h0 h1 hg'
      rw [hk] at h
      exact h
    have C2 : Hid (∀ (w' : World) (v0 : Value) (v1 : Value), ReadsVecs w' v0 (l) → ReadsInts w' v1 (d) → EtOk w' → Calls Tryz.prog 38 #[v0, v1] w' (GivesVecsOk w' ([]) (false))) := fun w' v0 v1 h0 h1 hg' => by
      have h := specSectionCorners_any v0 (l) v1 (d) w' h0 h1
      rw [hk] at h
      exact h
    clear hk
    go_wp2_with fail
    refine Calls.mono (C1.out _ _ _ (Hf.out.below (by go_grown)) (Hd.out.below (by go_grown)) (HG.out.below (by go_grown))) ?_
    rintro e w2 ⟨v2, rfl, hI2, hb2⟩
    have hB2 := belowTo (a := w1) (by go_grown) hb2
    replace Hf := Lib.hid (Hf.out.below hB2)
    replace Hd := Lib.hid (Hd.out.below hB2)
    replace HG := Lib.hid (HG.out.below hB2)
    replace HB := Lib.hid (belowTo HB.out hB2)
    clear hb2 hB2
    have Ho1 := Lib.hid (Vecs.reads hI2 (by simp))
    clear hI2
    go_wp2_with fail
    refine Calls.mono (C2.out _ _ _ (Hf.out.below (by go_grown)) (Hd.out.below (by go_grown)) (HG.out.below (by go_grown))) ?_
    rintro e w3 ⟨v3, rfl, hI3, hb3⟩
    have hB3 := belowTo (a := w2) (by go_grown) hb3
    replace Hf := Lib.hid (Hf.out.below hB3)
    replace Hd := Lib.hid (Hd.out.below hB3)
    replace Ho1 := Lib.hid (Ho1.out.below hB3)
    replace HG := Lib.hid (HG.out.below hB3)
    replace HB := Lib.hid (belowTo HB.out hB3)
    clear hb3 hB3
    have Ho2 := Lib.hid (Vecs.reads hI3 (by simp))
    clear hI3
    go_wp2_with fail
    refine Calls.mono (sameVecs_eq _ _ _ _ (Ho1.out.below (by go_grown)) (Ho2.out.below (by go_grown))) ?_
    rintro e w4 ⟨rfl, hb4⟩
    have hB4 := belowTo (a := w3) (by go_grown) hb4
    replace Hf := Lib.hid (Hf.out.below hB4)
    replace Hd := Lib.hid (Hd.out.below hB4)
    replace Ho1 := Lib.hid (Ho1.out.below hB4)
    replace Ho2 := Lib.hid (Ho2.out.below hB4)
    replace HG := Lib.hid (HG.out.below hB4)
    replace HB := Lib.hid (belowTo HB.out hB4)
    clear hb4 hB4
    go_wp2_with fail
    refine Calls.mono (sameVecs_eq _ _ _ _ (Ho1.out.below (by go_grown)) (Ho2.out.below (by go_grown))) ?_
    rintro e w5 ⟨rfl, hb5⟩
    have hB5 := belowTo (a := w4) (by go_grown) hb5
    replace Hf := Lib.hid (Hf.out.below hB5)
    replace Hd := Lib.hid (Hd.out.below hB5)
    replace Ho1 := Lib.hid (Ho1.out.below hB5)
    replace Ho2 := Lib.hid (Ho2.out.below hB5)
    replace HG := Lib.hid (HG.out.below hB5)
    replace HB := Lib.hid (belowTo HB.out hB5)
    clear hb5 hB5
    go_wp2
    go_returns
    exact ⟨rfl, HB.out⟩
  · have C1 : Hid (∀ (w' : World) (v0 : Value) (v1 : Value), ReadsVecs w' v0 (l) → ReadsInts w' v1 (d) → EtOk w' → Calls Tryz.prog 37 #[v0, v1] w' (GivesVecsOk w' (cornL l d) (true))) := fun w' v0 v1 h0 h1 hg' => by
      have h := sectionCorners_any v0 (l) v1 (d) w' h0 h1 hg'
      rw [hk] at h
      exact h
    have C2 : Hid (∀ (w' : World) (v0 : Value) (v1 : Value), ReadsVecs w' v0 (l) → ReadsInts w' v1 (d) → EtOk w' → Calls Tryz.prog 38 #[v0, v1] w' (GivesVecsOk w' (cornL l d) (true))) := fun w' v0 v1 h0 h1 hg' => by
      have h := specSectionCorners_any v0 (l) v1 (d) w' h0 h1
      rw [hk] at h
      exact h
    have q1 := (cornD_in hk).1
    have hS := div_smooth q1
    have C3 : Hid (∀ (w' : World) (v0 : Value) (v1 : Value), ReadsVecs w' v0 (l) → ReadsInts w' v1 (d) → EtOk w' → Calls Tryz.prog 17 #[v0, v1] w' (GivesIntsOk w' (degsZ l d) (true))) := fun w' v0 v1 h0 h1 hg' => by
      have h := divisorDegrees_any v0 (l) v1 (d) w' h0 h1 hg'
      rw [q1] at h
      exact h
    have C4 : Hid (∀ (k : Nat), k < l.length → ∀ (w' : World) (v0 : Value) (v1 : Value), ReadsVecs w' v0 l → ReadsInts w' v1 d → EtOk w' → Calls Tryz.prog 40 #[v0, v1, .agg #[.int .i64 ((cyc (cornL l d) k).1), .int .i64 ((cyc (cornL l d) k).2)]] w' (fun e w'' => e = .returned (.bool true) ∧ Below w'.heap.size w' w'')) := fun k hkk w' v0 v1 h0 h1 hg' => by
      have h := sectionHas_any v0 l v1 d (cyc (cornL l d) k).1 (cyc (cornL l d) k).2 w' h0 h1 hg'
      rw [corn_cyc hkk, q1, corn_vec hk hkk, corn_has hk hkk] at h
      rw [corn_cyc hkk]
      exact h
    have HN : Hid ((degsZ l d).length = l.length ∧ (cornL l d).length = l.length) := ⟨degs_len _ _, corn_len _ _⟩
    have HW : Hid (∀ k, k < l.length → (cyc (cornL l d) k).1 - (cyc (cornL l d) ((k + l.length - 1) % l.length)).1 = gz (degsZ l d) k * (cyc l k).2 ∧ (cyc (cornL l d) k).2 - (cyc (cornL l d) ((k + l.length - 1) % l.length)).2 = -(gz (degsZ l d) k * (cyc l k).1)) := fun k hkk => by rw [corn_cyc hkk, corn_cyc (Nat.mod_lt _ (by omega)), degs_gz hkk]; exact corn_way hS d hkk
    have HX : Hid (∀ k, k < l.length → (-202000202 ≤ gz (degsZ l d) k ∧ gz (degsZ l d) k ≤ 202000202) ∧ ((-1000 ≤ (cyc l k).1 ∧ (cyc l k).1 ≤ 1000) ∧ -1000 ≤ (cyc l k).2 ∧ (cyc l k).2 ≤ 1000)) := fun k hkk => by rw [degs_gz hkk]; exact ⟨deg_bnd hS (bnd_mono (div_bnd q1) (by omega)) k, szs (hS.1 k)⟩
    have HY : Hid (∀ k, k < l.length → ((-1000 ≤ (cyc (cornL l d) k).1 ∧ (cyc (cornL l d) k).1 ≤ 1000) ∧ -1000 ≤ (cyc (cornL l d) k).2 ∧ (cyc (cornL l d) k).2 ≤ 1000)) := fun k hkk => by rw [corn_cyc hkk]; exact szs (corn_vec hk hkk)
    clear hk q1 hS
    generalize degsZ l d = m at *
    generalize cornL l d = s at *
    go_wp2_with fail
    refine Calls.mono (C1.out _ _ _ (Hf.out.below (by go_grown)) (Hd.out.below (by go_grown)) (HG.out.below (by go_grown))) ?_
    rintro e w2 ⟨v2, rfl, hI2, hb2⟩
    have hB2 := belowTo (a := w1) (by go_grown) hb2
    replace Hf := Lib.hid (Hf.out.below hB2)
    replace Hd := Lib.hid (Hd.out.below hB2)
    replace HG := Lib.hid (HG.out.below hB2)
    replace HB := Lib.hid (belowTo HB.out hB2)
    clear hb2 hB2
    have Ho := Lib.hid (Vecs.reads hI2 (by have := HN.out; omega))
    clear hI2
    go_wp2_with fail
    refine Calls.mono (C2.out _ _ _ (Hf.out.below (by go_grown)) (Hd.out.below (by go_grown)) (HG.out.below (by go_grown))) ?_
    rintro e w3 ⟨v3, rfl, hI3, hb3⟩
    have hB3 := belowTo (a := w2) (by go_grown) hb3
    replace Hf := Lib.hid (Hf.out.below hB3)
    replace Hd := Lib.hid (Hd.out.below hB3)
    replace Ho := Lib.hid (Ho.out.below hB3)
    replace HG := Lib.hid (HG.out.below hB3)
    replace HB := Lib.hid (belowTo HB.out hB3)
    clear hb3 hB3
    have Ho2 := Lib.hid (Vecs.reads hI3 (by have := HN.out; omega))
    clear hI3
    go_wp2_with fail
    refine Calls.mono (sameVecs_eq _ _ _ _ (Ho.out.below (by go_grown)) (Ho2.out.below (by go_grown))) ?_
    rintro e w4 ⟨rfl, hb4⟩
    have hB4 := belowTo (a := w3) (by go_grown) hb4
    replace Hf := Lib.hid (Hf.out.below hB4)
    replace Hd := Lib.hid (Hd.out.below hB4)
    replace Ho := Lib.hid (Ho.out.below hB4)
    replace Ho2 := Lib.hid (Ho2.out.below hB4)
    replace HG := Lib.hid (HG.out.below hB4)
    replace HB := Lib.hid (belowTo HB.out hB4)
    clear hb4 hB4
    clear Ho2
    go_wp2_with fail
    refine Calls.mono (C3.out _ _ _ (Hf.out.below (by go_grown)) (Hd.out.below (by go_grown)) (HG.out.below (by go_grown))) ?_
    rintro e w5 ⟨v5, rfl, hI5, hb5⟩
    have hB5 := belowTo (a := w4) (by go_grown) hb5
    replace Hf := Lib.hid (Hf.out.below hB5)
    replace Hd := Lib.hid (Hd.out.below hB5)
    replace Ho := Lib.hid (Ho.out.below hB5)
    replace HG := Lib.hid (HG.out.below hB5)
    replace HB := Lib.hid (belowTo HB.out hB5)
    clear hb5 hB5
    have Hu := Lib.hid (Ints.reads hI5 (by have := HN.out; omega))
    clear hI5
    obtain ⟨fb, fo, fc, rfl, -, -, hfb, hfs⟩ := Hf.out.open (by omega)
    have Hfs := Lib.hid hfs
    obtain ⟨ob, oo, oc, rfl, -, -, hob, hos⟩ := Ho.out.open (by have := HN.out; omega)
    have Hos := Lib.hid hos
    obtain ⟨ub, uo, uc, rfl, _, hub, hus⟩ := Hu.out.open (by have := HN.out; omega)
    have Hus := Lib.hid hus
    clear hus
    clear Hu
    have hnn := HN.out
    rw [hnn.1, hnn.2]
    have HNs := Lib.hid hnn.2
    clear hfs hos hnn
    go_wp2
    go_loopw [12] (fun s12 wr => ∃ k : Nat, k ≤ l.length ∧ s12 = .int .i64 k ∧ Hid (Below w5.heap.size w5 wr)) (fun s12 _ => l.length - (intOf s12).toNat)
    case atStart => exact ⟨0, Nat.zero_le _, rfl, by show Below _ _ _; go_grown⟩
    case round =>
      obtain ⟨k, hk, rfl, HBr⟩ := hrel
      have i1 : (0 : Int) ≤ (k : Int) := by omega
      by_cases hlt : k < l.length
      · have i2 : (k : Int) < (l.length : Int) := by omega
        have hq : (k + l.length - 1) % l.length < l.length := Nat.mod_lt _ (by omega)
        have qi : Int.tmod ((k : Int) + (l.length : Int) - 1) (l.length : Int) = (((k + l.length - 1) % l.length : Nat) : Int) := by rw [show (k : Int) + (l.length : Int) - 1 = ((k + l.length - 1 : Nat) : Int) by omega]; exact (Int.ofNat_tmod _ _).symm
        have qj : ((k : Int) + (l.length : Int) - 1) % (l.length : Int) = (((k + l.length - 1) % l.length : Nat) : Int) := by rw [show (k : Int) + (l.length : Int) - 1 = ((k + l.length - 1 : Nat) : Int) by omega]; exact (Int.natCast_emod _ _).symm
        have i3 : (0 : Int) ≤ (((k + l.length - 1) % l.length : Nat) : Int) := by omega
        have i4 : (((k + l.length - 1) % l.length : Nat) : Int) < (l.length : Int) := by omega
        have i5 : (k : Int) + (l.length : Int) ≤ 40 := by omega
        have i6 : 0 < l.length := by omega
        obtain ⟨cf0, cf1⟩ := Hfs.out wr HBr.out k hlt
        obtain ⟨co0, co1⟩ := Hos.out wr HBr.out k (by rw [HNs.out]; exact hlt)
        obtain ⟨cp0, cp1⟩ := Hos.out wr HBr.out ((k + l.length - 1) % l.length) (by rw [HNs.out]; exact hq)
        have cu := Hus.out wr HBr.out k (by have := HN.out; omega)
        have hw := HW.out k hlt
        have hx := HX.out k hlt
        have hy := HY.out k hlt
        have hz := HY.out _ hq
        have HC4 := Lib.hid (fun w' hb => C4.out k hlt w' _ _ ((Hf.out.below HBr.out).below hb) ((Hd.out.below HBr.out).below hb) ((HG.out.below HBr.out).below hb))
        have lf := Nat.lt_of_lt_of_le hfb HBr.out.size
        have lo := Nat.lt_of_lt_of_le hob HBr.out.size
        have lu := Nat.lt_of_lt_of_le hub HBr.out.size
        have hbr := HBr.out
        generalize cyc l k = F at *
        generalize cyc s k = O at *
        generalize cyc s ((k + l.length - 1) % l.length) = P at *
        generalize gz m k = g at *
        generalize (k + l.length - 1) % l.length = q at *
        obtain ⟨fx, fy⟩ := F
        obtain ⟨ox, oy⟩ := O
        obtain ⟨px, py⟩ := P
        dsimp only at cf0 cf1 co0 co1 cp0 cp1 hw hx hy hz HC4
        have m1 := mul_le hx.1 hx.2.2
        have m2 := mul_le hx.1 hx.2.1
        obtain ⟨A, hA⟩ : ∃ A, A = g * fy := ⟨_, rfl⟩
        obtain ⟨B, hB⟩ : ∃ B, B = g * fx := ⟨_, rfl⟩
        rw [← hA] at m1 hw
        rw [← hB] at m2 hw
        have qa : IntKind.i64.wrap (ox - px) = A := by rw [hw.1, IntKind.wrap_i64]; omega
        have qb : IntKind.i64.wrap (oy - py) = -B := by rw [hw.2, IntKind.wrap_i64]; omega
        have qc : IntKind.i64.wrap (g * fy) = A := by rw [← hA, IntKind.wrap_i64]; omega
        have qd : IntKind.i64.wrap (g * fx) = B := by rw [← hB, IntKind.wrap_i64]; omega
        have qe : IntKind.i64.wrap (0 - B) = -B := by rw [IntKind.wrap_i64]; omega
        have qf : IntKind.i64.wrap (-B) = -B := by rw [IntKind.wrap_i64]; omega
        have qs := fun w' => run_neSame A (-B) w'
        clear m1 m2 hA hB hw hx hy hz HW HX HY C1 C2 C3 C4 Hfs Hos Hus HN HNs
        go_wp2
        have hA : Below wr.heap.size wr (wr.alloc (.cells #[.int .i64 px, .int .i64 py] 25)) := by go_grown
        have bx0 : (wr.alloc (.cells #[.int .i64 px, .int .i64 py] 25)).cell? ⟨wr.heap.size, 0, none⟩ = some (.int .i64 px) := by simp
        have bx1 : (wr.alloc (.cells #[.int .i64 px, .int .i64 py] 25)).cell? ⟨wr.heap.size, 1, none⟩ = some (.int .i64 py) := by simp
        have lx : wr.heap.size < (wr.alloc (.cells #[.int .i64 px, .int .i64 py] 25)).heap.size := by simp
        have cf0a := (hA.cell (p := ⟨fb, fo + k * 2, none⟩) lf).trans cf0
        have cf1a := (hA.cell (p := ⟨fb, fo + k * 2 + 1, none⟩) lf).trans cf1
        have co0a := (hA.cell (p := ⟨ob, oo + k * 2, none⟩) lo).trans co0
        have co1a := (hA.cell (p := ⟨ob, oo + k * 2 + 1, none⟩) lo).trans co1
        have cua := (hA.cell (p := ⟨ub, uo + k, none⟩) lu).trans cu
        have lfa := Nat.lt_of_lt_of_le lf hA.size
        have loa := Nat.lt_of_lt_of_le lo hA.size
        have lua := Nat.lt_of_lt_of_le lu hA.size
        clear cf0 cf1 co0 co1 cp0 cp1 cu
        generalize wr.alloc (.cells #[.int .i64 px, .int .i64 py] 25) = wa at *
        refine wp_region_any (by kernel_rfl) ?_
        try (change wpAny _ _ _ _ _ _ _ (World.drew _))
        refine wpAny_of_held (S := fun w' => Below (wa.heap.size) wa w') _ _ _ _ ?_
        have hSw : Below (wa.heap.size) wa (World.drew wa) := by go_grown
        generalize World.drew wa = wd at hSw ⊢
        refine wpAnyH_take (i := 0) (v := ?_) rfl (by kernel_rfl) (by kernel_rfl) (by kernel_rfl) (fun _ _ _ h => h) (Or.inl ⟨by rfl, ?_⟩) hSw ?_
        rotate_left
        focus (intro w0 hS0; clear hS0; go_simp; try with_reducible rfl)
        refine wpAnyH_take (i := 1) (v := ?_) rfl (by kernel_rfl) (by kernel_rfl) (by kernel_rfl) (fun _ _ _ h => h) (Or.inl ⟨by rfl, ?_⟩) hSw ?_
        rotate_left
        focus (intro w0 hS0; clear hS0; go_simp; try with_reducible rfl)
        refine wpAnyH_take (i := 2) (v := ?_) rfl (by kernel_rfl) (by kernel_rfl) (by kernel_rfl) (fun _ _ _ h => h) (Or.inl ⟨by rfl, ?_⟩) hSw ?_
        rotate_left
        focus (intro w0 hS0; clear hS0; go_simp; try with_reducible rfl)
        refine wpAnyH_take (i := 3) (v := ?_) rfl (by kernel_rfl) (by kernel_rfl) (by kernel_rfl) (fun _ _ _ h => h) (Or.inl ⟨by rfl, ?_⟩) hSw ?_
        rotate_left
        focus (intro w0 hS0; clear hS0; go_simp; try with_reducible rfl)
        refine wpAnyH_take (i := 4) (v := ?_) rfl (by kernel_rfl) (by kernel_rfl) (by kernel_rfl) (fun _ _ _ h => h) (Or.inl ⟨by rfl, ?_⟩) hSw ?_
        rotate_left
        focus (intro w0 hS0; have r0 := (hS0.cell (p := ⟨ob, oo + k * 2, none⟩) loa).trans co0a; have r1 := (hS0.cell (p := ⟨ob, oo + k * 2 + 1, none⟩) loa).trans co1a; have r2 := (hS0.cell (p := ⟨wr.heap.size, 0, none⟩) lx).trans bx0; have r3 := (hS0.cell (p := ⟨wr.heap.size, 1, none⟩) lx).trans bx1; clear hS0; go_simp; try with_reducible rfl)
        refine wpAnyH_take (i := 5) (v := ?_) rfl (by kernel_rfl) (by kernel_rfl) (by kernel_rfl) (fun _ _ _ h => h) (Or.inl ⟨by rfl, ?_⟩) hSw ?_
        rotate_left
        focus (intro w0 hS0; clear hS0; go_simp; try with_reducible rfl)
        refine wpAnyH_take (i := 6) (v := ?_) rfl (by kernel_rfl) (by kernel_rfl) (by kernel_rfl) (fun _ _ _ h => h) (Or.inl ⟨by rfl, ?_⟩) hSw ?_
        rotate_left
        focus (intro w0 hS0; have r0 := (hS0.cell (p := ⟨ob, oo + k * 2, none⟩) loa).trans co0a; have r1 := (hS0.cell (p := ⟨ob, oo + k * 2 + 1, none⟩) loa).trans co1a; have r2 := (hS0.cell (p := ⟨wr.heap.size, 0, none⟩) lx).trans bx0; have r3 := (hS0.cell (p := ⟨wr.heap.size, 1, none⟩) lx).trans bx1; clear hS0; go_simp; try with_reducible rfl)
        refine wpAnyH_take (i := 7) (v := ?_) rfl (by kernel_rfl) (by kernel_rfl) (by kernel_rfl) (fun _ _ _ h => h) (Or.inl ⟨by rfl, ?_⟩) hSw ?_
        rotate_left
        focus (intro w0 hS0; clear hS0; go_simp; try with_reducible rfl)
        refine wpAnyH_take (i := 8) (v := ?_) rfl (by kernel_rfl) (by kernel_rfl) (by kernel_rfl) (fun _ _ _ h => h) (Or.inl ⟨by rfl, ?_⟩) hSw ?_
        rotate_left
        focus (intro w0 hS0; clear hS0; go_simp; try with_reducible rfl)
        refine wpAnyH_take (i := 9) (v := ?_) rfl (by kernel_rfl) (by kernel_rfl) (by kernel_rfl) (fun _ _ _ h => h) (Or.inl ⟨by rfl, ?_⟩) hSw ?_
        rotate_left
        focus (intro w0 hS0; clear hS0; go_simp; try with_reducible rfl)
        refine wpAnyH_take (i := 10) (v := ?_) rfl (by kernel_rfl) (by kernel_rfl) (by kernel_rfl) (fun _ _ _ h => h) (Or.inl ⟨by rfl, ?_⟩) hSw ?_
        rotate_left
        focus (intro w0 hS0; clear hS0; go_simp; try with_reducible rfl)
        refine wpAnyH_take (i := 11) (v := ?_) rfl (by kernel_rfl) (by kernel_rfl) (by kernel_rfl) (fun _ _ _ h => h) (Or.inl ⟨by rfl, ?_⟩) hSw ?_
        rotate_left
        focus (intro w0 hS0; clear hS0; go_simp; try with_reducible rfl)
        refine wpAnyH_take (i := 12) (v := ?_) rfl (by kernel_rfl) (by kernel_rfl) (by kernel_rfl) (fun _ _ _ h => h) (Or.inl ⟨by rfl, ?_⟩) hSw ?_
        rotate_left
        focus (intro w0 hS0; have r0 := (hS0.cell (p := ⟨ob, oo + k * 2, none⟩) loa).trans co0a; have r1 := (hS0.cell (p := ⟨ob, oo + k * 2 + 1, none⟩) loa).trans co1a; have r2 := (hS0.cell (p := ⟨wr.heap.size, 0, none⟩) lx).trans bx0; have r3 := (hS0.cell (p := ⟨wr.heap.size, 1, none⟩) lx).trans bx1; clear hS0; go_simp; try with_reducible rfl)
        refine wpAnyH_take (i := 13) (v := ?_) rfl (by kernel_rfl) (by kernel_rfl) (by kernel_rfl) (fun _ _ _ h => h) (Or.inl ⟨by rfl, ?_⟩) hSw ?_
        rotate_left
        focus (intro w0 hS0; clear hS0; go_simp; try with_reducible rfl)
        refine wpAnyH_take (i := 14) (v := ?_) rfl (by kernel_rfl) (by kernel_rfl) (by kernel_rfl) (fun _ _ _ h => h) (Or.inl ⟨by rfl, ?_⟩) hSw ?_
        rotate_left
        focus (intro w0 hS0; have r0 := (hS0.cell (p := ⟨ob, oo + k * 2, none⟩) loa).trans co0a; have r1 := (hS0.cell (p := ⟨ob, oo + k * 2 + 1, none⟩) loa).trans co1a; have r2 := (hS0.cell (p := ⟨wr.heap.size, 0, none⟩) lx).trans bx0; have r3 := (hS0.cell (p := ⟨wr.heap.size, 1, none⟩) lx).trans bx1; clear hS0; go_simp; try with_reducible rfl)
        refine wpAnyH_take (i := 15) (v := ?_) rfl (by kernel_rfl) (by kernel_rfl) (by kernel_rfl) (fun _ _ _ h => h) (Or.inl ⟨by rfl, ?_⟩) hSw ?_
        rotate_left
        focus (intro w0 hS0; clear hS0; go_simp; try with_reducible rfl)
        refine wpAnyH_take (i := 16) (v := ?_) rfl (by kernel_rfl) (by kernel_rfl) (by kernel_rfl) (fun _ _ _ h => h) (Or.inl ⟨by rfl, ?_⟩) hSw ?_
        rotate_left
        focus (intro w0 hS0; clear hS0; go_simp; try with_reducible rfl)
        refine wpAnyH_ready (rs := [17]) (by kernel_rfl) (by simp) (AllReadyH.cons rfl (fun K hK => ?_) (AllReadyH.nil))
        go_simp
        (have hSa : Below wa.heap.size wa (wd.alloc (.cells #[.int .i64 0, .int .i64 0] 25)) := hSw.alloc hSw.size _; have y0 : (wd.alloc (.cells #[.int .i64 0, .int .i64 0] 25)).cell? ⟨wd.heap.size, 0, none⟩ = some (.int .i64 0) := (by simp); have y1 : (wd.alloc (.cells #[.int .i64 0, .int .i64 0] 25)).cell? ⟨wd.heap.size, 1, none⟩ = some (.int .i64 0) := (by simp); have yf : ∀ o, (wd.alloc (.cells #[.int .i64 0, .int .i64 0] 25)).frozen? ⟨wd.heap.size, o, none⟩ = false := (fun o => by simp); have ya := hSw.size; replace hSw := hSa; clear hSa; refine hK.out _ _ hSw (fun _ => ?_); clear hK K; generalize wd.alloc (.cells #[.int .i64 0, .int .i64 0] 25) = wx1 at *; generalize wd.heap.size = Ba1 at *)
        refine wpAnyH_ready (rs := [18]) (by kernel_rfl) (by simp) (AllReadyH.cons rfl (fun K hK => ?_) (AllReadyH.nil))
        go_simp
        (have z0 := yf 0; have z1 := yf 1; have g01 : ((wx1.setCell ⟨Ba1, 0, none⟩ (.int .i64 (A))).setCell ⟨Ba1, 1, none⟩ (.int .i64 (-B))).cell? ⟨Ba1, 0, none⟩ = some (.int .i64 (A)) := (by first | (go_cell; done) | (go_simp; done) | (simp; done)); have g11 : ((wx1.setCell ⟨Ba1, 0, none⟩ (.int .i64 (A))).setCell ⟨Ba1, 1, none⟩ (.int .i64 (-B))).cell? ⟨Ba1, 1, none⟩ = some (.int .i64 (-B)) := (by first | (go_cell; done) | (go_simp; done) | (simp; done)); have hS1 : Below wa.heap.size wa ((wx1.setCell ⟨Ba1, 0, none⟩ (.int .i64 (A))).setCell ⟨Ba1, 1, none⟩ (.int .i64 (-B))) := (hSw.setCell (p := ⟨Ba1, 0, none⟩) ya _).setCell (p := ⟨Ba1, 1, none⟩) ya _; refine hK.out _ _ hS1 (fun _ => ?_); clear hK K hSw y0 y1 yf z0 z1; generalize ((wx1.setCell ⟨Ba1, 0, none⟩ (.int .i64 (A))).setCell ⟨Ba1, 1, none⟩ (.int .i64 (-B))) = wb at *)
        refine wpAnyH_done (by kernel_rfl) ?_ _
        have cf0b := (hS1.cell (p := ⟨fb, fo + k * 2, none⟩) lfa).trans cf0a
        have cf1b := (hS1.cell (p := ⟨fb, fo + k * 2 + 1, none⟩) lfa).trans cf1a
        have co0b := (hS1.cell (p := ⟨ob, oo + k * 2, none⟩) loa).trans co0a
        have co1b := (hS1.cell (p := ⟨ob, oo + k * 2 + 1, none⟩) loa).trans co1a
        have cub := (hS1.cell (p := ⟨ub, uo + k, none⟩) lua).trans cua
        have lfb := Nat.lt_of_lt_of_le lfa hS1.size
        have lob := Nat.lt_of_lt_of_le loa hS1.size
        have lub := Nat.lt_of_lt_of_le lua hS1.size
        have lwb := cell_lt g01
        have hAb := hA.trans (hS1.mono hA.size)
        clear cf0a cf1a co0a co1a cua bx0 bx1 hS1 hA
        go_wp2
        refine wp_region_any (by kernel_rfl) ?_
        try (change wpAny _ _ _ _ _ _ _ (World.drew _))
        refine wpAny_of_held (S := fun w' => Below (wb.heap.size) wb w') _ _ _ _ ?_
        have hSw : Below (wb.heap.size) wb (World.drew wb) := by go_grown
        generalize World.drew wb = wd at hSw ⊢
        refine wpAnyH_take (i := 0) (v := ?_) rfl (by kernel_rfl) (by kernel_rfl) (by kernel_rfl) (fun _ _ _ h => h) (Or.inl ⟨by rfl, ?_⟩) hSw ?_
        rotate_left
        focus (intro w0 hS0; clear hS0; go_simp; try with_reducible rfl)
        refine wpAnyH_take (i := 1) (v := ?_) rfl (by kernel_rfl) (by kernel_rfl) (by kernel_rfl) (fun _ _ _ h => h) (Or.inl ⟨by rfl, ?_⟩) hSw ?_
        rotate_left
        focus (intro w0 hS0; clear hS0; go_simp; try with_reducible rfl)
        refine wpAnyH_take (i := 2) (v := ?_) rfl (by kernel_rfl) (by kernel_rfl) (by kernel_rfl) (fun _ _ _ h => h) (Or.inl ⟨by rfl, ?_⟩) hSw ?_
        rotate_left
        focus (intro w0 hS0; clear hS0; go_simp; try with_reducible rfl)
        refine wpAnyH_take (i := 3) (v := ?_) rfl (by kernel_rfl) (by kernel_rfl) (by kernel_rfl) (fun _ _ _ h => h) (Or.inl ⟨by rfl, ?_⟩) hSw ?_
        rotate_left
        focus (intro w0 hS0; have r0 := (hS0.cell (p := ⟨ub, uo + k, none⟩) lub).trans cub; have r1 := (hS0.cell (p := ⟨fb, fo + k * 2, none⟩) lfb).trans cf0b; have r2 := (hS0.cell (p := ⟨fb, fo + k * 2 + 1, none⟩) lfb).trans cf1b; clear hS0; go_simp; try with_reducible rfl)
        refine wpAnyH_take (i := 4) (v := ?_) rfl (by kernel_rfl) (by kernel_rfl) (by kernel_rfl) (fun _ _ _ h => h) (Or.inl ⟨by rfl, ?_⟩) hSw ?_
        rotate_left
        focus (intro w0 hS0; clear hS0; go_simp; try with_reducible rfl)
        refine wpAnyH_take (i := 5) (v := ?_) rfl (by kernel_rfl) (by kernel_rfl) (by kernel_rfl) (fun _ _ _ h => h) (Or.inl ⟨by rfl, ?_⟩) hSw ?_
        rotate_left
        focus (intro w0 hS0; clear hS0; go_simp; try with_reducible rfl)
        refine wpAnyH_take (i := 6) (v := ?_) rfl (by kernel_rfl) (by kernel_rfl) (by kernel_rfl) (fun _ _ _ h => h) (Or.inl ⟨by rfl, ?_⟩) hSw ?_
        rotate_left
        focus (intro w0 hS0; clear hS0; go_simp; try with_reducible rfl)
        refine wpAnyH_take (i := 7) (v := ?_) rfl (by kernel_rfl) (by kernel_rfl) (by kernel_rfl) (fun _ _ _ h => h) (Or.inl ⟨by rfl, ?_⟩) hSw ?_
        rotate_left
        focus (intro w0 hS0; clear hS0; go_simp; try with_reducible rfl)
        refine wpAnyH_take (i := 8) (v := ?_) rfl (by kernel_rfl) (by kernel_rfl) (by kernel_rfl) (fun _ _ _ h => h) (Or.inl ⟨by rfl, ?_⟩) hSw ?_
        rotate_left
        focus (intro w0 hS0; have r0 := (hS0.cell (p := ⟨ub, uo + k, none⟩) lub).trans cub; have r1 := (hS0.cell (p := ⟨fb, fo + k * 2, none⟩) lfb).trans cf0b; have r2 := (hS0.cell (p := ⟨fb, fo + k * 2 + 1, none⟩) lfb).trans cf1b; clear hS0; go_simp; try with_reducible rfl)
        refine wpAnyH_take (i := 9) (v := ?_) rfl (by kernel_rfl) (by kernel_rfl) (by kernel_rfl) (fun _ _ _ h => h) (Or.inl ⟨by rfl, ?_⟩) hSw ?_
        rotate_left
        focus (intro w0 hS0; clear hS0; go_simp; try with_reducible rfl)
        refine wpAnyH_take (i := 10) (v := ?_) rfl (by kernel_rfl) (by kernel_rfl) (by kernel_rfl) (fun _ _ _ h => h) (Or.inl ⟨by rfl, ?_⟩) hSw ?_
        rotate_left
        focus (intro w0 hS0; clear hS0; go_simp; try with_reducible rfl)
        refine wpAnyH_take (i := 11) (v := ?_) rfl (by kernel_rfl) (by kernel_rfl) (by kernel_rfl) (fun _ _ _ h => h) (Or.inl ⟨by rfl, ?_⟩) hSw ?_
        rotate_left
        focus (intro w0 hS0; clear hS0; go_simp; try with_reducible rfl)
        refine wpAnyH_take (i := 12) (v := ?_) rfl (by kernel_rfl) (by kernel_rfl) (by kernel_rfl) (fun _ _ _ h => h) (Or.inl ⟨by rfl, ?_⟩) hSw ?_
        rotate_left
        focus (intro w0 hS0; clear hS0; go_simp; try with_reducible rfl)
        refine wpAnyH_take (i := 13) (v := ?_) rfl (by kernel_rfl) (by kernel_rfl) (by kernel_rfl) (fun _ _ _ h => h) (Or.inl ⟨by rfl, ?_⟩) hSw ?_
        rotate_left
        focus (intro w0 hS0; have r0 := (hS0.cell (p := ⟨ub, uo + k, none⟩) lub).trans cub; have r1 := (hS0.cell (p := ⟨fb, fo + k * 2, none⟩) lfb).trans cf0b; have r2 := (hS0.cell (p := ⟨fb, fo + k * 2 + 1, none⟩) lfb).trans cf1b; clear hS0; go_simp; try with_reducible rfl)
        refine wpAnyH_take (i := 14) (v := ?_) rfl (by kernel_rfl) (by kernel_rfl) (by kernel_rfl) (fun _ _ _ h => h) (Or.inl ⟨by rfl, ?_⟩) hSw ?_
        rotate_left
        focus (intro w0 hS0; clear hS0; go_simp; try with_reducible rfl)
        refine wpAnyH_take (i := 15) (v := ?_) rfl (by kernel_rfl) (by kernel_rfl) (by kernel_rfl) (fun _ _ _ h => h) (Or.inl ⟨by rfl, ?_⟩) hSw ?_
        rotate_left
        focus (intro w0 hS0; clear hS0; go_simp; try with_reducible rfl)
        refine wpAnyH_take (i := 16) (v := ?_) rfl (by kernel_rfl) (by kernel_rfl) (by kernel_rfl) (fun _ _ _ h => h) (Or.inl ⟨by rfl, ?_⟩) hSw ?_
        rotate_left
        focus (intro w0 hS0; clear hS0; go_simp; try with_reducible rfl)
        refine wpAnyH_take (i := 17) (v := ?_) rfl (by kernel_rfl) (by kernel_rfl) (by kernel_rfl) (fun _ _ _ h => h) (Or.inl ⟨by rfl, ?_⟩) hSw ?_
        rotate_left
        focus (intro w0 hS0; clear hS0; go_simp; try with_reducible rfl)
        refine wpAnyH_take (i := 18) (v := ?_) rfl (by kernel_rfl) (by kernel_rfl) (by kernel_rfl) (fun _ _ _ h => h) (Or.inl ⟨by rfl, ?_⟩) hSw ?_
        rotate_left
        focus (intro w0 hS0; have r0 := (hS0.cell (p := ⟨ub, uo + k, none⟩) lub).trans cub; have r1 := (hS0.cell (p := ⟨fb, fo + k * 2, none⟩) lfb).trans cf0b; have r2 := (hS0.cell (p := ⟨fb, fo + k * 2 + 1, none⟩) lfb).trans cf1b; clear hS0; go_simp; try with_reducible rfl)
        refine wpAnyH_take (i := 19) (v := ?_) rfl (by kernel_rfl) (by kernel_rfl) (by kernel_rfl) (fun _ _ _ h => h) (Or.inl ⟨by rfl, ?_⟩) hSw ?_
        rotate_left
        focus (intro w0 hS0; clear hS0; go_simp; try with_reducible rfl)
        refine wpAnyH_take (i := 20) (v := ?_) rfl (by kernel_rfl) (by kernel_rfl) (by kernel_rfl) (fun _ _ _ h => h) (Or.inl ⟨by rfl, ?_⟩) hSw ?_
        rotate_left
        focus (intro w0 hS0; clear hS0; go_simp; try with_reducible rfl)
        refine wpAnyH_take (i := 21) (v := ?_) rfl (by kernel_rfl) (by kernel_rfl) (by kernel_rfl) (fun _ _ _ h => h) (Or.inl ⟨by rfl, ?_⟩) hSw ?_
        rotate_left
        focus (intro w0 hS0; clear hS0; go_simp; try with_reducible rfl)
        refine wpAnyH_ready (rs := [22]) (by kernel_rfl) (by simp) (AllReadyH.cons rfl (fun K hK => ?_) (AllReadyH.nil))
        go_simp
        (have hSa : Below wb.heap.size wb (wd.alloc (.cells #[.int .i64 0, .int .i64 0] 25)) := hSw.alloc hSw.size _; have y0 : (wd.alloc (.cells #[.int .i64 0, .int .i64 0] 25)).cell? ⟨wd.heap.size, 0, none⟩ = some (.int .i64 0) := (by simp); have y1 : (wd.alloc (.cells #[.int .i64 0, .int .i64 0] 25)).cell? ⟨wd.heap.size, 1, none⟩ = some (.int .i64 0) := (by simp); have yf : ∀ o, (wd.alloc (.cells #[.int .i64 0, .int .i64 0] 25)).frozen? ⟨wd.heap.size, o, none⟩ = false := (fun o => by simp); have ya := hSw.size; replace hSw := hSa; clear hSa; refine hK.out _ _ hSw (fun _ => ?_); clear hK K; generalize wd.alloc (.cells #[.int .i64 0, .int .i64 0] 25) = wx2 at *; generalize wd.heap.size = Ba2 at *)
        refine wpAnyH_ready (rs := [23]) (by kernel_rfl) (by simp) (AllReadyH.cons rfl (fun K hK => ?_) (AllReadyH.nil))
        go_simp
        (have z0 := yf 0; have z1 := yf 1; have g02 : ((wx2.setCell ⟨Ba2, 0, none⟩ (.int .i64 (A))).setCell ⟨Ba2, 1, none⟩ (.int .i64 (-B))).cell? ⟨Ba2, 0, none⟩ = some (.int .i64 (A)) := (by first | (go_cell; done) | (go_simp; done) | (simp; done)); have g12 : ((wx2.setCell ⟨Ba2, 0, none⟩ (.int .i64 (A))).setCell ⟨Ba2, 1, none⟩ (.int .i64 (-B))).cell? ⟨Ba2, 1, none⟩ = some (.int .i64 (-B)) := (by first | (go_cell; done) | (go_simp; done) | (simp; done)); have hS2 : Below wb.heap.size wb ((wx2.setCell ⟨Ba2, 0, none⟩ (.int .i64 (A))).setCell ⟨Ba2, 1, none⟩ (.int .i64 (-B))) := (hSw.setCell (p := ⟨Ba2, 0, none⟩) ya _).setCell (p := ⟨Ba2, 1, none⟩) ya _; refine hK.out _ _ hS2 (fun _ => ?_); clear hK K hSw y0 y1 yf z0 z1; generalize ((wx2.setCell ⟨Ba2, 0, none⟩ (.int .i64 (A))).setCell ⟨Ba2, 1, none⟩ (.int .i64 (-B))) = we at *)
        refine wpAnyH_done (by kernel_rfl) ?_ _
        have co0c := (hS2.cell (p := ⟨ob, oo + k * 2, none⟩) lob).trans co0b
        have co1c := (hS2.cell (p := ⟨ob, oo + k * 2 + 1, none⟩) lob).trans co1b
        have g01c := (hS2.cell (p := ⟨Ba1, 0, none⟩) lwb).trans g01
        have g11c := (hS2.cell (p := ⟨Ba1, 1, none⟩) lwb).trans g11
        have hAc := hAb.trans (hS2.mono hAb.size)
        clear cf0b cf1b co0b co1b cub g01 g11 hS2 hAb
        go_wp2_with fail
        refine Calls.mono (HC4.out _ hAc) ?_
        rintro e w9 ⟨rfl, hb9⟩
        have HB9 := Lib.hid (belowTo hbr (belowTo hAc hb9))
        clear hb9 hAc g01c g11c g02 g12 co0c co1c
        go_wp2
        go_roundw
        case rel => exact ⟨k + 1, by omega, by go_num, HB9⟩
        case measure => simp [intOf]; omega
      · have hkn : k = l.length := by omega
        obtain ⟨w6, hw6⟩ : ∃ w6, w6 = wr := ⟨_, rfl⟩
        subst hw6
        have hB6 := HBr.out
        have i2 : ¬ (k : Int) < (l.length : Int) := by omega
        replace Hf := Lib.hid (Hf.out.below hB6)
        replace Hd := Lib.hid (Hd.out.below hB6)
        replace Ho := Lib.hid (Ho.out.below hB6)
        replace HG := Lib.hid (HG.out.below hB6)
        replace HB := Lib.hid (belowTo HB.out hB6)
        clear HBr hB6
        go_wp2
        go_returns
        exact ⟨rfl, HB.out⟩
end Go.Proofs.YtohojjoediibhaaGreatDoor
