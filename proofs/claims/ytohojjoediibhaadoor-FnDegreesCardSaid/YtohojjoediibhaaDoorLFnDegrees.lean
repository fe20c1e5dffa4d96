/- FnDegrees: for every slice of bytes the law returns true and leaves it as it was. Conditions: the listed variable errors.errorType holds what the program's text lays (the card ties it). (The walk and the row, merged into one text.) -/
import Derived.Test.YtohojjoediibhaaDoorBd
import Derived.Test.YtohojjoediibhaaDoorBf
import Derived.Test.YtohojjoediibhaaDoorBe
import Derived.Test.YtohojjoediibhaaDoorBm
import Derived.Test.YtohojjoediibhaaDoorFg
import Derived.Test.YtohojjoediibhaaDoorRowB
import Derived.Test.YtohojjoediibhaaDoorRf
namespace Go.Proofs.YtohojjoediibhaaDoor
open Go.RowKit

set_option maxHeartbeats 1000000 in
theorem drawDegrees_any (w : World) (a : Option Addr) (len cap : Nat) (h : Bytes w a len cap) :
    Calls Tryd.prog 41 #[.slice a len cap] w (GivenD w) := by
  have HO := Lib.hid (l92Given_any w a len cap h)
  clear h
  go_enter Tryd.func41, Tryd.ntmps41
  go_wp2_with fail
  refine Calls.mono HO.out ?_
  rintro e w1 ⟨v, u, l, d, rfl, hV, hI, h2, h20, hd, hb⟩
  have HR := Lib.hid hV
  have HI := Lib.hid hI
  have HD := Lib.hid hd
  clear hV hI hd
  go_wp2
  go_returns
  exact ⟨_, _, l, d, rfl, HR.out, HI.out, h2, h20, HD.out, hb⟩
theorem degX_bnd {l : List V2} {d : List Int} (hS : Smooth l) (hd : bnd 101 d) (i : Nat) : (-202000202000 ≤ degZ l d i * (cyc l i).1 ∧ degZ l d i * (cyc l i).1 ≤ 202000202000) ∧ -202000202000 ≤ degZ l d i * (cyc l i).2 ∧ degZ l d i * (cyc l i).2 ≤ 202000202000 := by
  have h1 := deg_bnd hS hd i
  have h2 := szs (hS.1 i)
  have m1 := mul_le h1 h2.1
  have m2 := mul_le h1 h2.2
  omega
theorem degS_bnd {l : List V2} {d : List Int} (hS : Smooth l) (hd : bnd 101 d) {k : Nat} (hk : k ≤ 20) : (-4040004040000 ≤ sumZ (fun i => degZ l d i * (cyc l i).1) k ∧ sumZ (fun i => degZ l d i * (cyc l i).1) k ≤ 4040004040000) ∧ -4040004040000 ≤ sumZ (fun i => degZ l d i * (cyc l i).2) k ∧ sumZ (fun i => degZ l d i * (cyc l i).2) k ≤ 4040004040000 := by
  have h1 := sumZ_bnd (fun i => (degX_bnd hS hd i).1) k
  have h2 := sumZ_bnd (fun i => (degX_bnd hS hd i).2) k
  omega
set_option maxRecDepth 100000 in
set_option maxHeartbeats 16000000 in
theorem fnDegrees_any (a : Option Addr) (len cap : Nat) (w : World) (h : Bytes w a len cap) (hg : EtOk w) :
    Calls Tryd.prog 9 #[.slice a len cap] w fun e w' => e = .returned (.bool true) ∧ Below w.heap.size w w' := by
  by_cases hlen : len ≤ 1048576
  case neg =>
    have j1 : (1048576 : Int) < (len : Int) := by omega
    clear h hg
    go_enter Tryd.func9, Tryd.ntmps9
    go_wp2
    go_returns
    exact ⟨rfl, by go_grown⟩
  case pos =>
  have j1 : (len : Int) ≤ 1048576 := by omega
  have HO := Lib.hid (drawDegrees_any w a len cap h)
  clear h
  go_enter Tryd.func9, Tryd.ntmps9
  go_wp2_with fail
  refine Calls.mono HO.out ?_
  rintro e w1 ⟨v, u, l, d, rfl, hV, hI, h2, h20, hd, hb1⟩
  have HG := Lib.hid (hg.below hb1)
  have HM := Lib.hid (divisorDegrees_any v l u d w1 hV hI (hg.below hb1))
  have HS := Lib.hid (fun w' (hb : Below w1.heap.size w1 w') => specDivisorDegrees_any v l u d w' (hV.below hb) (hI.below hb))
  have HX := Lib.hid (fun v1 v2 b1 b2 w' h1 h2 => sameInts_same v1 v2 b1 b2 (gV (divB l d) (degsZ l d)) w' h1 h2)
  obtain ⟨bv, ov, vc, rfl, _, _, hbv, hvs⟩ := hV.open (by omega)
  obtain ⟨pu, cu, rfl, _⟩ := hI.len
  have HVS := Lib.hid hvs
  have hs1 := hb1.size
  have HB1 := Lib.hid hb1
  have HLn : Hid (2 ≤ l.length ∧ l.length ≤ 20) := ⟨h2, h20⟩
  have HDl := Lib.hid hd
  clear hV hI hvs hg HO hd
  cases hk : divB l d
  · rw [hk] at HM HS HX
    have HM2 : Hid (Calls Tryd.prog 27 #[.slice (some ⟨bv, ov, none⟩) l.length vc, .slice pu d.length cu] w1 (GivesIntsOk w1 [] false)) := HM.out
    have HS2 : Hid (∀ w', Below w1.heap.size w1 w' → Calls Tryd.prog 42 #[.slice (some ⟨bv, ov, none⟩) l.length vc, .slice pu d.length cu] w' (GivesIntsOk w' [] false)) := HS.out
    have HX2 : Hid (∀ (v1 v2 : Value) (b1 b2 : Nat) (w' : World), Ints w' b1 v1 [] → Ints w' b2 v2 [] → Calls Tryd.prog 24 #[v1, v2] w' fun e w'' => e = .returned (.bool true) ∧ Below w'.heap.size w' w'') := HX.out
    clear hk HM HS HX
    go_wp2_with fail
    refine Calls.mono HM2.out ?_
    rintro e w2 ⟨v2, rfl, hI2, hb2⟩
    have HI2 := Lib.hid hI2
    clear hI2
    go_wp2_with fail
    refine Calls.mono (HS2.out _ hb2) ?_
    rintro e w3 ⟨v3, rfl, hI3, hb3⟩
    have HI3 := Lib.hid hI3
    have HI23 := Lib.hid (HI2.out.below hb3)
    have hB3 := belowTo hb2 hb3
    clear hI3 hb2 hb3 HI2
    go_wp2_with fail
    refine Calls.mono (HX2.out _ _ _ _ _ HI23.out HI3.out) ?_
    rintro e w4 ⟨rfl, hb4⟩
    have HI4 := Lib.hid (HI3.out.below hb4)
    have HI24 := Lib.hid (HI23.out.below hb4)
    have hB4 := belowTo hB3 hb4
    clear HI3 HI23 hb4 hB3
    go_wp2_with fail
    refine Calls.mono (HX2.out _ _ _ _ _ HI24.out HI4.out) ?_
    rintro e w5 ⟨rfl, hb5⟩
    have hB5 := HB1.out.trans ((belowTo hB4 hb5).mono hs1)
    clear HI4 HI24 hb5 hB4
    go_wp2
    go_returns
    exact ⟨rfl, hB5⟩
  · have hS := div_smooth hk
    have hbd : bnd 101 d := bnd_mono (div_bnd hk) (by omega)
    have hdr := deg_rays (d := d) hS (by omega)
    rw [hk] at HM HS HX
    have HM2 : Hid (Calls Tryd.prog 27 #[.slice (some ⟨bv, ov, none⟩) l.length vc, .slice pu d.length cu] w1 (GivesIntsOk w1 (degsZ l d) true)) := HM.out
    have HS2 : Hid (∀ w', Below w1.heap.size w1 w' → Calls Tryd.prog 42 #[.slice (some ⟨bv, ov, none⟩) l.length vc, .slice pu d.length cu] w' (GivesIntsOk w' (degsZ l d) true)) := HS.out
    have HX2 : Hid (∀ (v1 v2 : Value) (b1 b2 : Nat) (w' : World), Ints w' b1 v1 (degsZ l d) → Ints w' b2 v2 (degsZ l d) → Calls Tryd.prog 24 #[v1, v2] w' fun e w'' => e = .returned (.bool true) ∧ Below w'.heap.size w' w'') := HX.out
    have HBn := Lib.hid (fun k (hk : k ≤ 20) => degS_bnd hS hbd hk)
    have HTm := Lib.hid (fun i => degX_bnd hS hbd i)
    have HS1 : Hid (∀ k, sumZ (fun i => degZ l d i * (cyc l i).1) (k + 1) = sumZ (fun i => degZ l d i * (cyc l i).1) k + degZ l d k * (cyc l k).1) := fun _ => rfl
    have HSy : Hid (∀ k, sumZ (fun i => degZ l d i * (cyc l i).2) (k + 1) = sumZ (fun i => degZ l d i * (cyc l i).2) k + degZ l d k * (cyc l k).2) := fun _ => rfl
    have H00 : Hid (sumZ (fun i => degZ l d i * (cyc l i).1) 0 = 0 ∧ sumZ (fun i => degZ l d i * (cyc l i).2) 0 = 0) := ⟨rfl, rfl⟩
    have HEnd := Lib.hid hdr
    have HGz : Hid (∀ k, k < l.length → gz (degsZ l d) k = degZ l d k) := fun k hk => gz_tab _ hk
    have HLd : Hid ((degsZ l d).length = l.length) := degs_len l d
    generalize hSx : sumZ (fun i => degZ l d i * (cyc l i).1) = Sx at *
    generalize hSy : sumZ (fun i => degZ l d i * (cyc l i).2) = Sy at *
    generalize degsZ l d = L at *
    generalize degZ l d = G at *
    clear hk HM HS HX hS hbd hdr hSx hSy
    obtain ⟨n, hn⟩ : ∃ n, n = l.length := ⟨_, rfl⟩
    rw [← hn] at HVS HM2 HS2 HEnd HGz HLd HLn ⊢
    clear hn h2 h20
    go_wp2_with fail
    refine Calls.mono HM2.out ?_
    rintro e w2 ⟨v2, rfl, hI2, hb2⟩
    have HI2 := Lib.hid hI2
    clear hI2
    go_wp2_with fail
    refine Calls.mono (HS2.out _ hb2) ?_
    rintro e w3 ⟨v3, rfl, hI3, hb3⟩
    have HI3 := Lib.hid hI3
    have HI23 := Lib.hid (HI2.out.below hb3)
    have hB3 := belowTo hb2 hb3
    clear hI3 hb2 hb3 HI2
    go_wp2_with fail
    refine Calls.mono (HX2.out _ _ _ _ _ HI23.out HI3.out) ?_
    rintro e w4 ⟨rfl, hb4⟩
    have hR4 := (HI23.out.below hb4).reads (by rw [HLd.out]; have := HLn.out; omega)
    have hB4 := belowTo hB3 hb4
    obtain ⟨bo, oo, co, rfl, _, hbo, hos⟩ := hR4.open (by rw [HLd.out]; have := HLn.out; omega)
    rw [HLd.out] at hos
    have HOS := Lib.hid hos
    have HB4 := Lib.hid hB4
    have hs4 := hB4.size
    rw [HLd.out]
    clear HI3 HI23 hb4 hB3 hR4 hos HM2 HS2 HX2 hB4
    go_wp2
    go_loopw [9, 10, 11] (fun s9 s10 s11 wr => ∃ k : Nat, k ≤ n ∧ s9 = .int .i64 (Sx k) ∧ s10 = .int .i64 (Sy k) ∧ s11 = .int .i64 k ∧ Below w4.heap.size w4 wr) (fun _ _ s11 _ => n - (intOf s11).toNat)
    case atStart => exact ⟨0, Nat.zero_le _, by rw [H00.out.1], by rw [H00.out.2], rfl, Below.refl _ _⟩
    case round =>
      obtain ⟨k, hk, rfl, rfl, rfl, hB⟩ := hrel
      have i1 : (0 : Int) ≤ (k : Int) := by omega
      by_cases hlt : k < n
      · have i2 : (k : Int) < (n : Int) := by omega
        obtain ⟨c0, c1⟩ := HVS.out wr (belowTo HB4.out hB) k hlt
        have o0 := HOS.out wr hB k hlt
        rw [HGz.out k hlt] at o0
        have b1 := HBn.out k (by have := HLn.out; omega)
        have b2 := HTm.out k
        have HS1k := Lib.hid (HS1.out k)
        have HSyk := Lib.hid (HSy.out k)
        generalize Sx k = X at *
        generalize Sy k = Y at *
        generalize G k = g at *
        generalize cyc l k = Z at *
        obtain ⟨zx, zy⟩ := Z
        dsimp only at c0 c1 b2 HS1k HSyk
        have q1 : IntKind.i64.wrap (g * zx) = g * zx := by rw [IntKind.wrap_i64]; omega
        have q2 : IntKind.i64.wrap (g * zy) = g * zy := by rw [IntKind.wrap_i64]; omega
        have q3 : IntKind.i64.wrap (X + g * zx) = X + g * zx := by rw [IntKind.wrap_i64]; omega
        have q4 : IntKind.i64.wrap (Y + g * zy) = Y + g * zy := by rw [IntKind.wrap_i64]; omega
        have i3 : (k : Int) + 1 ≤ 20 := by have := HLn.out; omega
        clear b1 b2 HVS HOS HGz HBn HTm HS1 HSy H00 HEnd HG
        go_wp2_with fail
        go_quiet (fail)
        go_wp2_with fail
        go_quiet (fail)
        go_wp2
        go_roundw
        case rel => exact ⟨k + 1, by omega, by rw [HS1k.out], by rw [HSyk.out], by go_num, below_drewN hB _⟩
        case measure => simp [intOf]; omega
      · obtain rfl : k = n := by omega
        have i2 : ¬ (k : Int) < (k : Int) := by omega
        have x0 := HEnd.out.1
        have y0 := HEnd.out.2
        have hBk := HB1.out.trans ((HB4.out.trans (hB.mono hs4)).mono hs1)
        rw [x0, y0]
        clear HVS HOS HGz HBn HTm HS1 HSy H00 HEnd HG
        go_wp2
        go_returns
        exact ⟨rfl, hBk⟩
end Go.Proofs.YtohojjoediibhaaDoor
namespace Go.Proofs.YtohojjoediibhaaDoor.fnDegrees
open Go.ChangeShapes Go.WideShapes Go.ChangeAt Go.RowKit Go.Joins

set_option maxRecDepth 100000 in
theorem contract (H : Type) (enc : TypeId × Value → H) (W : World) (base : Nat) (args : Array Value) (ds gs : List (DataW H)) (before : List MemPlace)
    (hval : ∀ (j : Nat) t v, Tryd.f9.params[j]? = some t → args[j]? = some v → Value.okWide Tryd.prog W .any base t v)
    (hW : DataW.Whole enc Tryd.prog Tryd.f9.params.toList Rows.fnDegreesSpec.vars false W args.toList ds gs before) (hL : laidMetH Tryd.prog Rows.fnDegreesRow.laid W) :
    Calls Tryd.prog 9 args W fun e W' => ∃ v, e = .returned v ∧ Rows.fnDegreesSpec.post enc Tryd.prog Tryd.f9 false true false false W args v W' := by
  have hW' := hW
  obtain ⟨p, q, hA0, hV, rfl, hfz, hnd⟩ := hW
  have hA : DataW.TrodAll enc Tryd.prog W 0 (fun _ => true) true Tryd.f9.params.toList args.toList ds p := hA0
  rw [Tryd.params9] at hA hval
  obtain ⟨v0, vs0, d0, ds0, p0, q0, hargs, rfl, rfl, h0, r0⟩ := trodAll_cons hA
  obtain ⟨rfl, rfl, rfl⟩ := trodAll_nil r0
  obtain rfl : args = #[v0] := by cases args; simp_all
  obtain ⟨rfl, rfl⟩ := trodVars_none hV
  obtain ⟨a0, len0, cap0, rfl⟩ := okWide_slice Tryd.underlying22 (hval 0 22 v0 rfl rfl)
  have k0 := h0
  have lt0 : ∀ x ∈ p0, x.block < W.heap.size := by obtain ⟨m, hm⟩ := k0; exact DataW.trod_lt m _ _ _ hm
  have w0 : Bytes W a0 len0 cap0 := by
    obtain ⟨fuel, hf⟩ := h0
    rcases open_ints Tryd.underlying22 Tryd.underlying5 (by kernel_rfl) hf with ⟨hcs, _⟩ | ⟨x, l, c, zs, hcs, _, hl, hm, hz, _, hcell, hwz⟩
    · simp [Value.cells] at hcs
      obtain ⟨rfl, rfl, rfl⟩ := hcs
      exact ⟨by omega, by unfold maxLen; omega, .inl rfl⟩
    · simp [Value.cells] at hcs
      obtain ⟨rfl, rfl, rfl⟩ := hcs
      exact bytes_of_row hl hm (by simpa using hz) hcell hwz
  clear hA0
  simp only [List.append_nil] at hW'
  refine (fnDegrees_any a0 len0 cap0 W w0 (et_of_laid hL)).mono fun e W' ⟨he, hb⟩ => ?_
  subst he
  exact ⟨_, rfl, _, _, _, [], _, [], hW', trodAll_cons_mk (shut_bool Tryd.underlying4 _) trodAll_mk0, trodAll_cons_mk (Below.trod laidOut (by kernel_rfl) (of_decide_eq_true (by kernel_rfl)) k0 hb lt0) trodAll_mk0, rfl, hb.frame _, fun h => by cases h⟩

theorem reads (os : Os) {H : Type} (enc : TypeId × Value → H) : ∃ places, DataW.whole enc Tryd.prog ((laidWorld os).forCall (fun _ _ => 0) ⟨#[], #[.slice none 0 0], []⟩).memory Tryd.f9.params.toList Rows.fnDegreesSpec.vars false (#[.slice none 0 0] : Array Value).toList 8 = some ([.nil], [], places) :=
  ⟨[], by kernel_rfl⟩

set_option maxRecDepth 100000 in
theorem lifted (os : Os) (started : os.Started) (H : Type) (enc : TypeId × Value → H) (F : Stop.Interp) :
    ReturnsInHanded {} Tryd.checked os 9 .any ((OpenSpec.ofChange Rows.fnDegreesSpec).preRow enc Tryd.prog Tryd.f9 Rows.fnDegreesRow.domain false Rows.fnDegreesRow.laid) (((OpenSpec.ofChange Rows.fnDegreesSpec).at F).post enc Tryd.prog Tryd.f9 false true false false) := by
  obtain ⟨places, hx⟩ := reads os enc
  refine returnsInHanded_of_row (C := Tryd.checked) (s := OpenSpec.ofChange Rows.fnDegreesSpec) own started (by kernel_rfl) Tryd.func9
    (witness_row_at (enc := enc) (C := Tryd.checked) false (laidWorld os) #[.slice none 0 0] rfl (by kernel_rfl) (by kernel_rfl) (by kernel_rfl)
      (OpenSpec.preRow_of_cond 8 hx (by kernel_rfl) (fun k hk => by cases hk) (by kernel_rfl) (laidWorld_met os _))) ?_
  intro W base args ds gs before hval hW _ _ _ hL _ _
  exact contract H enc W base args ds gs before hval hW hL

theorem named : Tryd.prog.funcNamed "loop.example/toricfans/laws.FnDegrees" = some 9 := by kernel_rfl

theorem said : Rows.FnDegreesSaid :=
  OpenClaim.holds_of_cond 9 Tryd.f9 rfl rfl rfl rfl rfl rfl rfl ⟨rfl, rfl, rfl, rfl, rfl⟩ rfl rfl rfl rfl rfl named Tryd.func9 ((joinS _ _ _ _ _ may_enter lifts_final make_is).2.trans (by kernel_rfl))
    (of_decide_eq_true (by kernel_rfl)) (by unfold Func.isWrapper; first | (rw [if_pos (by decide +kernel)]; kernel_rfl) | (rw [if_neg (by decide +kernel)]; exact ⟨rfl, rfl⟩))
    (fun os started H enc _ F => by rw [OpenClaim.pre_eq_preRow]; exact lifted os started H enc F)

theorem plain (f : FuncId) (fn : Func) (hf : Tryd.pinned.checked.prog.funcNamed "loop.example/toricfans/laws.FnDegrees" = some f) (hfn : Tryd.pinned.checked.prog.funcs[f]? = some fn) :
    true = Tryd.pinned.checked.prog.looks [] ∧ ∀ (j : Nat) t, fn.params[j]? = some t → Tryd.pinned.checked.prog.wantsStandIn t = false := by
  obtain rfl : f = 9 := Option.some.inj (named.symm.trans hf) |>.symm
  obtain rfl : fn = Tryd.f9 := (Option.some.inj (Tryd.func9.symm.trans hfn)).symm
  refine ⟨by kernel_rfl, fun j t ht => ?_⟩
  rw [Tryd.params9] at ht
  have hm : t = 22 := by simpa using Array.mem_of_getElem? ht
  subst hm
  exact (show Tryd.prog.wantsStandIn 22 = false by kernel_rfl)

/-- THE CARD. -/
theorem card : Rows.FnDegreesCardSaid :=
  Claim7.holds_tied_plain_at .later [] _ _ _ _ said (fun _ h => by cases h) (by kernel_rfl) (fun _ h => by cases h) fnDegrees_row_tie rfl ⟨rfl, rfl⟩ main_is rfl plain (by kernel_rfl)
end Go.Proofs.YtohojjoediibhaaDoor.fnDegrees
