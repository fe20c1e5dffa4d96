/- FnExactSectionArea: for every slice of vectors (and every further argument) the law returns true and leaves its arguments as they were. Conditions: the listed variable errors.errorType holds what the program's text lays (the card ties it). (The walk and the row, merged into one text.) -/
import Derived.Test.YtcieihbknfeddabGreatDoorJm
import Derived.Test.YtcieihbknfeddabGreatDoorJk
import Derived.Test.YtcieihbknfeddabGreatDoorQl
import Derived.Test.YtcieihbknfeddabGreatDoorRowW
import Derived.Test.YtcieihbknfeddabGreatDoorRf
namespace Go.Proofs.YtcieihbknfeddabGreatDoor
open Go.RowKit

set_option maxHeartbeats 16000000 in
theorem exactSectionArea_any (v : Value) (l : List V2) (u1 : Value) (d1 : List Int) (w : World) (h : ReadsVecs w v l) (h1 : ReadsInts w u1 d1) (hg : EtOk w)
    (hl : l.length ≤ 1048576) (k1 : d1.length ≤ 1048576) :
    Calls Tryz.prog 5 #[v, u1] w fun e w' => e = .returned (.bool true) ∧ Below w.heap.size w w' := by
  have h' := h
  obtain ⟨a, c, rfl, _, hm0, _⟩ := h'
  have h1' := h1
  obtain ⟨a1, c1, rfl, _, _⟩ := h1'
  have HZ := Lib.hid (fun w' => szVecS_any a l.length c w' (by omega))
  rw [if_pos hl] at HZ
  have HT := Lib.hid (fun w' h' => toVecS_any (.slice a l.length c) l w' h' hl)
  have HT1 := Lib.hid (fun w' h' => toIntS_any (.slice a1 d1.length c1) d1 w' h' k1)
  have HS := Lib.hid (fun v' w' h' u1' i1' => specSectionArea_any v' l u1' d1 w' h' i1')
  have HM := Lib.hid (fun v' w' h' u1' i1' hg' => sectionArea_any v' l u1' d1 w' h' i1' hg')
  have HX := Lib.hid (fun v1 v2 b1 b2 w' h1 h2 => eqVecS_same v1 v2 b1 b2 l w' h1 h2)
  have HX1 := Lib.hid (fun v1 v2 b1 b2 w' h1 h2 => eqIntS_same v1 v2 b1 b2 d1 w' h1 h2)
  have HR := Lib.hid (fun (w' : World) (b : Nat) (v' : Value) (h' : Vecs w' b v' l) => h'.reads (by omega))
  have HR1 := Lib.hid (fun (w' : World) (b : Nat) (v' : Value) (h' : Ints w' b v' d1) => h'.reads (by omega))
  have HH := Lib.hid h
  have HH0 := Lib.hid h
  have J1 := Lib.hid h1
  have J10 := Lib.hid h1
  have hz0 : ¬ 1048576 - (l.length : Int) < 0 := by omega
  have hy1 : (d1.length : Int) ≤ 1048576 := by omega
  generalize cornDB l d1 = K at HS HM
  generalize gate K (areaZ (cornL l d1)) = Q at HS HM
  clear h hl hm0 h1 k1
  generalize l.length = n at *
  generalize d1.length = m1 at *
  go_enter Tryz.func5, Tryz.ntmps5
  go_wp2_with fail
  refine Calls.mono (HZ.out _) ?_
  rintro e w0 ⟨rfl, rfl⟩
  have hA : Below w.heap.size w w := Below.refl _ _
  go_wp2_with fail
  refine Calls.mono (HT.out _ HH.out) ?_
  rintro e w1 ⟨va, rfl, Iva, hb1⟩
  replace HH := Lib.hid (HH.out.below hb1)
  replace J1 := Lib.hid (J1.out.below hb1)
  replace Iva := Lib.hid Iva
  replace hA := belowTo hA hb1
  clear hb1
  go_wp2_with fail
  refine Calls.mono (HT1.out _ J1.out) ?_
  rintro e w2 ⟨va1, rfl, Iva1, hb2⟩
  replace HH := Lib.hid (HH.out.below hb2)
  replace J1 := Lib.hid (J1.out.below hb2)
  replace Iva := Lib.hid (Iva.out.below hb2)
  replace Iva1 := Lib.hid Iva1
  replace hA := belowTo hA hb2
  clear hb2
  go_wp2_with fail
  refine Calls.mono (HS.out _ _ (HR.out _ _ _ Iva.out) _ (HR1.out _ _ _ Iva1.out)) ?_
  rintro e w3 ⟨rfl, hb3⟩
  replace HH := Lib.hid (HH.out.below hb3)
  replace J1 := Lib.hid (J1.out.below hb3)
  replace hA := belowTo hA hb3
  clear hb3 Iva Iva1
  go_wp2_with fail
  refine Calls.mono (HT.out _ HH.out) ?_
  rintro e w4 ⟨vx, rfl, Ivx, hb4⟩
  replace HH := Lib.hid (HH.out.below hb4)
  replace J1 := Lib.hid (J1.out.below hb4)
  replace Ivx := Lib.hid Ivx
  replace hA := belowTo hA hb4
  clear hb4
  go_wp2_with fail
  refine Calls.mono (HT1.out _ J1.out) ?_
  rintro e w5 ⟨vx1, rfl, Ivx1, hb5⟩
  replace HH := Lib.hid (HH.out.below hb5)
  replace J1 := Lib.hid (J1.out.below hb5)
  replace Ivx := Lib.hid (Ivx.out.below hb5)
  replace Ivx1 := Lib.hid Ivx1
  replace hA := belowTo hA hb5
  clear hb5
  go_wp2_with fail
  refine Calls.mono (HM.out _ _ (HR.out _ _ _ Ivx.out) _ (HR1.out _ _ _ Ivx1.out) (hg.below hA)) ?_
  rintro e w6 ⟨rfl, hb6⟩
  replace HH := Lib.hid (HH.out.below hb6)
  replace J1 := Lib.hid (J1.out.below hb6)
  replace Ivx := Lib.hid (Ivx.out.below hb6)
  replace Ivx1 := Lib.hid (Ivx1.out.below hb6)
  replace hA := belowTo hA hb6
  clear hb6
  go_wp2_with fail
  refine Calls.mono (HT.out _ HH.out) ?_
  rintro e w7 ⟨vy0, rfl, Iy0, hb7⟩
  replace HH := Lib.hid (HH.out.below hb7)
  replace J1 := Lib.hid (J1.out.below hb7)
  replace Ivx := Lib.hid (Ivx.out.below hb7)
  replace Ivx1 := Lib.hid (Ivx1.out.below hb7)
  replace Iy0 := Lib.hid Iy0
  replace hA := belowTo hA hb7
  clear hb7
  go_wp2_with fail
  refine Calls.mono (HX.out _ _ _ _ _ Ivx.out Iy0.out) ?_
  rintro e w8 ⟨rfl, hb8⟩
  replace HH := Lib.hid (HH.out.below hb8)
  replace J1 := Lib.hid (J1.out.below hb8)
  replace Ivx1 := Lib.hid (Ivx1.out.below hb8)
  replace hA := belowTo hA hb8
  clear hb8 Iy0 Ivx
  go_wp2_with fail
  refine Calls.mono (HT1.out _ J1.out) ?_
  rintro e w9 ⟨vy1, rfl, Iy1, hb9⟩
  replace HH := Lib.hid (HH.out.below hb9)
  replace J1 := Lib.hid (J1.out.below hb9)
  replace Ivx1 := Lib.hid (Ivx1.out.below hb9)
  replace Iy1 := Lib.hid Iy1
  replace hA := belowTo hA hb9
  clear hb9
  go_wp2_with fail
  refine Calls.mono (HX1.out _ _ _ _ _ Ivx1.out Iy1.out) ?_
  rintro e w10 ⟨rfl, hb10⟩
  replace HH := Lib.hid (HH.out.below hb10)
  replace J1 := Lib.hid (J1.out.below hb10)
  replace hA := belowTo hA hb10
  clear hb10 Iy1 Ivx1
  go_wp2
  go_returns
  exact ⟨rfl, hA⟩
set_option maxHeartbeats 4000000 in
theorem exactSectionArea_row (a : Option Addr) (len cap : Nat) (a1 : Option Addr) (len1 cap1 : Nat) (w : World) (h : VecRow w a len cap) (h1 : IntRow w a1 len1 cap1) (hg : EtOk w) :
    Calls Tryz.prog 5 #[.slice a len cap, .slice a1 len1 cap1] w fun e w' => e = .returned (.bool true) ∧ Below w.heap.size w w' := by
  by_cases g1 : len1 ≤ 1048576
  case neg =>
    have j1 : (1048576 : Int) < (len1 : Int) := by omega
    clear h hg h1
    go_enter Tryz.func5, Tryz.ntmps5
    go_wp2
    go_returns
    exact ⟨rfl, by go_grown⟩
  case pos =>
    by_cases hl : len ≤ 1048576
    · obtain ⟨l, rfl, hr⟩ := h.reads hl
      obtain ⟨d1, rfl, hr1⟩ := h1.reads g1
      exact exactSectionArea_any _ l _ d1 w hr hr1 hg hl g1
    · have HZ := Lib.hid (fun w' => szVecS_any a len cap w' h.le_max)
      rw [if_neg hl] at HZ
      have j1 : (len1 : Int) ≤ 1048576 := by omega
      clear h hg h1
      go_enter Tryz.func5, Tryz.ntmps5
      go_wp2_with fail
      refine Calls.mono (HZ.out _) ?_
      rintro e w1 ⟨rfl, rfl⟩
      go_wp2
      go_returns
      exact ⟨rfl, by go_grown⟩
end Go.Proofs.YtcieihbknfeddabGreatDoor
namespace Go.Proofs.YtcieihbknfeddabGreatDoor.fnExactSectionArea
open Go.ChangeShapes Go.WideShapes Go.ChangeAt Go.RowKit Go.Joins

set_option maxRecDepth 100000 in
theorem contract (H : Type) (enc : TypeId × Value → H) (W : World) (base : Nat) (args : Array Value) (ds gs : List (DataW H)) (before : List MemPlace)
    (hval : ∀ (j : Nat) t v, Tryz.f5.params[j]? = some t → args[j]? = some v → Value.okWide Tryz.prog W .any base t v)
    (hW : DataW.Whole enc Tryz.prog Tryz.f5.params.toList Rows.fnExactSectionAreaSpec.vars false W args.toList ds gs before) (hL : laidMetH Tryz.prog Rows.fnExactSectionAreaRow.laid W) :
    Calls Tryz.prog 5 args W fun e W' => ∃ v, e = .returned v ∧ Rows.fnExactSectionAreaSpec.post enc Tryz.prog Tryz.f5 false true false false W args v W' := by
  have hW' := hW
  obtain ⟨p, q, hA0, hV, rfl, hfz, hnd⟩ := hW
  have hA : DataW.TrodAll enc Tryz.prog W 0 (fun _ => true) true Tryz.f5.params.toList args.toList ds p := hA0
  rw [Tryz.params5] at hA hval
  obtain ⟨v0, vs0, d0, ds0, p0, q0, hargs, rfl, rfl, h0, r0⟩ := trodAll_cons hA
  obtain ⟨v1, vs1, d1, ds1, p1, q1, rfl, rfl, rfl, h1, r1⟩ := trodAll_cons r0
  obtain ⟨rfl, rfl, rfl⟩ := trodAll_nil r1
  obtain rfl : args = #[v0, v1] := by cases args; simp_all
  obtain ⟨rfl, rfl⟩ := trodVars_none hV
  obtain ⟨a0, len0, cap0, rfl⟩ := okWide_slice Tryz.underlying22 (hval 0 22 v0 rfl rfl)
  have k0 := h0
  have lt0 : ∀ x ∈ p0, x.block < W.heap.size := by obtain ⟨m, hm⟩ := k0; exact DataW.trod_lt m _ _ _ hm
  have k1 := h1
  have lt1 : ∀ x ∈ p1, x.block < W.heap.size := by obtain ⟨m, hm⟩ := k1; exact DataW.trod_lt m _ _ _ hm
  have w0 : VecRow W a0 len0 cap0 := by
    obtain ⟨fuel, hf⟩ := h0
    exact vecRow_open (by simpa [Value.cells] using hf)
  obtain ⟨a1, len1, cap1, rfl⟩ := okWide_slice Tryz.underlying23 (hval 1 23 v1 rfl rfl)
  have w1 : IntRow W a1 len1 cap1 := by
    obtain ⟨fuel, hf⟩ := h1
    exact intRow_open (by simpa [Value.cells] using hf)
  clear hA0
  refine (exactSectionArea_row a0 len0 cap0 a1 len1 cap1 W w0 w1 (et_of_laid hL)).mono fun e W' ⟨he, hb⟩ => ?_
  subst he
  exact ⟨_, rfl, _, _, _, [], _, [], hW', trodAll_cons_mk (shut_bool Tryz.underlying4 _) trodAll_mk0, (trodAll_cons_mk (Below.trod laidOut (by kernel_rfl) (of_decide_eq_true (by kernel_rfl)) k0 hb lt0) (trodAll_cons_mk (Below.trod laidOut (by kernel_rfl) (of_decide_eq_true (by kernel_rfl)) k1 hb lt1) trodAll_mk0)), rfl, hb.frame _, fun h => by cases h⟩

theorem reads (os : Os) {H : Type} (enc : TypeId × Value → H) : ∃ places, DataW.whole enc Tryz.prog ((laidWorld os).forCall (fun _ _ => 0) ⟨#[], #[.slice none 0 0, .slice none 0 0], []⟩).memory Tryz.f5.params.toList Rows.fnExactSectionAreaSpec.vars false (#[.slice none 0 0, .slice none 0 0] : Array Value).toList 8 = some ([.nil, .nil], [], places) :=
  ⟨[], by kernel_rfl⟩

set_option maxRecDepth 100000 in
theorem lifted (os : Os) (started : os.Started) (H : Type) (enc : TypeId × Value → H) (F : Stop.Interp) :
    ReturnsInHanded {} Tryz.checked os 5 .any ((OpenSpec.ofChange Rows.fnExactSectionAreaSpec).preRow enc Tryz.prog Tryz.f5 Rows.fnExactSectionAreaRow.domain false Rows.fnExactSectionAreaRow.laid) (((OpenSpec.ofChange Rows.fnExactSectionAreaSpec).at F).post enc Tryz.prog Tryz.f5 false true false false) := by
  obtain ⟨places, hx⟩ := reads os enc
  refine returnsInHanded_of_row (C := Tryz.checked) (s := OpenSpec.ofChange Rows.fnExactSectionAreaSpec) own started (by kernel_rfl) Tryz.func5
    (witness_row_at (enc := enc) (C := Tryz.checked) false (laidWorld os) #[.slice none 0 0, .slice none 0 0] rfl (by kernel_rfl) (by kernel_rfl) (by kernel_rfl)
      (OpenSpec.preRow_of_cond 8 hx (by kernel_rfl) (fun k hk => by cases hk) (by kernel_rfl) (laidWorld_met os _))) ?_
  intro W base args ds gs before hval hW _ _ _ hL _ _
  exact contract H enc W base args ds gs before hval hW hL

theorem named : Tryz.prog.funcNamed "loop.example/toricfans/laws.FnExactSectionArea" = some 5 := by kernel_rfl

theorem said : Rows.FnExactSectionAreaSaid :=
  OpenClaim.holds_of_cond 5 Tryz.f5 rfl rfl rfl rfl rfl rfl rfl ⟨rfl, rfl, rfl, rfl, rfl⟩ rfl rfl rfl rfl rfl named Tryz.func5 ((joinS _ _ _ _ _ may_enter lifts_final make_is).2.trans (by kernel_rfl))
    (of_decide_eq_true (by kernel_rfl)) (by unfold Func.isWrapper; first | (rw [if_pos (by decide +kernel)]; kernel_rfl) | (rw [if_neg (by decide +kernel)]; exact ⟨rfl, rfl⟩))
    (fun os started H enc _ F => by rw [OpenClaim.pre_eq_preRow]; exact lifted os started H enc F)

theorem plain (f : FuncId) (fn : Func) (hf : Tryz.pinned.checked.prog.funcNamed "loop.example/toricfans/laws.FnExactSectionArea" = some f) (hfn : Tryz.pinned.checked.prog.funcs[f]? = some fn) :
    true = Tryz.pinned.checked.prog.looks [] ∧ ∀ (j : Nat) t, fn.params[j]? = some t → Tryz.pinned.checked.prog.wantsStandIn t = false := by
  obtain rfl : f = 5 := Option.some.inj (named.symm.trans hf) |>.symm
  obtain rfl : fn = Tryz.f5 := (Option.some.inj (Tryz.func5.symm.trans hfn)).symm
  refine ⟨by kernel_rfl, fun j t ht => ?_⟩
  rw [Tryz.params5] at ht
  have hm : t = 22 ∨ t = 23 := by simpa using Array.mem_of_getElem? ht
  rcases hm with rfl | rfl
  · exact (show Tryz.prog.wantsStandIn 22 = false by kernel_rfl)
  · exact (show Tryz.prog.wantsStandIn 23 = false by kernel_rfl)

/-- THE CARD. -/
theorem card : Rows.FnExactSectionAreaCardSaid :=
  Claim7.holds_tied_plain_at .later [] _ _ _ _ said (fun _ h => by cases h) (by kernel_rfl) (fun _ h => by cases h) fnExactSectionArea_row_tie rfl ⟨rfl, rfl⟩ main_is rfl plain (by kernel_rfl)
end Go.Proofs.YtcieihbknfeddabGreatDoor.fnExactSectionArea
