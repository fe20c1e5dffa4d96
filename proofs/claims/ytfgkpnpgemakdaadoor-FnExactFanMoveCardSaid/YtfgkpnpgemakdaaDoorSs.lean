/- Fans of lists: the program. -/
import Derived.Test.YtfgkpnpgemakdaaDoorSr
import Derived.Test.YtfgkpnpgemakdaaDoorGy
namespace Go.Proofs.YtfgkpnpgemakdaaDoor
open Go.RowKit

theorem sort_perm {l l' : List V2} (hp : AllP l) (h : l'.Perm l) : sortL l' = sortL l :=
  sort_is hp (strict_sort (fun v hv => hp v (h.mem_iff.1 hv))) (fun _ => mem_sort.trans h.mem_iff)
theorem cloneVecs_any (v : Value) (l : List V2) (b : Nat) (w : World) (hV : Vecs w b v l) (hm : l.length ≤ 1048576) :
    Calls Tryd.prog 48 #[v] w (GivesVecs w l) := by
  have hV' := hV
  obtain ⟨hlen, h | ⟨g, cap, cur, rfl, hb, hh, hc, hcm, hcs, hct⟩⟩ := hV
  · obtain ⟨rfl, h0⟩ := h
    obtain rfl : l = [] := List.eq_nil_of_length_eq_zero h0
    have hcon := AnyE.slices_Clone_nil Tryd.cloneV 0 0 w
    change Calls Tryd.prog 48 _ _ _ at hcon
    refine hcon.mono ?_
    rintro e w' ⟨rfl, rfl⟩
    exact ⟨_, rfl, Vecs.nil _ _, Below.refl _ _⟩
  · obtain ⟨i0, hi, hz0, hz1, hz2⟩ := info_parts infoVec
    have hcon := AnyE.slices_Clone Tryd.cloneV i0 (.agg #[.int .i64 (0), .int .i64 (0)]) 2 16 hi hz0 hz1 hz2 rfl (by decide) Tryd.sizeOf39 g 0 l.length cap (intsV (flat l)) w hlen (by unfold maxLen; omega) (by omega) (fun j u hj => by
      have hj2 : j < l.length * 2 := by
        have := (List.getElem?_eq_some_iff.1 hj).1
        rwa [hlen] at this
      rw [Nat.zero_add, World.ownsRow.cellAt (show w.ownsRow b 39 2 (.slice (some ⟨g, 0, none⟩) l.length cap) l.length (intsV (flat l)) from hV') j hj2]
      exact hj) (fun u hu => by
        unfold intsV at hu
        obtain ⟨x, _, rfl⟩ := List.mem_map.1 hu
        rfl)
    change Calls Tryd.prog 48 _ _ _ at hcon
    refine hcon.mono ?_
    rintro e w' ⟨v', rfl, hown, _, hB⟩
    exact ⟨v', rfl, hown, hB⟩
theorem Vecs.rowC {w : World} {b g c : Nat} {l : List V2} (h : Vecs w b (.slice (some ⟨g, 0, none⟩) l.length c) l) : RowC w g (cyc l) l.length := by
  intro j hj
  obtain ⟨e1, e2⟩ := flat_get l j hj
  have h' : w.ownsRow b 39 2 (.slice (some ⟨g, 0, none⟩) l.length c) l.length (intsV (flat l)) := h
  rw [← e1, ← e2]
  exact ⟨⟨VRow.cell h (j * 2) (by omega), VRow.cell h (j * 2 + 1) (by omega)⟩, World.ownsRow.frozenAt h' (j * 2), World.ownsRow.frozenAt h' (j * 2 + 1)⟩
set_option maxHeartbeats 4000000 in
theorem compact_nil (a : Option Addr) (c : Nat) (w : World) :
    Calls Tryd.prog 52 #[.slice a 0 c] w fun e w' => e = .returned (.slice a 0 c) ∧ w' = w := by
  go_enter Tryd.func52, Tryd.ntmps52
  go_wp2
  go_returns
  exact ⟨rfl, rfl⟩
set_option maxHeartbeats 4000000 in
theorem sorted_any (v : Value) (l : List V2) (b : Nat) (w : World) (hV : Vecs w b v l) (hp : AllP l) (hm : l.length ≤ 1048576) :
    Calls Tryd.prog 26 #[v] w fun e w' => (∃ v', e = .returned v' ∧ ReadsVecs w' v' (sortL l)) ∧ Below w.heap.size w w' := by
  have HC := Lib.hid (cloneVecs_any v l b w hV hm)
  have HSF := Lib.hid (fun g c w' hR hg => sortFunc_any g c l w' hR hg hp hm)
  have HCO := Lib.hid (fun g c (l' : List V2) base w' hR hg hb h0 (hpm : l'.Perm l) hc hs => compact_any g c l' base w' hR hg hb h0 (by rw [hpm.length_eq]; exact hm) hc (fun v hv => hp v (hpm.mem_iff.1 hv)) hs)
  have HSP := Lib.hid (fun l' h => sort_perm (l' := l') hp h)
  clear hp hV
  by_cases h0 : l = []
  · subst h0
    clear HSF HCO HSP hm
    have HN := Lib.hid (fun p c fv w' => AnyF.slices_SortFunc_none Tryd.sortV p c fv w')
    have HN2 : Hid (∀ p c fv w', Calls Tryd.prog 49 #[.slice p 0 c, fv] w' fun e w2 => e = .returned (.tuple #[]) ∧ w2 = w') := HN.out
    clear HN
    go_enter Tryd.func26, Tryd.ntmps26
    go_wp2_with fail
    refine Calls.mono HC.out ?_
    rintro e w1 ⟨v1, rfl, hV1, hb1⟩
    rcases hV1.form with ⟨_, _, a, c, rfl⟩ | ⟨h, _⟩
    · go_wp2_with fail
      refine Calls.mono (HN2.out _ _ _ _) ?_
      rintro e w2 ⟨rfl, rfl⟩
      go_wp2_with fail
      refine Calls.mono (compact_nil _ _ _) ?_
      rintro e w3 ⟨rfl, rfl⟩
      go_wp2
      go_returns
      exact ⟨⟨_, rfl, a, c, rfl, Nat.zero_le _, Nat.zero_le _, fun h => absurd h (by simp [sortL])⟩, hb1⟩
    · simp at h
  · have hpos : 0 < l.length := List.length_pos_iff.2 h0
    go_enter Tryd.func26, Tryd.ntmps26
    go_wp2_with fail
    refine Calls.mono HC.out ?_
    rintro e w1 ⟨v1, rfl, hV1, hb1⟩
    rcases hV1.form with ⟨h, _⟩ | ⟨_, g, c, rfl, hg, hgl, hc⟩
    · omega
    · have HS1 := Lib.hid (HSF.out g c w1 hV1.rowC hgl)
      clear hV1 HSF HC
      go_wp2_with fail
      refine Calls.mono HS1.out ?_
      rintro e w2 ⟨rfl, l', hpm, hso, hR, hB⟩
      have hb2 := hb1.trans (hB _ hg)
      have hl := hpm.length_eq
      have HC2 := Lib.hid (HCO.out g c l' w.heap.size w2 hR (Nat.lt_of_lt_of_le hgl (hB _ hg).size) hg (by omega) hpm (by omega) hso)
      rw [hl, HSP.out l' hpm] at HC2
      clear HS1 HCO HSP hpm hso hR hB hl
      go_wp2_with fail
      refine Calls.mono HC2.out ?_
      rintro e w3 ⟨⟨v3, rfl, hr⟩, hb3⟩
      have HR := Lib.hid hr
      have hB3 := hb2.trans hb3
      clear hr hb3
      go_wp2
      go_returns
      exact ⟨⟨_, rfl, HR.out⟩, hB3⟩
def primV (v : V2) : Bool := primB v.1 v.2
def ofB (l : List V2) : Bool := l.all primV && fanB (sortL l)
theorem all_prim {l : List V2} (h : l.all primV = true) : AllP l := fun v hv => List.all_eq_true.1 h v hv
theorem take_all {l : List V2} {k : Nat} (h : ∀ j, j < k → primV (cyc l j) = true) (hx : primV (cyc l k) = true) : ∀ j, j < k + 1 → primV (cyc l j) = true := fun j hj => by
  by_cases e : j = k
  · rw [e]; exact hx
  · exact h j (by omega)
theorem all_of {l : List V2} (h : ∀ j, j < l.length → primV (cyc l j) = true) : l.all primV = true := by
  rw [List.all_eq_true]
  intro v hv
  obtain ⟨i, hi, rfl⟩ := List.mem_iff_getElem.1 hv
  have := h i hi
  rwa [cyc_lt hi, List.getElem?_eq_getElem hi] at this
theorem of_not {l : List V2} {k : Nat} (hk : k < l.length) (h : primV (cyc l k) = false) : ofB l = false := by
  unfold ofB
  have : l.all primV = false := List.all_eq_false.2 ⟨cyc l k, cyc_mem (by omega) k, by simp [h]⟩
  rw [this]
  rfl
theorem of_fan {l : List V2} (h : ∀ j, j < l.length → primV (cyc l j) = true) : ofB l = fanB (sortL l) := by
  unfold ofB
  rw [all_of h]
  rfl
set_option maxHeartbeats 8000000 in
theorem fanOfL_any (v : Value) (l : List V2) (b : Nat) (w : World) (hV : Vecs w b v l) (hm : l.length ≤ 1048576) (hg : EtOk w) :
    Calls Tryd.prog 9 #[v] w (GivesVecsOk w (gV (ofB l) (sortL l)) (ofB l)) := by
  have hr := hV.reads (by omega)
  obtain ⟨a, c, rfl, _, _, hcell⟩ := hr
  have HCl := Lib.hid hcell
  have HG := Lib.hid hg
  have HS := Lib.hid (fun w' (hb : Below w.heap.size w w') (h : ∀ j, j < l.length → primV (cyc l j) = true) => sorted_any _ l b w' (hV.below hb) (all_prim (all_of h)) hm)
  have HF := Lib.hid (fun v' w' h' hg' => fanOf_any v' (sortL l) w' h' hg')
  have HSm := Lib.hid (fun (ns : List Node) h hn => fan_small (l := sortL l) (ns := ns) h hn)
  have HNo := Lib.hid (fun k (hk : k < l.length) h => of_not hk h)
  have HYe := Lib.hid (fun h => of_fan (l := l) h)
  have HTk := Lib.hid (fun k h hx => take_all (l := l) (k := k) h hx)
  obtain ⟨n, hn⟩ : ∃ n, n = l.length := ⟨_, rfl⟩
  have HN := Lib.hid hn
  rw [← hn] at hm HS
  rw [← hn]
  clear hcell hg hV hn
  go_enter Tryd.func9, Tryd.ntmps9
  go_wp2
  go_loopw [10] (fun s wr => ∃ k : Nat, s = .int .i64 k ∧ k ≤ n ∧ Hid (∀ j, j < k → primV (cyc l j) = true) ∧ Below w.heap.size w wr) (fun s _ => n - (intOf s).toNat)
  case atStart => exact ⟨0, rfl, Nat.zero_le _, fun j hj => by omega, Below.refl _ _⟩
  case round =>
    obtain ⟨k, rfl, hk, hA, hB⟩ := hrel
    have j1 : (0 : Int) ≤ (k : Int) := by omega
    have hs0 := hB.size
    by_cases hlt : k < n
    · have hkl : k < l.length := by have := HN.out; omega
      obtain ⟨bb, off, rfl, hbb, hcs⟩ := HCl.out (by omega)
      have c1 := (hB.cell (p := ⟨bb, off + k * 2, none⟩) hbb).trans (hcs k hkl).1
      have c2 := (hB.cell (p := ⟨bb, off + k * 2 + 1, none⟩) hbb).trans (hcs k hkl).2
      have hbl := Nat.lt_of_lt_of_le hbb hB.size
      have j2 : (k : Int) < (n : Int) := by omega
      have HNk := Lib.hid (HNo.out k hkl)
      have HTj := Lib.hid (HTk.out k hA.out)
      unfold primV at HNk HTj
      generalize cyc l k = z at c1 c2 HNk HTj
      obtain ⟨x, y⟩ := z
      dsimp only at c1 c2 HNk HTj
      clear hcs hkl HNo HTk
      cases hv : vecB x y
      · have HO : Hid (ofB l = false) := HNk.out (by simp [primB, hv])
        have HC := Lib.hid (fun w' => check_out x y w' hv)
        clear hv HNk HTj HS HF HSm HYe
        go_wp2_with fail
        refine Calls.mono (HC.out _) ?_
        rintro e w2 ⟨rfl, hb2⟩
        have hB2 : Below w.heap.size w w2 := belowTo (by go_grown) hb2
        have HNn := Lib.hid (none_hit ⟨#[118, 101, 99, 116, 111, 114]⟩ w2 (HG.out.below hB2))
        clear hb2 hB
        go_wp2_with fail
        refine Calls.mono HNn.out ?_
        rintro e w3 ⟨rfl, hb3⟩
        replace hB2 := belowTo hB2 hb3
        clear hb3
        go_wp2
        go_returns
        rw [HO.out]
        exact ⟨_, rfl, Vecs.nil _ _, hB2⟩
      · have HC := Lib.hid (fun w' => check_in x y w' hv)
        have HP := Lib.hid (fun w' => isPrimitive_any x y w' hv)
        go_wp2_with fail
        refine Calls.mono (HC.out _) ?_
        rintro e w2 ⟨rfl, hb2⟩
        have hB2 : Below w.heap.size w w2 := belowTo (by go_grown) hb2
        have q1 : w2.cell? ⟨wr.heap.size, 0, none⟩ = some (.int .i64 x) := (hb2.cell (p := ⟨wr.heap.size, 0, none⟩) (by simp)).trans (by simp)
        have q2 : w2.cell? ⟨wr.heap.size, 1, none⟩ = some (.int .i64 y) := (hb2.cell (p := ⟨wr.heap.size, 1, none⟩) (by simp)).trans (by simp)
        have q3 : wr.heap.size < w2.heap.size := Nat.lt_of_lt_of_le (by simp) hb2.size
        clear hb2
        go_wp2_with fail
        refine Calls.mono (none_nil _) ?_
        rintro e w3 ⟨rfl, hb3⟩
        replace hB2 := belowTo hB2 hb3
        replace q1 := (hb3.cell (p := ⟨wr.heap.size, 0, none⟩) q3).trans q1
        replace q2 := (hb3.cell (p := ⟨wr.heap.size, 1, none⟩) q3).trans q2
        replace q3 := Nat.lt_of_lt_of_le q3 hb3.size
        clear hb3
        go_wp2_with fail
        refine Calls.mono (HP.out _) ?_
        rintro e w4 ⟨rfl, hb4⟩
        replace hB2 := belowTo hB2 hb4
        clear hb4 q1 q2
        cases ho : oneB x y
        · have HO : Hid (ofB l = false) := HNk.out (by simp [primB, hv, ho])
          clear hv ho HNk HTj HS HF HSm HYe
          go_wp2
          go_returns
          rw [HO.out]
          exact ⟨_, rfl, Vecs.nil _ _, hB2⟩
        · have HA2 := Lib.hid (HTj.out (by simp [primB, hv, ho]))
          clear hv ho HNk HTj
          go_wp2
          go_roundw
          case rel => exact ⟨k + 1, by go_num, by omega, HA2, hB2⟩
          case measure => simp [intOf]; omega
    · obtain rfl : k = n := by omega
      have i2 : ¬ (k : Int) < (k : Int) := by omega
      have hall : ∀ j, j < l.length → primV (cyc l j) = true := fun j hj => hA.out j (by have := HN.out; omega)
      have HSo := Lib.hid (HS.out wr hB hA.out)
      have HYf := Lib.hid (HYe.out hall)
      clear hA hall HS HYe HNo HTk HCl
      go_wp2_with fail
      refine Calls.mono HSo.out ?_
      rintro e w2 ⟨⟨v2, rfl, hr2⟩, hb2⟩
      have hB2 := belowTo hB hb2
      have HFo := Lib.hid (HF.out v2 w2 hr2 (HG.out.below hB2))
      clear hb2 hr2 HSo HF
      cases hf : fanB (sortL l)
      · rw [hf] at HFo
        have HO : Hid (ofB l = false) := HYf.out.trans hf
        clear hf HSm
        go_wp2_with fail
        refine Calls.mono HFo.out ?_
        rintro e w3 ⟨⟨h, _⟩ | ⟨_, rfl⟩, hb3⟩
        · cases h
        · replace hB2 := belowTo hB2 hb3
          clear hb3
          go_wp2
          go_returns
          rw [HO.out]
          exact ⟨_, rfl, Vecs.nil _ _, hB2⟩
      · rw [hf] at HFo HSm
        have HO : Hid (ofB l = true) := HYf.out.trans hf
        clear hf
        go_wp2_with fail
        refine Calls.mono HFo.out ?_
        rintro e w3 ⟨⟨_, g, ns, rfl, hF, hn⟩ | ⟨h, _⟩, hb3⟩
        · obtain ⟨hs, _⟩ := HSm.out ns (by simp) hn
          have HR := Lib.hid (rays_any _ g ns w3 hF hs)
          have hB3 := belowTo hB2 hb3
          rw [hn] at HR
          clear hF hn hs hb3 HFo
          go_wp2_with fail
          refine Calls.mono HR.out ?_
          rintro e w4 ⟨v4, rfl, hV4, hb4⟩
          have HV4 := Lib.hid (hV4.lower hB3.size)
          have hB4 := belowTo hB3 hb4
          clear hV4 hb4
          go_wp2
          go_returns
          rw [HO.out]
          exact ⟨_, rfl, HV4.out, hB4⟩
        · cases h
end Go.Proofs.YtfgkpnpgemakdaaDoor
