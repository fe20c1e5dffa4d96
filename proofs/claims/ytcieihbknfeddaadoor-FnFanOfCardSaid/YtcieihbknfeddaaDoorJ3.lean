import Derived.Test.YtcieihbknfeddaaDoorI7
import Derived.Test.YtcieihbknfeddaaDoorSo
import Derived.Test.YtcieihbknfeddaaDoorSh
import Derived.Test.YtcieihbknfeddaaDoorB9
import Derived.Test.YtcieihbknfeddaaDoorI8
/- slices.SortFunc at primitive vectors; the different ones of some vectors, in order. -/
namespace Go.Proofs.YtcieihbknfeddaaDoor
open Go.RowKit Go.Sort

def arrP (l : List V2) (hp : AllP l) : Array PV := (l.attach.map (fun v => (⟨v.1, hp v.1 v.2⟩ : PV))).toArray
theorem arr_size (l : List V2) (hp : AllP l) : (arrP l hp).size = l.length := by simp [arrP]
theorem arr_get (l : List V2) (hp : AllP l) {i : Nat} (h : i < l.length) : ((arrP l hp)[i]!).1 = cyc l i := by
  rw [cyc_lt h, getElem!_pos _ i (by rw [arr_size]; exact h), List.getElem?_eq_getElem h]
  simp [arrP]
theorem arr_list (l : List V2) (hp : AllP l) : (arrP l hp).toList.map (·.1) = l := by
  unfold arrP
  rw [List.map_map]
  exact List.attach_map_subtype_val l
theorem flat_enc (d : Array PV) {j : Nat} (h : j < d.size) : (flatK encP 2 d)[j * 2]! = .int .i64 (d[j]!).1.1 ∧ (flatK encP 2 d)[j * 2 + 1]! = .int .i64 (d[j]!).1.2 := by
  rw [get_flatK _ _ _ _ (by omega), get_flatK _ _ _ _ (by omega), show j * 2 / 2 = j by omega, show j * 2 % 2 = 0 by omega, show (j * 2 + 1) / 2 = j by omega, show (j * 2 + 1) % 2 = 1 by omega]
  exact ⟨rfl, rfl⟩
theorem holds_row {W : World} {g : Nat} {d : Array PV} (h : HoldsK encP 2 W g 0 d) : RowC W g (fun j => (d[j]!).1) d.size := by
  intro j hj
  obtain ⟨c1, f1⟩ := h (j * 2) (by rw [size_flatK]; omega)
  obtain ⟨c2, f2⟩ := h (j * 2 + 1) (by rw [size_flatK]; omega)
  rw [Nat.zero_add] at c1 f1 c2 f2
  rw [(flat_enc d hj).1] at c1
  rw [(flat_enc d hj).2] at c2
  exact ⟨⟨c1, c2⟩, f1, f2⟩
theorem row_holds {W : World} {g : Nat} {d : Array PV} (h : RowC W g (fun j => (d[j]!).1) d.size) : HoldsK encP 2 W g 0 d := by
  intro t ht
  rw [size_flatK] at ht
  obtain ⟨⟨c1, c2⟩, f1, f2⟩ := h (t / 2) (by omega)
  rw [Nat.zero_add]
  rcases Nat.mod_two_eq_zero_or_one t with e | e
  · have e2 : t = t / 2 * 2 := by omega
    rw [e2, (flat_enc d (by omega)).1]
    exact ⟨c1, f1⟩
  · have e2 : t = t / 2 * 2 + 1 := by omega
    rw [e2, (flat_enc d (by omega)).2]
    exact ⟨c2, f2⟩
theorem below_sort (w : World) (g n : Nat) (d : Array PV) (os : Array Obj) {B : Nat} (hB : B ≤ g) (hg : g < w.heap.size) : Below B w (sortWorldK encP 2 w g 0 n d os) := by
  unfold sortWorldK putRowK
  refine ⟨rfl, rfl, rfl, ?_, fun k hk => ?_⟩
  · rw [size_grow, size_putRow]
    exact Nat.le_add_right _ _
  · rw [heap_grow_old _ _ (by rw [size_putRow]; exact Nat.lt_of_lt_of_le hk (Nat.le_of_lt (Nat.lt_of_le_of_lt hB hg)))]
    show (w.heap.modify g _)[k]? = _
    rw [Array.getElem?_modify, if_neg (by omega)]
theorem sortFunc_any (g cap : Nat) (l : List V2) (w : World) (hR : RowC w g (cyc l) l.length) (hg : g < w.heap.size) (hp : AllP l) (hm : l.length ≤ 1048576) :
    Calls Tryd.prog 126 #[.slice (some ⟨g, 0, none⟩) l.length cap, .func (.func 127) #[] #[]] w fun e w' =>
      e = .returned (.tuple #[]) ∧ ∃ l', l'.Perm l ∧ Sorted l' ∧ RowC w' g (cyc l') l'.length ∧ ∀ B, B ≤ g → Below B w w' := by
  have eg : ∀ args w, (callFunc 127 args).run Tryd.prog w = .ok (.enter 127 args) w := enters_of Tryd.func127 (by kernel_rfl) rfl
  have hs := arr_size l hp
  have hH : HoldsK encP 2 w g 0 (arrP l hp) := row_holds (by
    rw [hs]
    exact hR.congr (Nat.le_refl _) (fun j hj => (arr_get l hp hj).symm))
  have hcon := AnyQ.slices_SortFunc Tryd.sortV 2 Tryd.isAgg26 Tryd.sizeOf26 encP (fun _ => rfl) (fun x v hv => by simp [encP] at hv; rcases hv with rfl | rfl <;> rfl) cfP swoP 127 #[] g 0 cap (arrP l hp) w eg (cmpLays g 0 _ w) hH hg (by omega)
  change Calls Tryd.prog 126 _ _ _ at hcon
  rw [hs] at hcon
  refine hcon.mono ?_
  rintro e w' ⟨rfl, d', n, os, hP, hS, rfl⟩
  obtain ⟨hsz, _, hperm⟩ := hP
  have e1 : d'.extract 0 l.length = d' := by rw [← hs, ← hsz]; exact Array.extract_size
  have e2 : (arrP l hp).extract 0 l.length = arrP l hp := by rw [← hs]; exact Array.extract_size
  rw [e1, e2] at hperm
  have hg' : ∀ i, i < d'.size → cyc (d'.toList.map (·.1)) i = (d'[i]!).1 := fun i hi => by
    rw [cyc_lt (by simpa using hi), getElem!_pos _ i hi]
    simp [hi]
  have hl' : (d'.toList.map (·.1)).length = d'.size := by simp
  refine ⟨rfl, d'.toList.map (·.1), ?_, fun i j hij hj => ?_, ?_, fun B hB => below_sort w g n d' os hB hg⟩
  · have := hperm.map (·.1)
    rwa [arr_list] at this
  · rw [hl'] at hj
    rw [hg' i (by omega), hg' j hj, ← lt_is]
    exact hS i j (Nat.zero_le _) hij (by omega)
  · rw [hl']
    exact (holds_row (holdsK_sortWorldK encP 2 w g 0 n (arrP l hp) d' os hg hH hsz)).congr (Nat.le_refl _) (fun j hj => (hg' j hj).symm)
end Go.Proofs.YtcieihbknfeddaaDoor

/- Fans of lists: the program. -/
namespace Go.Proofs.YtcieihbknfeddaaDoor
open Go.RowKit

theorem cloneVecs_any (v : Value) (l : List V2) (b : Nat) (w : World) (hV : Vecs w b v l) (hm : l.length ≤ 1048576) :
    Calls Tryd.prog 125 #[v] w (GivesVecs w l) := by
  have hV' := hV
  obtain ⟨hlen, h | ⟨g, cap, cur, rfl, hb, hh, hc, hcm, hcs, hct⟩⟩ := hV
  · obtain ⟨rfl, h0⟩ := h
    obtain rfl : l = [] := List.eq_nil_of_length_eq_zero h0
    have hcon := AnyE.slices_Clone_nil Tryd.cloneV 0 0 w
    change Calls Tryd.prog 125 _ _ _ at hcon
    refine hcon.mono ?_
    rintro e w' ⟨rfl, rfl⟩
    exact ⟨_, rfl, Vecs.nil _ _, Below.refl _ _⟩
  · obtain ⟨i0, hi, hz0, hz1, hz2⟩ := info_parts infoVec
    have hcon := AnyE.slices_Clone Tryd.cloneV i0 (.agg #[.int .i64 (0), .int .i64 (0)]) 2 16 hi hz0 hz1 hz2 rfl (by decide) Tryd.sizeOf26 g 0 l.length cap (intsV (flat l)) w hlen (by unfold maxLen; omega) (by omega) (fun j u hj => by
      have hj2 : j < l.length * 2 := by
        have := (List.getElem?_eq_some_iff.1 hj).1
        rwa [hlen] at this
      rw [Nat.zero_add, World.ownsRow.cellAt (show w.ownsRow b 26 2 (.slice (some ⟨g, 0, none⟩) l.length cap) l.length (intsV (flat l)) from hV') j hj2]
      exact hj) (fun u hu => by
        unfold intsV at hu
        obtain ⟨x, _, rfl⟩ := List.mem_map.1 hu
        rfl)
    change Calls Tryd.prog 125 _ _ _ at hcon
    refine hcon.mono ?_
    rintro e w' ⟨v', rfl, hown, _, hB⟩
    exact ⟨v', rfl, hown, hB⟩
theorem flat_cells {w : World} {bb off : Nat} {l : List V2} (hcs : ∀ j, j < l.length → w.cell? ⟨bb, off + j * 2, none⟩ = some (.int .i64 (cyc l j).1) ∧ w.cell? ⟨bb, off + j * 2 + 1, none⟩ = some (.int .i64 (cyc l j).2)) :
    ∀ j u, (intsV (flat l))[j]? = some u → w.cell? ⟨bb, off + j, none⟩ = some u := by
  intro j v hj
  have hfl := flat_len l
  have hl2 : (intsV (flat l)).length = l.length * 2 := by rw [intsV, List.length_map, hfl]; omega
  have hlt : j < l.length * 2 := by
    rcases Nat.lt_or_ge j (l.length * 2) with h | h
    · exact h
    · rw [List.getElem?_eq_none (by omega)] at hj
      cases hj
  rw [intsV_get _ j (by omega)] at hj
  obtain ⟨e1, e2⟩ := flat_get l (j / 2) (by omega)
  obtain ⟨c1, c2⟩ := hcs (j / 2) (by omega)
  rcases Nat.mod_two_eq_zero_or_one j with q | q
  · rw [show j / 2 * 2 = j by omega] at e1 c1
    rw [c1, ← hj, e1]
  · rw [show j / 2 * 2 + 1 = j by omega] at e2
    rw [show off + j / 2 * 2 + 1 = off + j by omega] at c2
    rw [c2, ← hj, e2]
/-- a list that is read, not empty -/
theorem cloneR_any (v : Value) (l : List V2) (w : World) (hl : ReadsVecs w v l) (h0 : 0 < l.length) (hm : l.length ≤ 1048576) :
    Calls Tryd.prog 125 #[v] w (GivesVecs w l) := by
  obtain ⟨a, c, rfl, hc, hmm, hcell⟩ := hl
  obtain ⟨bb, off, rfl, hb, hcs⟩ := hcell h0
  obtain ⟨i0, hi, hz0, hz1, hz2⟩ := info_parts infoVec
  have hlen : (intsV (flat l)).length = l.length * 2 := by
    rw [intsV, List.length_map, flat_len]
    omega
  have hcon := AnyE.slices_Clone Tryd.cloneV i0 (.agg #[.int .i64 (0), .int .i64 (0)]) 2 16 hi hz0 hz1 hz2 rfl (by decide) Tryd.sizeOf26 bb off l.length c (intsV (flat l)) w hlen (by unfold maxLen; omega) (by omega) (flat_cells hcs) (fun u hu => by
      unfold intsV at hu
      obtain ⟨x, _, rfl⟩ := List.mem_map.1 hu
      rfl)
  change Calls Tryd.prog 125 _ _ _ at hcon
  refine hcon.mono ?_
  rintro e w' ⟨v', rfl, hown, _, hB⟩
  exact ⟨v', rfl, hown, hB⟩
set_option maxHeartbeats 4000000 in
theorem compact_nil (a : Option Addr) (c : Nat) (w : World) :
    Calls Tryd.prog 128 #[.slice a 0 c] w fun e w' => e = .returned (.slice a 0 c) ∧ w' = w := by
  go_enter Tryd.func128, Tryd.ntmps128
  go_wp2
  go_returns
  exact ⟨rfl, rfl⟩
set_option maxHeartbeats 4000000 in
theorem sortedH_any (v : Value) (l : List V2) (w : World) (hC : Calls Tryd.prog 125 #[v] w (GivesVecs w l)) (hp : AllP l) (hm : l.length ≤ 1048576) :
    Calls Tryd.prog 92 #[v] w fun e w' => (∃ v', e = .returned v' ∧ ReadsVecs w' v' (sortL l)) ∧ Below w.heap.size w w' := by
  have HC := Lib.hid hC
  have HSF := Lib.hid (fun g c w' hR hg => sortFunc_any g c l w' hR hg hp hm)
  have HCO := Lib.hid (fun g c (l' : List V2) base w' hR hg hb h0 (hpm : l'.Perm l) hc hs => compact_any g c l' base w' hR hg hb h0 (by rw [hpm.length_eq]; exact hm) hc (fun v hv => hp v (hpm.mem_iff.1 hv)) hs)
  have HSP := Lib.hid (fun l' h => sort_perm (l' := l') hp h)
  clear hp hC
  by_cases h0 : l = []
  · subst h0
    clear HSF HCO HSP hm
    have HN := Lib.hid (fun p c fv w' => AnyF.slices_SortFunc_none Tryd.sortV p c fv w')
    have HN2 : Hid (∀ p c fv w', Calls Tryd.prog 126 #[.slice p 0 c, fv] w' fun e w2 => e = .returned (.tuple #[]) ∧ w2 = w') := HN.out
    clear HN
    go_enter Tryd.func92, Tryd.ntmps92
    go_wp2_with fail
    refine Calls.mono HC.out ?_
    rintro e w1 ⟨v1, rfl, hV1, hb1⟩
    rcases hV1.form with ⟨_, _, a, c, rfl⟩ | ⟨h, _⟩
    · go_wp2_with fail
      refine Calls.mono (HN2.out _ _ _ _) ?_
      rintro e w2 ⟨rfl, rfl⟩
      go_wp2_with fail
      refine Calls.mono (compact_nil _ _ _) ?_
      rintro e w3 ⟨rfl, rfl⟩
      go_wp2
      go_returns
      exact ⟨⟨_, rfl, a, c, rfl, Nat.zero_le _, Nat.zero_le _, fun h => absurd h (by simp [sortL])⟩, hb1⟩
    · simp at h
  · have hpos : 0 < l.length := List.length_pos_iff.2 h0
    go_enter Tryd.func92, Tryd.ntmps92
    go_wp2_with fail
    refine Calls.mono HC.out ?_
    rintro e w1 ⟨v1, rfl, hV1, hb1⟩
    rcases hV1.form with ⟨h, _⟩ | ⟨_, g, c, rfl, hg, hgl, hc⟩
    · omega
    · have HS1 := Lib.hid (HSF.out g c w1 hV1.rowC hgl)
      clear hV1 HSF HC
      go_wp2_with fail
      refine Calls.mono HS1.out ?_
      rintro e w2 ⟨rfl, l', hpm, hso, hR, hB⟩
      have hb2 := hb1.trans (hB _ hg)
      have hl := hpm.length_eq
      have HC2 := Lib.hid (HCO.out g c l' w.heap.size w2 hR (Nat.lt_of_lt_of_le hgl (hB _ hg).size) hg (by omega) hpm (by omega) hso)
      rw [hl, HSP.out l' hpm] at HC2
      clear HS1 HCO HSP hpm hso hR hB hl
      go_wp2_with fail
      refine Calls.mono HC2.out ?_
      rintro e w3 ⟨⟨v3, rfl, hr⟩, hb3⟩
      have HR := Lib.hid hr
      have hB3 := hb2.trans hb3
      clear hr hb3
      go_wp2
      go_returns
      exact ⟨⟨_, rfl, HR.out⟩, hB3⟩
theorem sorted_any (v : Value) (l : List V2) (b : Nat) (w : World) (hV : Vecs w b v l) (hp : AllP l) (hm : l.length ≤ 1048576) :
    Calls Tryd.prog 92 #[v] w fun e w' => (∃ v', e = .returned v' ∧ ReadsVecs w' v' (sortL l)) ∧ Below w.heap.size w w' :=
  sortedH_any v l w (cloneVecs_any v l b w hV hm) hp hm
theorem sortedR_any (v : Value) (l : List V2) (w : World) (hl : ReadsVecs w v l) (h0 : 0 < l.length) (hp : AllP l) (hm : l.length ≤ 1048576) :
    Calls Tryd.prog 92 #[v] w fun e w' => (∃ v', e = .returned v' ∧ ReadsVecs w' v' (sortL l)) ∧ Below w.heap.size w w' :=
  sortedH_any v l w (cloneR_any v l w hl h0 hm) hp hm
set_option maxHeartbeats 8000000 in
theorem fanOfH_any (v : Value) (l : List V2) (w : World) (hr : ReadsVecs w v l) (hS : ∀ w', Below w.heap.size w w' → AllP l → Calls Tryd.prog 92 #[v] w' fun e w'' => (∃ v', e = .returned v' ∧ ReadsVecs w'' v' (sortL l)) ∧ Below w'.heap.size w' w'') (hm : l.length ≤ 1048576) (hg : EtOk w) :
    Calls Tryd.prog 34 #[v] w (GivesVecsOk w (gV (ofB l) (sortL l)) (ofB l)) := by
  obtain ⟨a, c, rfl, _, _, hcell⟩ := hr
  have HCl := Lib.hid hcell
  have HG := Lib.hid hg
  have HS := Lib.hid (fun w' (hb : Below w.heap.size w w') (h : ∀ j, j < l.length → primV (cyc l j) = true) => hS w' hb (all_prim (all_of h)))
  have HF := Lib.hid (fun v' w' h' hg' => fanOf_any v' (sortL l) w' h' hg')
  have HSm := Lib.hid (fun (ns : List Node) h hn => fan_small (l := sortL l) (ns := ns) h hn)
  have HNo := Lib.hid (fun k (hk : k < l.length) h => of_not hk h)
  have HYe := Lib.hid (fun h => of_fan (l := l) h)
  have HTk := Lib.hid (fun k h hx => take_all (l := l) (k := k) h hx)
  obtain ⟨n, hn⟩ : ∃ n, n = l.length := ⟨_, rfl⟩
  have HN := Lib.hid hn
  rw [← hn] at hm HS
  rw [← hn]
  clear hcell hg hS hn
  go_enter Tryd.func34, Tryd.ntmps34
  go_wp2
  go_loopw [10] (fun s wr => ∃ k : Nat, s = .int .i64 k ∧ k ≤ n ∧ Hid (∀ j, j < k → primV (cyc l j) = true) ∧ Below w.heap.size w wr) (fun s _ => n - (intOf s).toNat)
  case atStart => exact ⟨0, rfl, Nat.zero_le _, fun j hj => by omega, Below.refl _ _⟩
  case round =>
    obtain ⟨k, rfl, hk, hA, hB⟩ := hrel
    have j1 : (0 : Int) ≤ (k : Int) := by omega
    have hs0 := hB.size
    by_cases hlt : k < n
    · have hkl : k < l.length := by have := HN.out; omega
      obtain ⟨bb, off, rfl, hbb, hcs⟩ := HCl.out (by omega)
      have c1 := (hB.cell (p := ⟨bb, off + k * 2, none⟩) hbb).trans (hcs k hkl).1
      have c2 := (hB.cell (p := ⟨bb, off + k * 2 + 1, none⟩) hbb).trans (hcs k hkl).2
      have hbl := Nat.lt_of_lt_of_le hbb hB.size
      have j2 : (k : Int) < (n : Int) := by omega
      have HNk := Lib.hid (HNo.out k hkl)
      have HTj := Lib.hid (HTk.out k hA.out)
      unfold primV at HNk HTj
      generalize cyc l k = z at c1 c2 HNk HTj
      obtain ⟨x, y⟩ := z
      dsimp only at c1 c2 HNk HTj
      clear hcs hkl HNo HTk
      cases hv : vecB x y
      · have HO : Hid (ofB l = false) := HNk.out (by simp [primB, hv])
        have HC := Lib.hid (fun w' => check_out x y w' hv)
        clear hv HNk HTj HS HF HSm HYe
        go_wp2_with fail
        refine Calls.mono (HC.out _) ?_
        rintro e w2 ⟨rfl, hb2⟩
        have hB2 : Below w.heap.size w w2 := belowTo (by go_grown) hb2
        have HNn := Lib.hid (none_hit ⟨#[118, 101, 99, 116, 111, 114]⟩ w2 (HG.out.below hB2))
        clear hb2 hB
        go_wp2_with fail
        refine Calls.mono HNn.out ?_
        rintro e w3 ⟨rfl, hb3⟩
        replace hB2 := belowTo hB2 hb3
        clear hb3
        go_wp2
        go_returns
        rw [HO.out]
        exact ⟨_, rfl, Vecs.nil _ _, hB2⟩
      · have HC := Lib.hid (fun w' => check_in x y w' hv)
        have HP := Lib.hid (fun w' => isPrimitive_any x y w' hv)
        go_wp2_with fail
        refine Calls.mono (HC.out _) ?_
        rintro e w2 ⟨rfl, hb2⟩
        have hB2 : Below w.heap.size w w2 := belowTo (by go_grown) hb2
        have q1 : w2.cell? ⟨wr.heap.size, 0, none⟩ = some (.int .i64 x) := (hb2.cell (p := ⟨wr.heap.size, 0, none⟩) (by simp)).trans (by simp)
        have q2 : w2.cell? ⟨wr.heap.size, 1, none⟩ = some (.int .i64 y) := (hb2.cell (p := ⟨wr.heap.size, 1, none⟩) (by simp)).trans (by simp)
        have q3 : wr.heap.size < w2.heap.size := Nat.lt_of_lt_of_le (by simp) hb2.size
        clear hb2
        go_wp2_with fail
        refine Calls.mono (none_nil _) ?_
        rintro e w3 ⟨rfl, hb3⟩
        replace hB2 := belowTo hB2 hb3
        replace q1 := (hb3.cell (p := ⟨wr.heap.size, 0, none⟩) q3).trans q1
        replace q2 := (hb3.cell (p := ⟨wr.heap.size, 1, none⟩) q3).trans q2
        replace q3 := Nat.lt_of_lt_of_le q3 hb3.size
        clear hb3
        go_wp2_with fail
        refine Calls.mono (HP.out _) ?_
        rintro e w4 ⟨rfl, hb4⟩
        replace hB2 := belowTo hB2 hb4
        clear hb4 q1 q2
        cases ho : oneB x y
        · have HO : Hid (ofB l = false) := HNk.out (by simp [primB, hv, ho])
          clear hv ho HNk HTj HS HF HSm HYe
          go_wp2
          go_returns
          rw [HO.out]
          exact ⟨_, rfl, Vecs.nil _ _, hB2⟩
        · have HA2 := Lib.hid (HTj.out (by simp [primB, hv, ho]))
          clear hv ho HNk HTj
          go_wp2
          go_roundw
          case rel => exact ⟨k + 1, by go_num, by omega, HA2, hB2⟩
          case measure => simp [intOf]; omega
    · obtain rfl : k = n := by omega
      have i2 : ¬ (k : Int) < (k : Int) := by omega
      have hall : ∀ j, j < l.length → primV (cyc l j) = true := fun j hj => hA.out j (by have := HN.out; omega)
      have HSo := Lib.hid (HS.out wr hB hA.out)
      have HYf := Lib.hid (HYe.out hall)
      clear hA hall HS HYe HNo HTk HCl
      go_wp2_with fail
      refine Calls.mono HSo.out ?_
      rintro e w2 ⟨⟨v2, rfl, hr2⟩, hb2⟩
      have hB2 := belowTo hB hb2
      have HFo := Lib.hid (HF.out v2 w2 hr2 (HG.out.below hB2))
      clear hb2 hr2 HSo HF
      cases hf : fanB (sortL l)
      · rw [hf] at HFo
        have HO : Hid (ofB l = false) := HYf.out.trans hf
        clear hf HSm
        go_wp2_with fail
        refine Calls.mono HFo.out ?_
        rintro e w3 ⟨⟨h, _⟩ | ⟨_, rfl⟩, hb3⟩
        · cases h
        · replace hB2 := belowTo hB2 hb3
          clear hb3
          go_wp2
          go_returns
          rw [HO.out]
          exact ⟨_, rfl, Vecs.nil _ _, hB2⟩
      · rw [hf] at HFo HSm
        have HO : Hid (ofB l = true) := HYf.out.trans hf
        clear hf
        go_wp2_with fail
        refine Calls.mono HFo.out ?_
        rintro e w3 ⟨⟨_, g, ns, rfl, hF, hn⟩ | ⟨h, _⟩, hb3⟩
        · obtain ⟨hs, _⟩ := HSm.out ns (by simp) hn
          have HR := Lib.hid (rays_any _ g ns w3 hF hs)
          have hB3 := belowTo hB2 hb3
          rw [hn] at HR
          clear hF hn hs hb3 HFo
          go_wp2_with fail
          refine Calls.mono HR.out ?_
          rintro e w4 ⟨v4, rfl, hV4, hb4⟩
          have HV4 := Lib.hid (hV4.lower hB3.size)
          have hB4 := belowTo hB3 hb4
          clear hV4 hb4
          go_wp2
          go_returns
          rw [HO.out]
          exact ⟨_, rfl, HV4.out, hB4⟩
        · cases h
theorem fanOfL_any (v : Value) (l : List V2) (b : Nat) (w : World) (hV : Vecs w b v l) (hm : l.length ≤ 1048576) (hg : EtOk w) :
    Calls Tryd.prog 34 #[v] w (GivesVecsOk w (gV (ofB l) (sortL l)) (ofB l)) :=
  fanOfH_any v l w (hV.reads (by omega)) (fun w' hb hp => sorted_any _ l b w' (hV.below hb) hp hm) hm hg
/-- a list that is read, not empty -/
theorem fanOfR_any (v : Value) (l : List V2) (w : World) (hl : ReadsVecs w v l) (h0 : 0 < l.length) (hm : l.length ≤ 1048576) (hg : EtOk w) :
    Calls Tryd.prog 34 #[v] w (GivesVecsOk w (gV (ofB l) (sortL l)) (ofB l)) :=
  fanOfH_any v l w hl (fun w' hb hp => sortedR_any _ l w' (hl.below hb) h0 hp hm) hm hg
end Go.Proofs.YtcieihbknfeddaaDoor
