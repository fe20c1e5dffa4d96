/- Resolutions: the model's side. -/
import Derived.Test.YtcieihbknfeddaaDoorMr
import Derived.Test.YtcieihbknfeddaaDoorBa
import Derived.Test.YtcieihbknfeddaaDoorBt
namespace Go.Proofs.YtcieihbknfeddaaDoor
open Go.RowKit

theorem Vecs.formR {w : World} {base : Nat} {v : Value} {L : List V2} (h : Vecs w base v L) (h0 : 0 < L.length) : ∃ go c, v = .slice (some ⟨go, 0, none⟩) L.length c ∧ base ≤ go ∧ go < w.heap.size ∧ L.length ≤ c := by
  rcases VRow.form h with ⟨h1, _⟩ | ⟨_, g, c, h1, h2, h3, h4⟩
  · omega
  · exact ⟨g, c, h1, h2, h3, h4⟩
theorem Vecs.cellsR {w : World} {base g c : Nat} {l : List V2} (h : Vecs w base (.slice (some ⟨g, 0, none⟩) l.length c) l) : ∀ j, j < l.length → w.cell? ⟨g, 0 + j * 2, none⟩ = some (.int .i64 (cyc l j).1) ∧ w.cell? ⟨g, 0 + j * 2 + 1, none⟩ = some (.int .i64 (cyc l j).2) := by
  intro j hj
  rw [Nat.zero_add]
  obtain ⟨e1, e2⟩ := flat_get l j hj
  rw [← e1, ← e2]
  exact ⟨VRow.cell h (j * 2) (by omega), VRow.cell h (j * 2 + 1) (by omega)⟩
/-- the cells of all vectors but the last one -/
theorem Vecs.headR {w : World} {base g c : Nat} {hd : List V2} {z : V2} (h : Vecs w base (.slice (some ⟨g, 0, none⟩) (hd ++ [z]).length c) (hd ++ [z])) :
    ∀ j u, (intsV (flat hd))[j]? = some u → w.cell? ((⟨g, 0, none⟩ : Addr).add j) = some u := by
  have h1 : 0 + hd.length ≤ (hd ++ [z]).length := by simp
  have h2 := piece_cells (bb := g) (off := 0) h.cellsR h1
  have h3 : ((hd ++ [z]).drop 0).take hd.length = hd := by simp
  rw [h3] at h2
  simpa using h2
theorem head_flat (hd : List V2) : (intsV (flat hd)).length = hd.length * 2 := by
  simp [intsV, flat_len]
  omega
set_option maxRecDepth 100000 in
set_option maxHeartbeats 16000000 in
theorem specFanResolve_in (v : Value) (l : List V2) (w : World) (hl : ReadsVecs w v l) (hf : fanB l = true) :
    Calls Tryd.prog 54 #[v] w (GivesVecsOk w (gV (fanB (resZ l)) (resZ l)) (fanB (resZ l))) := by
  obtain ⟨i0, hi, hz0, hz1, hz2⟩ := info_parts infoVec
  have h20 := fan_len hf
  have hC := fun i => fan_cone hf i
  obtain ⟨bb, off, c, rfl, hc, hmm, hbb, hcs⟩ := hl.open (by omega)
  have HFI := Lib.hid (fun w' (hb : Below w.heap.size w w') => specFanIn_any _ l w' (hl.below hb))
  have HF2 := Lib.hid (fun v' w' (h' : ReadsVecs w' v' (resZ l)) => specFanIn_any v' (resZ l) w' h')
  have HC3 := Lib.hid (fun k w' (hk : k < l.length) (hb : Below w.heap.size w w') => l3Cone_any _ l k w' (hl.below hb) hk)
  have HBa := Lib.hid (fun k w' => l2Base_any (cyc l k).1 (cyc l k).2 (cyc l (k + 1)).1 (cyc l (k + 1)).2 w' (hC k))
  have HSn := Lib.hid (fun k => resL_snoc l (List.range k) k)
  have HLn := Lib.hid (fun k => resL_len hC (List.range k))
  have HSp := Lib.hid (fun k => base_split (hC k))
  have HHl := Lib.hid (fun k => head_len (hC k))
  have hE := Lib.hid (fun w' => Vecs.empty w')
  have HZ : Hid (resZ l = resL l (List.range l.length)) := rfl
  rw [hf] at HFI
  obtain ⟨n, hn⟩ : ∃ n, n = l.length := ⟨_, rfl⟩
  rw [← hn] at HFI HZ h20 hc hmm HC3
  rw [← hn]
  clear hcs hl hf hn hC
  have HI0 : Hid (Vecs (w.alloc (.cells #[] 26)) w.heap.size (.slice (some ⟨w.heap.size, 0, none⟩) 0 0) (resL l (List.range 0))) := hE.out w
  go_enter Tryd.func54, Tryd.ntmps54
  go_wp2_with fail
  refine Calls.mono (HFI.out _ (by go_grown)) ?_
  rintro e1 w1 ⟨rfl, hb1⟩
  have hB : Below w.heap.size w w1 := belowTo (by go_grown) hb1
  have HI1 := Lib.hid (HI0.out.below hb1)
  clear hb1 HFI HI0
  go_wp2
  go_loopw [4, 5] (fun s4 s5 wr => ∃ k : Nat, k ≤ n ∧ s5 = .int .i64 k ∧ Hid (Vecs wr w.heap.size s4 (resL l (List.range k))) ∧ Below w.heap.size w wr) (fun _ s5 _ => n - (intOf s5).toNat)
  case atStart => exact ⟨0, Nat.zero_le _, rfl, HI1, hB⟩
  case round =>
    clear HI1
    obtain ⟨k, hk, rfl, HI, hB2⟩ := hrel
    have i1 : (0 : Int) ≤ (k : Int) := by omega
    by_cases hlt : k < n
    · have i2 : (k : Int) < (n : Int) := by omega
      have HCo := Lib.hid (HC3.out k wr hlt hB2)
      have HBk := Lib.hid (HBa.out k)
      have HX := Lib.hid (HSn.out k)
      rw [← List.range_succ] at HX
      have HSpk := Lib.hid (HSp.out k)
      have hhl := HHl.out k
      have hal := HLn.out k
      rw [List.length_range] at hal
      generalize resL l (List.range k) = acc at HI HX hal
      generalize cyc l k = z1 at *
      generalize cyc l (k + 1) = z2 at *
      obtain ⟨a, b⟩ := z1
      obtain ⟨c', d'⟩ := z2
      dsimp only at HCo HBk HX HSpk hhl
      generalize headL a b c' d' = hd at *
      generalize baseL a b c' d' = BL at *
      obtain rfl : BL = hd ++ [(c', d')] := HSpk.out
      clear HSpk HC3 HBa HSn HLn HSp HHl
      go_wp2_with fail
      refine Calls.mono HCo.out ?_
      rintro e1 w2 ⟨rfl, hb2⟩
      have hB3 := belowTo hB2 hb2
      have HI2 := Lib.hid (HI.out.below hb2)
      clear hb2 HCo HI
      go_wp2_with fail
      refine Calls.mono (HBk.out _) ?_
      rintro e2 w3 ⟨v3, rfl, hV3, hb3⟩
      have hB4 := belowTo hB3 hb3
      have hown := HI2.out.below hb3
      obtain ⟨gb, cb, rfl, hgb, hgl, hcb⟩ := hV3.formR (by simp)
      have HP := Lib.hid hV3.headR
      have HPl := Lib.hid (head_flat hd)
      have HPo := Lib.hid (piece_one (flat hd))
      clear hV3 hb3 HBk HI2
      unfold Vecs VRow at hown
      have HOw := Lib.hid hown
      simp only [List.length_append, List.length_cons, List.length_nil, Nat.zero_add] at hcb ⊢
      have j1 : IntKind.i64.wrap (((hd.length + 1 : Nat) : Int) - 1) = (hd.length : Int) := by rw [IntKind.wrap_i64]; omega
      have j2 : (0 : Int) ≤ (hd.length : Int) := by omega
      have j3 : hd.length ≤ cb := by omega
      have j4 : (hd.length : Int) ≤ (cb : Int) := by omega
      have j5 : (hd.length : Int).toNat = hd.length := by omega
      have hbs := hB4.size
      clear hown
      go_wp2_with (at_builtin; refine wpList_append_own_at _ rfl _ _ 39 rfl w.heap.size 26 i0 (.agg #[.int .i64 (0), .int .i64 (0)]) 2 16 Tryd.underlying39 hi hz0 hz1 hz2 rfl (by decide) _ _ _ rfl HOw.out _ _ _ _ rfl HPl.out HP.out HPo.out (by unfold maxLen; omega) (by omega) hbs ?_)
      intro v' w4 hown' hgrow _ _
      have hB5 := hB4.grown hgrow hbs (fun q hq => (World.ownsRow.lt HOw.out q hq).1)
      have HVv := Lib.hid (Vecs.join hown' rfl)
      rw [← HX.out] at HVv
      clear hown' hgrow HOw HP HPl HPo hB4 hal hhl j1 j2 j3 j4 j5 hcb
      go_wp2
      go_roundw
      case rel => exact ⟨k + 1, by omega, by go_num, HVv, hB5⟩
      case measure => simp [intOf]; omega
    · obtain rfl : k = n := by omega
      have i2 : ¬ (k : Int) < (k : Int) := by omega
      have hal := HLn.out k
      rw [List.length_range] at hal
      have hV := HI.out
      rw [← HZ.out] at hV hal
      have HF3 := Lib.hid (HF2.out _ wr (hV.reads (by omega)))
      have HV := Lib.hid hV
      clear hV hal HF2 HI HC3 HBa HSn HLn HSp HHl HZ
      generalize resZ l = R at *
      go_wp2_with fail
      refine Calls.mono HF3.out ?_
      rintro e3 w5 ⟨rfl, hb5⟩
      have hB6 := belowTo hB2 hb5
      have HV5 := Lib.hid (HV.out.below hb5)
      have HEm := Lib.hid ((hE.out w5).lower hB6.size)
      have hs5 := hB6.size
      clear hb5 HV HF3
      cases hR : fanB R
      · have HO : Hid (fanB R = false) := hR
        clear hR
        go_wp2
        go_returns
        rw [HO.out]
        exact ⟨_, rfl, HEm.out, by go_grown⟩
      · have HO : Hid (fanB R = true) := hR
        clear hR
        go_wp2
        go_returns
        rw [HO.out]
        exact ⟨_, rfl, HV5.out, hB6⟩
set_option maxHeartbeats 4000000 in
theorem specFanResolve_any (v : Value) (l : List V2) (w : World) (hl : ReadsVecs w v l) :
    Calls Tryd.prog 54 #[v] w (GivesVecsOk w (gV (resB l) (resZ l)) (resB l)) := by
  cases hf : fanB l
  · have e0 : resB l = false := by simp [resB, hf]
    have HFI := Lib.hid (fun w' (hb : Below w.heap.size w w') => specFanIn_any v l w' (hl.below hb))
    have HI0 : Hid (Vecs (w.alloc (.cells #[] 26)) w.heap.size (.slice (some ⟨w.heap.size, 0, none⟩) 0 0) []) := Vecs.empty w
    rw [e0]
    rw [hf] at HFI
    clear hf hl
    go_enter Tryd.func54, Tryd.ntmps54
    go_wp2_with fail
    refine Calls.mono (HFI.out _ (by go_grown)) ?_
    rintro e1 w1 ⟨rfl, hb1⟩
    have hB : Below w.heap.size w w1 := belowTo (by go_grown) hb1
    have HI1 := Lib.hid (HI0.out.below hb1)
    clear hb1
    go_wp2
    go_returns
    exact ⟨_, rfl, HI1.out, hB⟩
  · have e0 : resB l = fanB (resZ l) := by simp [resB, hf]
    rw [e0]
    exact specFanResolve_in v l w hl hf
end Go.Proofs.YtcieihbknfeddaaDoor
