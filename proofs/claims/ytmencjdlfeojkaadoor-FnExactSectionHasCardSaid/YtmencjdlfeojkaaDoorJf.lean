/- Sections: boxes, sections: both exported functions. -/
import Derived.Test.YtmencjdlfeojkaaDoorJd
import Derived.Test.YtmencjdlfeojkaaDoorJe
import Derived.Test.YtmencjdlfeojkaaDoorQg
namespace Go.Proofs.YtmencjdlfeojkaaDoor
open Go.RowKit

set_option maxHeartbeats 8000000 in
theorem sectionBox_any (v : Value) (l : List V2) (u : Value) (d : List Int) (w : World) (hl : ReadsVecs w v l) (hd : ReadsInts w u d) (hg : EtOk w) :
    Calls Tryd.prog 12 #[v, u] w fun e w' => e = .returned (.tuple #[.int .i64 (gate (divB l d) (-bndZ l d (1, 0))), .int .i64 (gate (divB l d) (bndZ l d (-1, 0))), .int .i64 (gate (divB l d) (-bndZ l d (0, 1))), .int .i64 (gate (divB l d) (bndZ l d (0, -1))), .bool (divB l d)]) ∧ Below w.heap.size w w' := by
  have HO := Lib.hid (divisorOf_any v u l d w hl hd hg)
  have HX := Lib.hid (fun base g (ns : List Node) w' (hF : FanAt w' base g ns) (hn : rays ns = l) (hb : Below w.heap.size w w') (hk : divB l d = true) => by
    have h := box_any base g ns u d w' hF (by rw [hn]; exact (smooth_in (div_in hk).1).1) (hd.below hb) (by rw [← rays_len, hn]; exact (div_in hk).2.1) (div_bnd hk)
    rw [hn] at h
    exact h)
  obtain ⟨a, c, rfl, _⟩ := hd.len
  clear hl hd
  generalize -bndZ l d (1, 0) = B1 at *
  generalize -bndZ l d (0, 1) = B2 at *
  generalize bndZ l d (-1, 0) = B3 at *
  generalize bndZ l d (0, -1) = B4 at *
  cases hk : divB l d
  · rw [hk] at HO
    clear HX hk
    go_enter Tryd.func12, Tryd.ntmps12
    go_wp2_with fail
    refine Calls.mono HO.out ?_
    rintro e w1 ⟨⟨h, _⟩ | ⟨_, rfl⟩, hb1⟩
    · cases h
    have hs1 := hb1.size
    go_wp2
    go_returns
    exact ⟨rfl, by go_grown⟩
  · rw [hk] at HO
    have HX2 := Lib.hid (fun base g ns w' hF hn hb => HX.out base g ns w' hF hn hb hk)
    clear HX hk
    go_enter Tryd.func12, Tryd.ntmps12
    go_wp2_with fail
    refine Calls.mono HO.out ?_
    rintro e w1 ⟨⟨_, g, ns, rfl, hF, hn⟩ | ⟨h, _⟩, hb1⟩
    case inr => cases h
    have HX3 := Lib.hid (fun w2 (h : Below w1.heap.size w1 w2) => HX2.out w.heap.size g ns w2 (hF.below h) hn (belowTo hb1 h))
    have hs1 := hb1.size
    clear hF hn HX2
    go_wp2_with fail
    refine Calls.mono (HX3.out _ (by go_grown)) ?_
    rintro e w2 ⟨rfl, hb2⟩
    have hB : Below w.heap.size w w2 := belowTo (by go_grown) hb2
    have hs2 := hB.size
    clear hb2 HX3
    go_wp2_with fail
    go_quiet (fail)
    go_wp2
    go_returns
    exact ⟨rfl, below_drewN (by go_grown) _⟩
set_option maxHeartbeats 8000000 in
theorem sectionHas_any (v : Value) (l : List V2) (u : Value) (d : List Int) (x0 y0 : Int) (w : World) (hl : ReadsVecs w v l) (hd : ReadsInts w u d) (hg : EtOk w) :
    Calls Tryd.prog 17 #[v, u, .agg #[.int .i64 (x0), .int .i64 (y0)]] w fun e w' => e = .returned (.bool (divB l d && (vecB x0 y0 && hasZ l d (x0, y0)))) ∧ Below w.heap.size w w' := by
  have HO := Lib.hid (fun w' (hb : Below w.heap.size w w') => divisorOf_any v u l d w' (hl.below hb) (hd.below hb) (hg.below hb))
  have HX := Lib.hid (fun base g (ns : List Node) w' (hF : FanAt w' base g ns) (hn : rays ns = l) (hb : Below w.heap.size w w') (hk : divB l d = true) (ha : vecB x0 y0 = true) => by
    have h3 := div_len hk
    have h5 : ns.length = l.length := by rw [← hn, rays_len]
    have h := has_any' base g ns u d x0 y0 w' hF (by omega) (by rw [hn]; exact (div_smooth hk).1) (hd.below hb) (by rw [h5]; exact (div_in hk).2.1) (bnd_mono (div_bnd hk) (by omega)) ha
    rw [hn] at h
    exact h)
  have HG := Lib.hid hg
  obtain ⟨a, c, rfl, _⟩ := hd.len
  clear hl hd hg
  cases hk : divB l d
  · rw [hk] at HO
    clear HX hk
    go_enter Tryd.func17, Tryd.ntmps17
    go_wp2_with fail
    refine Calls.mono (HO.out _ (by go_grown)) ?_
    rintro e w1 ⟨⟨h, _⟩ | ⟨_, rfl⟩, hb1⟩
    · cases h
    have hs1 := hb1.size
    have hB : Below w.heap.size w w1 := belowTo (by go_grown) hb1
    have hs2 := hB.size
    clear hb1
    go_wp2
    go_returns
    exact ⟨rfl, by go_grown⟩
  · rw [hk] at HO
    have HX2 := Lib.hid (fun base g ns w' hF hn hb => HX.out base g ns w' hF hn hb hk)
    have HE := Lib.hid (fun w' (hb : Below w.heap.size w w') => HG.out.below hb)
    clear HX hk HG
    cases ha : vecB x0 y0
    · have HC := Lib.hid (fun w' => check_out x0 y0 w' ha)
      clear ha HX2
      go_enter Tryd.func17, Tryd.ntmps17
      go_wp2_with fail
      refine Calls.mono (HO.out _ (by go_grown)) ?_
      rintro e w1 ⟨⟨_, g, ns, rfl, hF, hn⟩ | ⟨h, _⟩, hb1⟩
      case inr => cases h
      have hc0 : w1.cell? ⟨w.heap.size, 0, none⟩ = some (.int .i64 x0) := (hb1.cell (p := ⟨w.heap.size, 0, none⟩) (by simp)).trans (by simp)
      have hc1 : w1.cell? ⟨w.heap.size, 1, none⟩ = some (.int .i64 y0) := (hb1.cell (p := ⟨w.heap.size, 1, none⟩) (by simp)).trans (by simp)
      have hB : Below w.heap.size w w1 := belowTo (by go_grown) hb1
      have hl1 : w.heap.size < w1.heap.size := Nat.lt_of_lt_of_le (by simp) hb1.size
      have hs1 := hB.size
      clear hF hn hb1
      go_wp2_with fail
      refine Calls.mono (HC.out _) ?_
      rintro e w2 ⟨rfl, hb2⟩
      have hB2 : Below w.heap.size w w2 := hB.trans (Below.mono (belowTo (by go_grown) hb2) hs1)
      have HN := Lib.hid (none_hit ⟨#[118, 101, 99, 116, 111, 114]⟩ w2 (HE.out _ hB2))
      clear hb2 hc0 hc1 hl1
      go_wp2_with fail
      refine Calls.mono HN.out ?_
      rintro e w3 ⟨rfl, hb3⟩
      have hB3 := belowTo hB2 hb3
      clear hb3
      go_wp2
      go_returns
      exact ⟨rfl, hB3⟩
    · have HC := Lib.hid (fun w' => check_in x0 y0 w' ha)
      have HX3 := Lib.hid (fun base g ns w' hF hn hb => HX2.out base g ns w' hF hn hb ha)
      clear ha HX2 HE
      generalize hasZ l d (x0, y0) = K at *
      go_enter Tryd.func17, Tryd.ntmps17
      go_wp2_with fail
      refine Calls.mono (HO.out _ (by go_grown)) ?_
      rintro e w1 ⟨⟨_, g, ns, rfl, hF, hn⟩ | ⟨h, _⟩, hb1⟩
      case inr => cases h
      have hc0 : w1.cell? ⟨w.heap.size, 0, none⟩ = some (.int .i64 x0) := (hb1.cell (p := ⟨w.heap.size, 0, none⟩) (by simp)).trans (by simp)
      have hc1 : w1.cell? ⟨w.heap.size, 1, none⟩ = some (.int .i64 y0) := (hb1.cell (p := ⟨w.heap.size, 1, none⟩) (by simp)).trans (by simp)
      have hB : Below w.heap.size w w1 := belowTo (by go_grown) hb1
      have hl1 : w.heap.size < w1.heap.size := Nat.lt_of_lt_of_le (by simp) hb1.size
      have hs1 := hB.size
      have HX4 := Lib.hid (fun w2 (h : Below w1.heap.size w1 w2) => HX3.out _ g ns w2 (hF.below h) hn (hB.trans (h.mono hs1)))
      clear hF hn hb1 HX3 HO
      go_wp2_with fail
      refine Calls.mono (HC.out _) ?_
      rintro e w2 ⟨rfl, hb2⟩
      have hA2 : Below w1.heap.size w1 w2 := belowTo (by go_grown) hb2
      have hs2 := hA2.size
      have d0 : w2.cell? ⟨w1.heap.size, 0, none⟩ = some (.pointer (some ⟨g, 0, none⟩)) := (hb2.cell (p := ⟨w1.heap.size, 0, none⟩) (by simp)).trans (by first | (go_cell; done) | (go_simp; done) | (simp; done))
      have d1 : w2.cell? ⟨w1.heap.size, 1, none⟩ = some (.slice a d.length c) := (hb2.cell (p := ⟨w1.heap.size, 1, none⟩) (by simp)).trans (by first | (go_cell; done) | (go_simp; done) | (simp; done))
      replace hc0 := (hA2.cell (p := ⟨w.heap.size, 0, none⟩) hl1).trans hc0
      replace hc1 := (hA2.cell (p := ⟨w.heap.size, 1, none⟩) hl1).trans hc1
      have HN := Lib.hid (none_nil w2)
      clear hb2
      go_wp2_with fail
      refine Calls.mono HN.out ?_
      rintro e w3 ⟨rfl, hb3⟩
      have hA3 := belowTo hA2 hb3
      replace hc0 := (hb3.cell (p := ⟨w.heap.size, 0, none⟩) (Nat.lt_of_lt_of_le hl1 hs2)).trans hc0
      replace hc1 := (hb3.cell (p := ⟨w.heap.size, 1, none⟩) (Nat.lt_of_lt_of_le hl1 hs2)).trans hc1
      replace d0 := (hb3.cell (p := ⟨w1.heap.size, 0, none⟩) (cell_lt d0)).trans d0
      replace d1 := (hb3.cell (p := ⟨w1.heap.size, 1, none⟩) (cell_lt d1)).trans d1
      clear hb3
      go_wp2_with fail
      refine Calls.mono (HX4.out _ hA3) ?_
      rintro e w4 ⟨rfl, hb4⟩
      have hB4 := hB.trans ((belowTo hA3 hb4).mono hs1)
      clear hb4 hc0 hc1 d0 d1
      go_wp2
      go_returns
      exact ⟨rfl, hB4⟩
end Go.Proofs.YtmencjdlfeojkaaDoor
