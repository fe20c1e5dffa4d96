/- Fans: the program's FanCone, FanWhere. -/
import Derived.Test.YtcieihbknfeddaaDoorB9
import Derived.Test.YtcieihbknfeddaaDoorB7
namespace Go.Proofs.YtcieihbknfeddaaDoor
open Go.RowKit

set_option maxHeartbeats 8000000 in
theorem fanCone_any (v : Value) (l : List V2) (i : Int) (w : World) (hl : ReadsVecs w v l) (hg : EtOk w) :
    Calls Tryd.prog 38 #[v, .int .i64 i] w fun e w' => e = .returned (.tuple #[.agg #[.int .i64 (gate (fanB l && idxB l i) (cyc l i.toNat).1), .int .i64 (gate (fanB l && idxB l i) (cyc l i.toNat).2), .int .i64 (gate (fanB l && idxB l i) (cyc l (i.toNat + 1)).1), .int .i64 (gate (fanB l && idxB l i) (cyc l (i.toNat + 1)).2)], .bool (fanB l && idxB l i)]) ∧ Below w.heap.size w w' := by
  have HO := Lib.hid (fun w' (hb : Below w.heap.size w w') => fanOf_any v l w' (hl.below hb) (hg.below hb))
  have HS := Lib.hid (fun (ns : List Node) h hn => fan_small (l := l) (ns := ns) h hn)
  clear hl
  cases hb : fanB l
  · rw [hb] at HO
    clear hb HS
    go_enter Tryd.func38, Tryd.ntmps38
    go_wp2_with fail
    refine Calls.mono (HO.out _ (by go_grown)) ?_
    rintro e w1 ⟨⟨h, _⟩ | ⟨_, rfl⟩, hb1⟩
    · cases h
    · have hc0 : w1.cell? ⟨w.heap.size, 0, none⟩ = some (.int .i64 0) := (hb1.cell (p := ⟨w.heap.size, 0, none⟩) (by simp)).trans (by simp)
      have hc1 : w1.cell? ⟨w.heap.size, 1, none⟩ = some (.int .i64 0) := (hb1.cell (p := ⟨w.heap.size, 1, none⟩) (by simp)).trans (by simp)
      have hc2 : w1.cell? ⟨w.heap.size, 2, none⟩ = some (.int .i64 0) := (hb1.cell (p := ⟨w.heap.size, 2, none⟩) (by simp)).trans (by simp)
      have hc3 : w1.cell? ⟨w.heap.size, 3, none⟩ = some (.int .i64 0) := (hb1.cell (p := ⟨w.heap.size, 3, none⟩) (by simp)).trans (by simp)
      have hf0 : ∀ o, w1.frozen? ⟨w.heap.size, o, none⟩ = false := fun o => (hb1.frozen (p := ⟨w.heap.size, o, none⟩) (by simp)).trans (by simp)
      have hB : Below w.heap.size w w1 := belowTo (by go_grown) hb1
      have hl1 : w.heap.size < w1.heap.size := Nat.lt_of_lt_of_le (by simp) hb1.size
      clear hb1
      go_wp2
      refine bodyPost_ret (by simp [results, Tryd.results38, go_sem, *]; try rfl) rfl ?_
      exact ⟨rfl, by go_grown⟩
  · rw [hb] at HO HS
    clear hb
    cases hi : idxB l i
    · have HX := Lib.hid (fun base g (ns : List Node) w' hF (hn : ns.length = l.length) => at_out base g ns i w' hF (by rw [hn]; exact idx_out hi))
      clear hi
      go_enter Tryd.func38, Tryd.ntmps38
      go_wp2_with fail
      refine Calls.mono (HO.out _ (by go_grown)) ?_
      rintro e w1 ⟨⟨_, g, ns, rfl, hF, hn⟩ | ⟨h, _⟩, hb1⟩
      · obtain ⟨hs, hnl⟩ := HS.out ns (by simp) hn
        have hc0 : w1.cell? ⟨w.heap.size, 0, none⟩ = some (.int .i64 0) := (hb1.cell (p := ⟨w.heap.size, 0, none⟩) (by simp)).trans (by simp)
        have hc1 : w1.cell? ⟨w.heap.size, 1, none⟩ = some (.int .i64 0) := (hb1.cell (p := ⟨w.heap.size, 1, none⟩) (by simp)).trans (by simp)
        have hc2 : w1.cell? ⟨w.heap.size, 2, none⟩ = some (.int .i64 0) := (hb1.cell (p := ⟨w.heap.size, 2, none⟩) (by simp)).trans (by simp)
        have hc3 : w1.cell? ⟨w.heap.size, 3, none⟩ = some (.int .i64 0) := (hb1.cell (p := ⟨w.heap.size, 3, none⟩) (by simp)).trans (by simp)
        have hf0 : ∀ o, w1.frozen? ⟨w.heap.size, o, none⟩ = false := fun o => (hb1.frozen (p := ⟨w.heap.size, o, none⟩) (by simp)).trans (by simp)
        have hB : Below w.heap.size w w1 := belowTo (by go_grown) hb1
        have hl1 : w.heap.size < w1.heap.size := Nat.lt_of_lt_of_le (by simp) hb1.size
        have HA := Lib.hid (HX.out _ g ns w1 hF hnl)
        clear hF hn hnl hs hb1
        go_wp2_with fail
        refine Calls.mono HA.out ?_
        rintro e w2 ⟨rfl, rfl⟩
        go_wp2
        refine bodyPost_ret (by simp [results, Tryd.results38, go_sem, *]; try rfl) rfl ?_
        exact ⟨rfl, by go_grown⟩
      · cases h
    · obtain ⟨m, rfl, hm⟩ := idx_in hi
      rw [Int.toNat_natCast]
      clear hi
      go_enter Tryd.func38, Tryd.ntmps38
      go_wp2_with fail
      refine Calls.mono (HO.out _ (by go_grown)) ?_
      rintro e w1 ⟨⟨_, g, ns, rfl, hF, hn⟩ | ⟨h, _⟩, hb1⟩
      · obtain ⟨hs, hnl⟩ := HS.out ns (by simp) hn
        have hc0 : w1.cell? ⟨w.heap.size, 0, none⟩ = some (.int .i64 0) := (hb1.cell (p := ⟨w.heap.size, 0, none⟩) (by simp)).trans (by simp)
        have hc1 : w1.cell? ⟨w.heap.size, 1, none⟩ = some (.int .i64 0) := (hb1.cell (p := ⟨w.heap.size, 1, none⟩) (by simp)).trans (by simp)
        have hc2 : w1.cell? ⟨w.heap.size, 2, none⟩ = some (.int .i64 0) := (hb1.cell (p := ⟨w.heap.size, 2, none⟩) (by simp)).trans (by simp)
        have hc3 : w1.cell? ⟨w.heap.size, 3, none⟩ = some (.int .i64 0) := (hb1.cell (p := ⟨w.heap.size, 3, none⟩) (by simp)).trans (by simp)
        have hf0 : ∀ o, w1.frozen? ⟨w.heap.size, o, none⟩ = false := fun o => (hb1.frozen (p := ⟨w.heap.size, o, none⟩) (by simp)).trans (by simp)
        have hB : Below w.heap.size w w1 := belowTo (by go_grown) hb1
        have hl1 : w.heap.size < w1.heap.size := Nat.lt_of_lt_of_le (by simp) hb1.size
        have HA := Lib.hid (at_in _ g ns m w1 hF hs (by omega))
        have HC := Lib.hid (linkCone_any ns m w1 hF.ring)
        have e1 : cyc l m = (cyc ns m).2 := by rw [← hn, rays_cyc hF.ring.pos]
        have e2 : cyc l (m + 1) = (cyc ns (m + 1)).2 := by rw [← hn, rays_cyc hF.ring.pos]
        rw [← e1, ← e2] at HC
        generalize (cyc ns m).1 = q at *
        clear hF hn hnl hs hb1 e1 e2 hm HO HS
        generalize hz2 : cyc l (m + 1) = z2 at HC
        generalize hz1 : cyc l m = z1 at HC
        obtain ⟨x1, y1⟩ := z1
        obtain ⟨x2, y2⟩ := z2
        dsimp only at HC
        have HZ1 := Lib.hid hz1
        have HZ2 := Lib.hid hz2
        clear hz1 hz2
        go_wp2_with fail
        refine Calls.mono HA.out ?_
        rintro e w2 ⟨rfl, rfl⟩
        go_wp2_with fail
        refine Calls.mono HC.out ?_
        rintro e w3 ⟨rfl, hb3⟩
        replace hc0 := (hb3.cell (p := ⟨w.heap.size, 0, none⟩) hl1).trans hc0
        replace hc1 := (hb3.cell (p := ⟨w.heap.size, 1, none⟩) hl1).trans hc1
        replace hc2 := (hb3.cell (p := ⟨w.heap.size, 2, none⟩) hl1).trans hc2
        replace hc3 := (hb3.cell (p := ⟨w.heap.size, 3, none⟩) hl1).trans hc3
        replace hf0 : ∀ o, w3.frozen? ⟨w.heap.size, o, none⟩ = false := fun o => (hb3.frozen (p := ⟨w.heap.size, o, none⟩) hl1).trans (hf0 o)
        replace hl1 := Nat.lt_of_lt_of_le hl1 hb3.size
        replace hB := belowTo hB hb3
        clear hb3
        go_wp2
        refine bodyPost_ret (by simp [results, Tryd.results38, go_sem, *]; try rfl) rfl ?_
        exact ⟨by rw [HZ1.out, HZ2.out]; rfl, by go_grown⟩
      · cases h
set_option maxHeartbeats 8000000 in
theorem fanWhere_any (v : Value) (l : List V2) (x y : Int) (w : World) (hl : ReadsVecs w v l) (hg : EtOk w) :
    Calls Tryd.prog 42 #[v, .agg #[.int .i64 (x), .int .i64 (y)]] w fun e w' => e = .returned (.tuple #[.int .i64 (gate (fanB l && vecB x y) ((firstI (fun i => inC l i (x, y)) l.length : Nat) : Int)), .bool (fanB l && vecB x y)]) ∧ Below w.heap.size w w' := by
  have HO := Lib.hid (fun w' (hb : Below w.heap.size w w') => fanOf_any v l w' (hl.below hb) (hg.below hb))
  have HS := Lib.hid (fun (ns : List Node) h hn => fan_small (l := l) (ns := ns) h hn)
  have HG := Lib.hid hg
  clear hl hg
  cases hb : fanB l
  · rw [hb] at HO
    clear hb HS HG
    go_enter Tryd.func42, Tryd.ntmps42
    go_wp2_with fail
    refine Calls.mono (HO.out _ (by go_grown)) ?_
    rintro e w1 ⟨⟨h, _⟩ | ⟨_, rfl⟩, hb1⟩
    · cases h
    · have hB : Below w.heap.size w w1 := belowTo (by go_grown) hb1
      clear hb1
      go_wp2
      go_returns
      exact ⟨rfl, hB⟩
  · rw [hb] at HO HS
    have HFB := Lib.hid hb
    clear hb
    cases hv : vecB x y
    · have HC := Lib.hid (fun w' => check_out x y w' hv)
      clear hv HS HFB
      go_enter Tryd.func42, Tryd.ntmps42
      go_wp2_with fail
      refine Calls.mono (HO.out _ (by go_grown)) ?_
      rintro e w1 ⟨⟨_, g, ns, rfl, hF, hn⟩ | ⟨h, _⟩, hb1⟩
      · have hc0 : w1.cell? ⟨w.heap.size, 0, none⟩ = some (.int .i64 x) := (hb1.cell (p := ⟨w.heap.size, 0, none⟩) (by simp)).trans (by simp)
        have hc1 : w1.cell? ⟨w.heap.size, 1, none⟩ = some (.int .i64 y) := (hb1.cell (p := ⟨w.heap.size, 1, none⟩) (by simp)).trans (by simp)
        have hB : Below w.heap.size w w1 := belowTo (by go_grown) hb1
        have hl1 : w.heap.size < w1.heap.size := Nat.lt_of_lt_of_le (by simp) hb1.size
        clear hF hn hb1
        go_wp2_with fail
        refine Calls.mono (HC.out _) ?_
        rintro e w2 ⟨rfl, hb2⟩
        have HN := Lib.hid (none_hit ⟨#[118, 101, 99, 116, 111, 114]⟩ w2 (HG.out.below (belowTo hB hb2)))
        replace hB := belowTo hB hb2
        clear hb2 hc0 hc1 hl1
        go_wp2_with fail
        refine Calls.mono HN.out ?_
        rintro e w3 ⟨rfl, hb3⟩
        replace hB := belowTo hB hb3
        clear hb3
        go_wp2
        go_returns
        exact ⟨rfl, hB⟩
      · cases h
    · have HC := Lib.hid (fun w' => check_in x y w' hv)
      have HV := Lib.hid hv
      clear hv
      go_enter Tryd.func42, Tryd.ntmps42
      go_wp2_with fail
      refine Calls.mono (HO.out _ (by go_grown)) ?_
      rintro e w1 ⟨⟨_, g, ns, rfl, hF, hn⟩ | ⟨h, _⟩, hb1⟩
      · obtain ⟨hs, hnl⟩ := HS.out ns (by simp) hn
        have hc0 : w1.cell? ⟨w.heap.size, 0, none⟩ = some (.int .i64 x) := (hb1.cell (p := ⟨w.heap.size, 0, none⟩) (by simp)).trans (by simp)
        have hc1 : w1.cell? ⟨w.heap.size, 1, none⟩ = some (.int .i64 y) := (hb1.cell (p := ⟨w.heap.size, 1, none⟩) (by simp)).trans (by simp)
        have hB : Below w.heap.size w w1 := belowTo (by go_grown) hb1
        have hl1 : w.heap.size < w1.heap.size := Nat.lt_of_lt_of_le (by simp) hb1.size
        have HW := Lib.hid (fun w' (hb' : Below w1.heap.size w1 w') => callsIn_wide.1 (where_in 3 (by omega) _ g ns x y w' (hF.below hb') hs (by rw [hn]; exact HFB.out) HV.out))
        rw [hn, hnl] at HW
        generalize hQ : ((firstI (fun i => inC l i (x, y)) l.length : Nat) : Int) = Q at HW
        have HQ := Lib.hid hQ
        clear hQ
        have hA := Below.refl w1.heap.size w1
        clear hF hn hnl hs hb1 HFB HV HO HS
        go_wp2_with fail
        refine Calls.mono (HC.out _) ?_
        rintro e w2 ⟨rfl, hb2⟩
        replace hB := belowTo hB hb2
        replace hA := hA.trans hb2
        replace hc0 := (hb2.cell (p := ⟨w.heap.size, 0, none⟩) hl1).trans hc0
        replace hc1 := (hb2.cell (p := ⟨w.heap.size, 1, none⟩) hl1).trans hc1
        replace hl1 := Nat.lt_of_lt_of_le hl1 hb2.size
        clear hb2
        go_wp2_with fail
        refine Calls.mono (none_nil _) ?_
        rintro e w3 ⟨rfl, hb3⟩
        replace hB := belowTo hB hb3
        replace hA := belowTo hA hb3
        replace hc0 := (hb3.cell (p := ⟨w.heap.size, 0, none⟩) hl1).trans hc0
        replace hc1 := (hb3.cell (p := ⟨w.heap.size, 1, none⟩) hl1).trans hc1
        replace hl1 := Nat.lt_of_lt_of_le hl1 hb3.size
        clear hb3
        have HA := Lib.hid hA
        clear hA
        go_wp2_with fail
        refine Calls.mono (HW.out _ HA.out) ?_
        rintro e w4 ⟨rfl, hb4⟩
        replace hB := belowTo hB hb4
        clear hb4 hc0 hc1 hl1 HA
        go_wp2
        go_returns
        exact ⟨by rw [HQ.out]; rfl, hB⟩
      · cases h
end Go.Proofs.YtcieihbknfeddaaDoor
