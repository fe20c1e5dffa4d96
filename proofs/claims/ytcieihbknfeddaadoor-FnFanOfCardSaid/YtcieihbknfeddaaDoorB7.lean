import Derived.Test.YtcieihbknfeddaaDoorB6
import Derived.RangeFuncNested
import Derived.RangeFuncBound
import Derived.RangeFuncCalls
import Derived.RangeFuncLeaves
import Derived.RangeFuncBox
import Derived.Shelf.Abstract
import Derived.WalkKit
import Derived.OwnWalkIn
import Derived.TacticsInMore
import Derived.LoopNIn
import Derived.LoopIn
import Derived.Test.YtcieihbknfeddaaDoorB4
import Derived.RegionTactic
import Derived.ChangeAlike
import Derived.Deep.RegionHeld3
import Derived.Deep.DeepCutAuto
import Derived.Test.YtcieihbknfeddaaDoorL4
/- Fans: the iterator over the links. -/
namespace Go.Proofs.YtcieihbknfeddaaDoor
open Go.RowKit Go.Shelf

attribute [local go_sem] Oper.semAt_some

set_option maxHeartbeats 1000000 in
theorem links_in (n g : Nat) (w : World) :
    CallsIn Fence.wide n Tryd.prog 110 #[.pointer (some ⟨g, 0, none⟩)] w fun e w' => e = .returned (.func (.func 139) #[] #[.pointer (some ⟨w.heap.size, 0, none⟩)]) ∧ w' = w.alloc (.cells #[.pointer (some ⟨g, 0, none⟩)] 92) := by
  refine callsIn_of_wp Tryd.func110 rfl trivial ?_ rfl
  simp only [Tryd.ntmps110, List.size_toArray, List.length_cons, List.length_nil, Nat.reduceAdd, Nat.reduceSub, Array.replicate_succ, Array.replicate_zero, List.push_toArray, List.append_toArray, List.nil_append, List.cons_append]
  gi_wp2
  go_ret
  exact ⟨rfl, rfl⟩

set_option maxHeartbeats 4000000 in
theorem links_stops (n : Nat) (hn : 1 ≤ n) (Bf n₀ base g : Nat) (ns : List Node) (w : World) (hB : w.cell? ⟨Bf, 0, none⟩ = some (.pointer (some ⟨g, 0, none⟩))) (hn₀ : n₀ ≤ w.heap.size)
    (hF : FanAt w base g ns) (hlow : ∀ p ∈ ns, p.1 < n₀) (hm : ns.length ≤ 1000) :
    SeqStopsK Fence.wide n Tryd.prog 139 #[.pointer (some ⟨Bf, 0, none⟩)] (fun i : Nat => #[.pointer (some ⟨(cyc ns i).1, 0, none⟩)]) (Below n₀) (fun xs => xs = List.range ns.length) (fun pre => pre <+: List.range ns.length) ns.length w := by
  intro l J Jx W hW hJ hJx hY h0
  have hW0 : Below n₀ w W := hW.mono hn₀
  have c1 := (hW.cell (p := ⟨Bf, 0, none⟩) (World.block_lt_of_cell? w _ hB)).trans hB
  have c2 := (hW.cell (p := ⟨g, 0, none⟩) hF.head.lt).trans hF.head.c0
  have c3 := (hW.cell (p := ⟨g, 1, none⟩) hF.head.lt).trans hF.head.c1
  have r4 : ∀ V i, Below n₀ w V → V.cell? ⟨(cyc ns i).1, 3, none⟩ = some (.pointer (some ⟨(cyc ns (i + 1)).1, 0, none⟩)) := fun V i h => (h.cell (p := ⟨(cyc ns i).1, 3, none⟩) (hlow _ (cyc_mem hF.ring.pos i))).trans (hF.ring.link i).c3
  have R4 := Lib.hid r4
  have HY := Lib.hid hY
  have HJ0 := Lib.hid h0
  clear hY h0 r4 hJ hJx hF hlow
  obtain ⟨m, hm'⟩ : ∃ m, m = ns.length := ⟨_, rfl⟩
  rw [← hm'] at c3 hm ⊢
  have HM := Lib.hid hm'
  clear hm'
  refine callsIn_of_wp Tryd.func139 rfl trivial ?_ rfl
  simp only [Tryd.ntmps139, List.size_toArray, List.length_cons, List.length_nil, Nat.reduceAdd, Nat.reduceSub, Array.replicate_succ, Array.replicate_zero, List.push_toArray, List.append_toArray, List.nil_append, List.cons_append]
  gi_wp2
  gi_loopw [3, 12] (fun p c wr => ∃ k : Nat, p = .pointer (some ⟨(cyc ns k).1, 0, none⟩) ∧ c = .int .i64 k ∧ k ≤ m ∧ Below n₀ w wr ∧ Hid (J (List.range k) wr)) (fun _ c _ => m - (intOf c).toNat)
  case atStart => exact ⟨0, rfl, rfl, Nat.zero_le _, hW0, HJ0⟩
  case round =>
    obtain ⟨k, rfl, rfl, hk, hb, hJk⟩ := hrel
    by_cases hlt : k < m
    · have i1 : (k : Int) < (m : Int) := by omega
      obtain ⟨fn, tmps, assign, body, hy, hR⟩ := HY.out (List.range k) k wr hJk.out (by rw [List.length_range]; have := HM.out; omega)
      generalize hq : (cyc ns k).1 = q at hy
      have R5 : Hid (∀ V, Below n₀ w V → V.cell? ⟨q, 3, none⟩ = some (.pointer (some ⟨(cyc ns (k + 1)).1, 0, none⟩))) := fun V h => by rw [← hq]; exact R4.out V k h
      clear hq
      gi_wp2
      refine hR.mono ?_
      rintro e V3 (⟨rfl, hJ3, hk3⟩ | ⟨rfl, hJ3⟩)
      · have hb3 : Below n₀ w V3 := hb.trans hk3
        have c4 := R5.out V3 hb3
        have HJ3 : Hid (J (List.range (k + 1)) V3) := by rw [List.range_succ]; exact hJ3
        clear hJ3 hJk hR hy
        gi_wp2
        go_roundw
        case rel => exact ⟨k + 1, rfl, by go_num, by omega, hb3, HJ3⟩
        case measure => simp [intOf]; omega
      · have HJ3 : Hid (Jx (List.range (k + 1)) V3) := by rw [List.range_succ]; exact hJ3
        clear hJ3 hJk hR hy
        gi_wp2
        refine bodyPost_ret (results_none rfl _ _ _) rfl ?_
        refine ⟨⟨_, rfl⟩, .inr ⟨_, ?_, HJ3.out⟩⟩
        exact ⟨(List.range m).drop (k + 1), by
          have e : List.range (k + 1) = (List.range m).take (k + 1) := by rw [List.take_range, Nat.min_eq_left (by omega)]
          rw [e, List.take_append_drop]⟩
    · have hkm : k = m := by omega
      subst hkm
      have i1 : ¬ (k : Int) < (k : Int) := by omega
      gi_wp2
      go_end0
      exact ⟨⟨_, rfl⟩, .inl hJk.out⟩
end Go.Proofs.YtcieihbknfeddaaDoor

/- Fans: the cone and the number of a link. -/
namespace Go.Proofs.YtcieihbknfeddaaDoor
open Go.RowKit

set_option maxHeartbeats 4000000 in
theorem linkCone_at (b z a z' a' : Nat) (x y u v : Int) (w : World) (hL : Link w b (x, y) a z) (hZ : Link w z (u, v) a' z') :
    Calls Tryd.prog 97 #[.pointer (some ⟨b, 0, none⟩)] w fun e w' => e = .returned (.agg #[.int .i64 (x), .int .i64 (y), .int .i64 (u), .int .i64 (v)]) ∧ Below w.heap.size w w' := by
  have c0 := hL.c0
  have c1 := hL.c1
  have c3 := hL.c3
  have d0 := hZ.c0
  have d1 := hZ.c1
  have l1 := hL.lt
  have l2 := hZ.lt
  dsimp only at c0 c1 d0 d1
  clear hL hZ
  go_enter Tryd.func97, Tryd.ntmps97
  go_wp2
  go_region
  all_goals go_wp2
  all_goals refine bodyPost_ret (by simp [results, Tryd.results97, go_sem, *]; try rfl) rfl ?_
  all_goals exact ⟨rfl, by go_grown⟩
theorem linkCone_any (ns : List Node) (i : Nat) (w : World) (hR : Ring w ns) :
    Calls Tryd.prog 97 #[.pointer (some ⟨(cyc ns i).1, 0, none⟩)] w fun e w' => e = .returned (.agg #[.int .i64 ((cyc ns i).2.1), .int .i64 ((cyc ns i).2.2), .int .i64 ((cyc ns (i + 1)).2.1), .int .i64 ((cyc ns (i + 1)).2.2)]) ∧ Below w.heap.size w w' :=
  linkCone_at _ _ _ _ _ _ _ _ _ w (hR.link i) (hR.link (i + 1))
set_option linter.unusedSimpArgs false in
set_option maxHeartbeats 4000000 in
theorem number_at (b z a z1 a1 z2 a2 : Nat) (x y u v s t : Int) (w : World) (hL : Link w b (x, y) a z) (hA : Link w a (s, t) a1 z1) (hZ : Link w z (u, v) a2 z2) (h1 : vecB s t = true) (h2 : vecB u v = true) :
    Calls Tryd.prog 131 #[.pointer (some ⟨b, 0, none⟩)] w fun e w' => e = .returned (.int .i64 (-(detZ s t u v))) ∧ Below w.heap.size w w' := by
  have c2 := hL.c2
  have c3 := hL.c3
  have d0 := hZ.c0
  have d1 := hZ.c1
  have e0 := hA.c0
  have e1 := hA.c1
  have l1 := hL.lt
  have l2 := hZ.lt
  have l3 := hA.lt
  have hd := det_sz h1 h2
  obtain ⟨_, _⟩ := hd
  dsimp only at d0 d1 e0 e1
  have HD := Lib.hid (fun w' => det_any s t u v w' h1 h2)
  generalize detZ s t u v = d at *
  clear hL hZ hA h1 h2
  have q1 : IntKind.i64.wrap (-d) = -d := by rw [IntKind.wrap_i64]; omega
  go_enter Tryd.func131, Tryd.ntmps131
  go_upto_region 1 with fail
  go_region_held3 (fun w' => w'.cell? ⟨b, 2, none⟩ = some (.pointer (some ⟨a, 0, none⟩)) ∧ w'.cell? ⟨b, 3, none⟩ = some (.pointer (some ⟨z, 0, none⟩)) ∧ w'.cell? ⟨z, 0, none⟩ = some (.int .i64 (u)) ∧ w'.cell? ⟨z, 1, none⟩ = some (.int .i64 (v)) ∧ w'.cell? ⟨a, 0, none⟩ = some (.int .i64 (s)) ∧ w'.cell? ⟨a, 1, none⟩ = some (.int .i64 (t)) ∧ Below w.heap.size w w') ((go_split_ands; refine ⟨by (first | (with_reducible assumption) | (go_keep; done) | (go_cell; done) | (go_simp; done) | (simp [*]; done)), by (first | (with_reducible assumption) | (go_keep; done) | (go_cell; done) | (go_simp; done) | (simp [*]; done)), by (first | (with_reducible assumption) | (go_keep; done) | (go_cell; done) | (go_simp; done) | (simp [*]; done)), by (first | (with_reducible assumption) | (go_keep; done) | (go_cell; done) | (go_simp; done) | (simp [*]; done)), by (first | (with_reducible assumption) | (go_keep; done) | (go_cell; done) | (go_simp; done) | (simp [*]; done)), by (first | (with_reducible assumption) | (go_keep; done) | (go_cell; done) | (go_simp; done) | (simp [*]; done)), by first | (with_reducible assumption) | (go_grown; done)⟩)) (first | (go_at_call 148; go_call (HD.out _) as e w1 ⟨rfl, hb0⟩; go_split_ands; have q0 : w1.cell? ⟨b, 2, none⟩ = some (.pointer (some ⟨a, 0, none⟩)) := (hb0.cell (p := ⟨b, 2, none⟩) (by first | (with_reducible assumption) | (go_size; done) | (simp; omega))).trans (by first | (with_reducible assumption) | (go_keep; done) | (go_cell; done) | (go_simp; done) | (simp [*]; done)); have q1 : w1.cell? ⟨b, 3, none⟩ = some (.pointer (some ⟨z, 0, none⟩)) := (hb0.cell (p := ⟨b, 3, none⟩) (by first | (with_reducible assumption) | (go_size; done) | (simp; omega))).trans (by first | (with_reducible assumption) | (go_keep; done) | (go_cell; done) | (go_simp; done) | (simp [*]; done)); have q2 : w1.cell? ⟨z, 0, none⟩ = some (.int .i64 (u)) := (hb0.cell (p := ⟨z, 0, none⟩) (by first | (with_reducible assumption) | (go_size; done) | (simp; omega))).trans (by first | (with_reducible assumption) | (go_keep; done) | (go_cell; done) | (go_simp; done) | (simp [*]; done)); have q3 : w1.cell? ⟨z, 1, none⟩ = some (.int .i64 (v)) := (hb0.cell (p := ⟨z, 1, none⟩) (by first | (with_reducible assumption) | (go_size; done) | (simp; omega))).trans (by first | (with_reducible assumption) | (go_keep; done) | (go_cell; done) | (go_simp; done) | (simp [*]; done)); have q4 : w1.cell? ⟨a, 0, none⟩ = some (.int .i64 (s)) := (hb0.cell (p := ⟨a, 0, none⟩) (by first | (with_reducible assumption) | (go_size; done) | (simp; omega))).trans (by first | (with_reducible assumption) | (go_keep; done) | (go_cell; done) | (go_simp; done) | (simp [*]; done)); have q5 : w1.cell? ⟨a, 1, none⟩ = some (.int .i64 (t)) := (hb0.cell (p := ⟨a, 1, none⟩) (by first | (with_reducible assumption) | (go_size; done) | (simp; omega))).trans (by first | (with_reducible assumption) | (go_keep; done) | (go_cell; done) | (go_simp; done) | (simp [*]; done)); have hs0 : b < w1.heap.size := Nat.lt_of_lt_of_le (by first | (with_reducible assumption) | (go_size; done) | (simp; omega)) hb0.size; have hs1 : z < w1.heap.size := Nat.lt_of_lt_of_le (by first | (with_reducible assumption) | (go_size; done) | (simp; omega)) hb0.size; have hs2 : a < w1.heap.size := Nat.lt_of_lt_of_le (by first | (with_reducible assumption) | (go_size; done) | (simp; omega)) hb0.size; have hT : Below w.heap.size w w1 := belowTo (by first | (with_reducible assumption) | (go_grown; done)) hb0; have hTs := hT.size; clear hb0))
  all_goals go_wp2
  all_goals go_returns
  all_goals exact ⟨by first | rfl | simp [*], by go_grown⟩
theorem number_any (ns : List Node) (i : Nat) (w : World) (hR : Ring w ns) (hv : allVec (rays ns)) :
    Calls Tryd.prog 131 #[.pointer (some ⟨(cyc ns i).1, 0, none⟩)] w fun e w' => e = .returned (.int .i64 (numZ (rays ns) i)) ∧ Below w.heap.size w w' := by
  unfold numZ detV
  rw [rays_cyc hR.pos, rays_cyc hR.pos, rays_len]
  refine number_at _ _ _ _ _ _ _ _ _ _ _ _ _ w (hR.link i) (hR.link (i + ns.length - 1)) (hR.link (i + 1)) ?_ ?_
  · have := hv (i + ns.length - 1); rwa [rays_cyc hR.pos] at this
  · have := hv (i + 1); rwa [rays_cyc hR.pos] at this
end Go.Proofs.YtcieihbknfeddaaDoor

/- Regions that draw their order: XRg. -/

/- Regions that draw their order: XRg. -/
