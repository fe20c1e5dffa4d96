import Derived.Test.YtfgkpnpgemakdaaDoorB6
import Derived.RangeFuncNested
import Derived.RangeFuncBound
import Derived.RangeFuncCalls
import Derived.RangeFuncLeaves
import Derived.RangeFuncBox
import Derived.Shelf.Abstract
import Derived.WalkKit
import Derived.OwnWalkIn
import Derived.TacticsInMore
import Derived.LoopNIn
import Derived.LoopIn
import Derived.Test.YtfgkpnpgemakdaaDoorB4
import Derived.RegionTactic
import Derived.ChangeAlike
import Derived.Deep.RegionHeld3
import Derived.Deep.DeepCutAuto
import Derived.StillTail
import Derived.OrdersIn
import Derived.AtR
/- Fans: the iterator over the links. -/
namespace Go.Proofs.YtfgkpnpgemakdaaDoor
open Go.RowKit Go.Shelf

attribute [local go_sem] Oper.semAt_some

set_option maxHeartbeats 1000000 in
theorem links_in (n g : Nat) (w : World) :
    CallsIn Fence.wide n Tryd.prog 35 #[.pointer (some ⟨g, 0, none⟩)] w fun e w' => e = .returned (.func (.func 59) #[] #[.pointer (some ⟨w.heap.size, 0, none⟩)]) ∧ w' = w.alloc (.cells #[.pointer (some ⟨g, 0, none⟩)] 49) := by
  refine callsIn_of_wp Tryd.func35 rfl trivial ?_ rfl
  simp only [Tryd.ntmps35, List.size_toArray, List.length_cons, List.length_nil, Nat.reduceAdd, Nat.reduceSub, Array.replicate_succ, Array.replicate_zero, List.push_toArray, List.append_toArray, List.nil_append, List.cons_append]
  gi_wp2
  go_ret
  exact ⟨rfl, rfl⟩

set_option maxHeartbeats 4000000 in
theorem links_stops (n : Nat) (hn : 1 ≤ n) (Bf n₀ base g : Nat) (ns : List Node) (w : World) (hB : w.cell? ⟨Bf, 0, none⟩ = some (.pointer (some ⟨g, 0, none⟩))) (hn₀ : n₀ ≤ w.heap.size)
    (hF : FanAt w base g ns) (hlow : ∀ p ∈ ns, p.1 < n₀) (hm : ns.length ≤ 1000) :
    SeqStopsK Fence.wide n Tryd.prog 59 #[.pointer (some ⟨Bf, 0, none⟩)] (fun i : Nat => #[.pointer (some ⟨(cyc ns i).1, 0, none⟩)]) (Below n₀) (fun xs => xs = List.range ns.length) (fun pre => pre <+: List.range ns.length) ns.length w := by
  intro l J Jx W hW hJ hJx hY h0
  have hW0 : Below n₀ w W := hW.mono hn₀
  have c1 := (hW.cell (p := ⟨Bf, 0, none⟩) (World.block_lt_of_cell? w _ hB)).trans hB
  have c2 := (hW.cell (p := ⟨g, 0, none⟩) hF.head.lt).trans hF.head.c0
  have c3 := (hW.cell (p := ⟨g, 1, none⟩) hF.head.lt).trans hF.head.c1
  have r4 : ∀ V i, Below n₀ w V → V.cell? ⟨(cyc ns i).1, 3, none⟩ = some (.pointer (some ⟨(cyc ns (i + 1)).1, 0, none⟩)) := fun V i h => (h.cell (p := ⟨(cyc ns i).1, 3, none⟩) (hlow _ (cyc_mem hF.ring.pos i))).trans (hF.ring.link i).c3
  have R4 := Lib.hid r4
  have HY := Lib.hid hY
  have HJ0 := Lib.hid h0
  clear hY h0 r4 hJ hJx hF hlow
  obtain ⟨m, hm'⟩ : ∃ m, m = ns.length := ⟨_, rfl⟩
  rw [← hm'] at c3 hm ⊢
  have HM := Lib.hid hm'
  clear hm'
  refine callsIn_of_wp Tryd.func59 rfl trivial ?_ rfl
  simp only [Tryd.ntmps59, List.size_toArray, List.length_cons, List.length_nil, Nat.reduceAdd, Nat.reduceSub, Array.replicate_succ, Array.replicate_zero, List.push_toArray, List.append_toArray, List.nil_append, List.cons_append]
  gi_wp2
  gi_loopw [3, 12] (fun p c wr => ∃ k : Nat, p = .pointer (some ⟨(cyc ns k).1, 0, none⟩) ∧ c = .int .i64 k ∧ k ≤ m ∧ Below n₀ w wr ∧ Hid (J (List.range k) wr)) (fun _ c _ => m - (intOf c).toNat)
  case atStart => exact ⟨0, rfl, rfl, Nat.zero_le _, hW0, HJ0⟩
  case round =>
    obtain ⟨k, rfl, rfl, hk, hb, hJk⟩ := hrel
    by_cases hlt : k < m
    · have i1 : (k : Int) < (m : Int) := by omega
      obtain ⟨fn, tmps, assign, body, hy, hR⟩ := HY.out (List.range k) k wr hJk.out (by rw [List.length_range]; have := HM.out; omega)
      generalize hq : (cyc ns k).1 = q at hy
      have R5 : Hid (∀ V, Below n₀ w V → V.cell? ⟨q, 3, none⟩ = some (.pointer (some ⟨(cyc ns (k + 1)).1, 0, none⟩))) := fun V h => by rw [← hq]; exact R4.out V k h
      clear hq
      gi_wp2
      refine hR.mono ?_
      rintro e V3 (⟨rfl, hJ3, hk3⟩ | ⟨rfl, hJ3⟩)
      · have hb3 : Below n₀ w V3 := hb.trans hk3
        have c4 := R5.out V3 hb3
        have HJ3 : Hid (J (List.range (k + 1)) V3) := by rw [List.range_succ]; exact hJ3
        clear hJ3 hJk hR hy
        gi_wp2
        go_roundw
        case rel => exact ⟨k + 1, rfl, by go_num, by omega, hb3, HJ3⟩
        case measure => simp [intOf]; omega
      · have HJ3 : Hid (Jx (List.range (k + 1)) V3) := by rw [List.range_succ]; exact hJ3
        clear hJ3 hJk hR hy
        gi_wp2
        refine bodyPost_ret (results_none rfl _ _ _) rfl ?_
        refine ⟨⟨_, rfl⟩, .inr ⟨_, ?_, HJ3.out⟩⟩
        exact ⟨(List.range m).drop (k + 1), by
          have e : List.range (k + 1) = (List.range m).take (k + 1) := by rw [List.take_range, Nat.min_eq_left (by omega)]
          rw [e, List.take_append_drop]⟩
    · have hkm : k = m := by omega
      subst hkm
      have i1 : ¬ (k : Int) < (k : Int) := by omega
      gi_wp2
      go_end0
      exact ⟨⟨_, rfl⟩, .inl hJk.out⟩
end Go.Proofs.YtfgkpnpgemakdaaDoor

/- Fans: the cone and the number of a link. -/
namespace Go.Proofs.YtfgkpnpgemakdaaDoor
open Go.RowKit

set_option maxHeartbeats 4000000 in
theorem linkCone_at (b z a z' a' : Nat) (x y u v : Int) (w : World) (hL : Link w b (x, y) a z) (hZ : Link w z (u, v) a' z') :
    Calls Tryd.prog 55 #[.pointer (some ⟨b, 0, none⟩)] w fun e w' => e = .returned (.agg #[.int .i64 (x), .int .i64 (y), .int .i64 (u), .int .i64 (v)]) ∧ Below w.heap.size w w' := by
  have c0 := hL.c0
  have c1 := hL.c1
  have c3 := hL.c3
  have d0 := hZ.c0
  have d1 := hZ.c1
  have l1 := hL.lt
  have l2 := hZ.lt
  dsimp only at c0 c1 d0 d1
  clear hL hZ
  go_enter Tryd.func55, Tryd.ntmps55
  go_wp2
  go_region
  all_goals go_wp2
  all_goals refine bodyPost_ret (by simp [results, Tryd.results55, go_sem, *]; try rfl) rfl ?_
  all_goals exact ⟨rfl, by go_grown⟩
theorem linkCone_any (ns : List Node) (i : Nat) (w : World) (hR : Ring w ns) :
    Calls Tryd.prog 55 #[.pointer (some ⟨(cyc ns i).1, 0, none⟩)] w fun e w' => e = .returned (.agg #[.int .i64 ((cyc ns i).2.1), .int .i64 ((cyc ns i).2.2), .int .i64 ((cyc ns (i + 1)).2.1), .int .i64 ((cyc ns (i + 1)).2.2)]) ∧ Below w.heap.size w w' :=
  linkCone_at _ _ _ _ _ _ _ _ _ w (hR.link i) (hR.link (i + 1))
end Go.Proofs.YtfgkpnpgemakdaaDoor

/- Regions that draw their order, in a round: from the plain walk. -/
namespace Go.Proofs.YtfgkpnpgemakdaaDoor
open Go.RowKit

theorem rows_round {l n : Nat} {P : Program} {row : String} {args : Array Value} {w : World} {R : Value → World → Prop} (h : Rows P row args w R) : RowsIn (Fence.wide.inRound l) n P row args w R :=
  fun c cs _ => let ⟨v, w', r, s⟩ := h c cs; ⟨v, w', r, stepsIn_wide.2 s⟩
theorem upon_round {l n : Nat} {P : Program} {o : Oper} {a : Act} {K : Act → World → Prop} {Q : Exit → Act → World → Prop} {r : Result Next} (h : o.upon P a K Q r) :
    o.uponIn (Fence.wide.inRound l) n P a K Q r := by
  cases r with
  | ok x w' =>
    cases x
    case enter f args =>
      refine ⟨fun h0 => absurd h0 Bool.false_ne_true, CallsIn.inRound l (callsIn_wide.2 (Calls.mono h ?_))⟩
      rintro e w'' he
      cases e <;> exact he
    case row row args => exact ⟨fun h0 => absurd h0 Bool.false_ne_true, rows_round h⟩
    all_goals first | exact h | exact h.elim
  | halt x w' => cases x <;> exact h
def noDefer (ops : Array Oper) : Prop := ∀ (j : Nat) (o : Oper), ops[j]? = some o → ∀ c, o.op ≠ .defer c
theorem wpOp_round {l n : Nat} {P : Program} {ops : Array Oper} {Q : Exit → Act → World → Prop} {i : Nat} {K K' : Act → World → Prop} {a : Act} {w : World}
    (hd : noDefer ops) (hL : ¬ LetsOut Q) (hK : ∀ a w, K a w → K' a w) (h : wpOp P ops Q i K a w) : wpOpIn (Fence.wide.inRound l) n P ops Q i K' a w := by
  have h2 := wpOp_mono hK h
  unfold wpOp at h2
  unfold wpOpIn
  cases ho : ops[i]? with
  | none => simp only [ho] at h2; exact h2
  | some o =>
    simp only [ho] at h2
    show if Region.wanted o (yielded ops a.tmps) then o.wpIn (Fence.wide.inRound l) n P a w K' Q else (∀ f, o.about P w a.eval = some f → (Fence.wide.inRound l).fn f) ∧ K' (a.put o.dst undef) w
    by_cases hw : Region.wanted o (yielded ops a.tmps) = true
    · rw [if_pos hw] at h2 ⊢
      rcases h2 with h2 | ⟨_, h2⟩
      · refine ⟨fun _ _ => trivial, ?_⟩
        rw [Oper.semAt_eq _ _ _ (hd i o ho)]
        exact upon_round h2
      · exact absurd h2 hL
    · rw [if_neg hw] at h2 ⊢
      exact ⟨fun _ _ => trivial, h2⟩
theorem wpAny_round {l n : Nat} {P : Program} {md : Region.Mode} {ops : Array Oper} {Q : Exit → Act → World → Prop} (hd : noDefer ops) (hL : ¬ LetsOut Q) :
    ∀ (fuel : Nat) (listed : Array Bool) (a : Act) (w : World), wpAny P md ops Q fuel listed a w → wpAnyIn (Fence.wide.inRound l) n P md ops Q fuel listed a w
  | 0, _, _, _, h => h
  | fuel + 1, _, _, _, h => ⟨h.1, fun i hi => wpOp_round hd hL (fun a' w' h' => wpAny_round hd hL fuel _ a' w' h') (h.2 i hi)⟩
/-- a region that draws its order, in a round, by the plain walk -/
theorem region_round {l n id : Nat} {P : Program} {ops : Array Oper} {Q : Exit → Act → World → Prop} {a : Act} {w : World} (hm : P.follows .mixedOrders = true) (hd : noDefer ops) (hL : ¬ LetsOut Q)
    (h : wpAny P .any ops Q ops.size (Array.replicate ops.size false) a w.drew) : (Code.region id ops true).wpIn (Fence.wide.inRound l) n P Q a w :=
  wpIn_region_any hm (wpAny_round hd hL _ _ _ _ h)
theorem undrew {w w' : World} (h : Below w.drew.heap.size w.drew w') : Below w.heap.size w w' := ⟨h.os, h.tape, h.output, h.size, h.block⟩
def notDefer : Op → Bool
  | .defer _ => false
  | _ => true
theorem noDefer_of {ops : Array Oper} (h : ops.all (fun o => notDefer o.op) = true) : noDefer ops := by
  intro j o hj c e
  obtain ⟨hlt, hk⟩ := Array.getElem?_eq_some_iff.1 hj
  have := Array.all_eq_true.1 h j hlt
  rw [hk, e] at this
  cases this
theorem wpAny_seq {P : Program} {md : Region.Mode} {ops : List Oper} {Q : Exit → Act → World → Prop} (k : Nat) {fuel : Nat} {listed : Array Bool} {a : Act} {w : World} (hf : fuel = ops.length - k)
    (hB : Region.seqB md ops.toArray (ops.length - k) k listed = true) (h : wpList P ops.toArray Q (ops.drop k) a w) : wpAny P md ops.toArray Q fuel listed a w := by
  subst hf
  have e : (ops.drop k).length = ops.length - k := List.length_drop
  have := wpAny_of_seq (md := md) (Q' := Q) (ops.drop k) k listed a w (fun j => by simp [List.getElem?_drop]) (by rw [e]; exact hB) h
  rwa [e] at this
end Go.Proofs.YtfgkpnpgemakdaaDoor

/- Regions that draw their order: an operation by a law that speaks of lists. -/
namespace Go.Proofs.YtfgkpnpgemakdaaDoor
open Go.RowKit

/-- one operation as a list of one: for the laws that speak of lists -/
theorem step_list {P : Program} {ops : Array Oper} {o : Oper} {a : Act} {w : World} {K : Act → World → Prop} {Q : Exit → Act → World → Prop} {E : Prop} (hL : ¬ LetsOut Q) (hw : Region.wanted o (yielded ops a.tmps) = true)
    (h : wpList P ops (Exit.then K Q) [o] a w) : if Region.wanted o (yielded ops a.tmps) = true then Oper.wp P o a w K Q else E := by
  rw [if_pos hw]
  unfold wpList at h
  rw [if_pos hw] at h
  have hL' : ¬ LetsOut (Exit.then K Q) := fun ⟨a, w, h⟩ => hL ⟨a, w, h⟩
  rcases h with h | ⟨_, h⟩
  · unfold Oper.wp at h ⊢
    generalize (execOp a.eval o).run P w = r at h ⊢
    cases r with
    | ok x w' =>
      cases x
      case enter f args =>
        refine Calls.mono h ?_
        rintro e w'' he
        cases e
        · exact he
        · exact he
        · exact absurd he hL'
      all_goals exact h
    | halt x w' => cases x <;> exact h
  · exact absurd h hL'
end Go.Proofs.YtfgkpnpgemakdaaDoor
