import Derived.Test.YtgaeibibeekclabGreatDoorProg
import Derived.Test.YtgaeibibeekclabGreatDoorS06
import Derived.Test.YtgaeibibeekclabGreatDoorS31
import Derived.WalkKit
import Derived.LaidEql
import Derived.Stop.Asserts
import Derived.RowKitTokens
import Derived.Handy
import Derived.WalkSpells
import Derived.WalkLawsBesides
import Derived.Deep.QuietTactic
import Derived.BigQuiet
import Derived.Lib.Hide
import Derived.Deep.RegionHeld3
import Derived.Deep.DeepCutAuto
import Derived.Deep.AppendLies
import Derived.Laws.OwnMore
import Derived.Laws.MakeOwn
import Derived.OwnWalk
import Derived.Maps.AppendAt
import Derived.RangeFuncBox
import Derived.RegionTactic
import Derived.ChangeAlike
import Derived.RangeFuncNested
import Derived.StillTail
import Derived.OrdersIn
import Derived.AtR
namespace Go.Proofs.YtgaeibibeekclabGreatDoor
open Go.RowKit
/-- only links of ns may have been written -/
structure Touched (ns : List Node) (w w' : World) : Prop where
  os : w'.os = w.os
  tape : w'.tape = w.tape
  output : w'.output = w.output
  size : w.heap.size ≤ w'.heap.size
  block : ∀ k, k < w.heap.size → (∀ p ∈ ns, p.1 ≠ k) → w'.heap[k]? = w.heap[k]?
theorem Touched.below {ns : List Node} {w w' : World} (h : Touched ns w w') {b : Nat} (hb : b ≤ w.heap.size) (hl : ∀ p ∈ ns, b ≤ p.1) : Below b w w' :=
  ⟨h.os, h.tape, h.output, h.size, fun k hk => h.block k (by omega) (fun p hp => by have := hl p hp; omega)⟩
theorem Touched.of_below {ns : List Node} {w w' : World} (h : Below w.heap.size w w') : Touched ns w w' := ⟨h.os, h.tape, h.output, h.size, fun k hk _ => h.block k hk⟩
theorem Touched.set {ns : List Node} {w w1 : World} (h : Touched ns w w1) {b o : Nat} (hb : ∃ p ∈ ns, p.1 = b) (u : Value) : Touched ns w (w1.setCell ⟨b, o, none⟩ u) := by
  refine ⟨h.os, h.tape, h.output, by simpa using h.size, fun k hk hn => ?_⟩
  obtain ⟨p, hp, rfl⟩ := hb
  rw [Below.heap_setCell w1 ⟨p.1, o, none⟩ u k (fun e => hn p hp e.symm)]
  exact h.block k hk hn
/-- what 'put' at the last link leaves -/
def PutEnd (ns : List Node) (p : V2) (w : World) (e : Ending) (w' : World) : Prop := (∃ v, e = .returned v) ∧ ∃ g, w.heap.size ≤ g ∧ Ring w' (ns ++ [(g, p)]) ∧ Touched ns w w'
set_option maxHeartbeats 4000000 in
theorem put_last (ns : List Node) (x y : Int) (w : World) (hR : Ring w ns) :
    Calls Tryz.prog 142 #[.pointer (some ⟨(cyc ns (ns.length - 1)).1, 0, none⟩), .agg #[.int .i64 (x), .int .i64 (y)]] w (PutEnd ns (x, y) w) := by
  have hp := hR.pos
  have hL := hR.at (i := ns.length - 1) (by omega)
  have hF := hR.at (i := 0) hp
  rw [show ns.length - 1 + 1 = ns.length by omega, if_pos rfl] at hL
  have c3 := hL.c3
  have lf := hL.free 3
  have f2 := hF.c2
  have ff := hF.free 2
  have ll := hL.lt
  have fl := hF.lt
  have HP := Lib.hid (fun W1 g h1 h2 h3 => hR.put (x, y) (W1 := W1) (g := g) h1 h2 h3)
  have hin : (∃ p ∈ ns, p.1 = (cyc ns 0).1) ∧ ∃ p ∈ ns, p.1 = (cyc ns (ns.length - 1)).1 := ⟨⟨_, cyc_mem hp _, rfl⟩, ⟨_, cyc_mem hp _, rfl⟩⟩
  have HI := Lib.hid hin
  have hq : (if 0 = 0 then cyc ns (ns.length - 1) else cyc ns (0 - 1)).1 = (cyc ns (ns.length - 1)).1 := rfl
  have hLF : (cyc ns (ns.length - 1)).1 ≠ (cyc ns 0).1 ∨ ns.length = 1 := by
    by_cases h1 : ns.length = 1
    · exact .inr h1
    · exact .inl (fun e => h1 (by have := hR.two _ _ (by omega) hp e; omega))
  generalize (cyc ns (ns.length - 1)).1 = L at *
  generalize (cyc ns 0).1 = F at *
  clear hL hF hin hq
  go_enter Tryz.func142, Tryz.ntmps142
  go_wp2
  go_region
  all_goals go_wp2
  all_goals refine bodyPost_end (results_none rfl _ _ _) rfl ?_
  all_goals
    have hN : Link ((w.alloc (.cells #[.int .i64 x, .int .i64 y] 55)).alloc (linkObj (x, y) L F)) (w.heap.size + 1) (x, y) L F := by
      have e : w.heap.size + 1 = (w.alloc (.cells #[.int .i64 x, .int .i64 y] 55)).heap.size := by simp
      rw [e]
      exact World.alloc_heap_new _ _
    have hW := HP.out _ (w.heap.size + 1) (by omega) hN (fun k hk => (Below.heap_alloc _ _ k (by simp; omega)).trans (Below.heap_alloc _ _ k hk))
    rw [World.setCell_alloc_past (n := F) (hn := by simp; omega), World.setCell_alloc_past (n := F) (hn := fl), World.setCell_alloc_past (n := L) (hn := by simp; omega), World.setCell_alloc_past (n := L) (hn := by simp; omega)] at hW
    refine ⟨⟨_, rfl⟩, w.heap.size + 1, by omega, ⟨hW.pos, hW.two, hW.link⟩, ?_⟩
    have T := (((Touched.of_below (ns := ns) (Below.refl w.heap.size w)).set (o := 2) HI.out.1 (.pointer (some ⟨w.heap.size + 1, 0, none⟩))).set (o := 3) HI.out.2 (.pointer (some ⟨w.heap.size + 1, 0, none⟩)))
    refine ⟨T.os, T.tape, T.output, by simp; omega, fun k hk hn => ?_⟩
    exact ((Below.heap_alloc _ _ k (by simp; omega)).trans (Below.heap_alloc _ _ k (by simpa using hk))).trans (T.block k hk hn)
end Go.Proofs.YtgaeibibeekclabGreatDoor
namespace Go.Proofs.YtgaeibibeekclabGreatDoor
open Go.RowKit
theorem rows_round {l n : Nat} {P : Program} {row : String} {args : Array Value} {w : World} {R : Value → World → Prop} (h : Rows P row args w R) : RowsIn (Fence.wide.inRound l) n P row args w R :=
  fun c cs _ => let ⟨v, w', r, s⟩ := h c cs; ⟨v, w', r, stepsIn_wide.2 s⟩
theorem upon_round {l n : Nat} {P : Program} {o : Oper} {a : Act} {K : Act → World → Prop} {Q : Exit → Act → World → Prop} {r : Result Next} (h : o.upon P a K Q r) :
    o.uponIn (Fence.wide.inRound l) n P a K Q r := by
  cases r with
  | ok x w' =>
    cases x
    case enter f args =>
      refine ⟨fun h0 => absurd h0 Bool.false_ne_true, CallsIn.inRound l (callsIn_wide.2 (Calls.mono h ?_))⟩
      rintro e w'' he
      cases e <;> exact he
    case row row args => exact ⟨fun h0 => absurd h0 Bool.false_ne_true, rows_round h⟩
    all_goals first | exact h | exact h.elim
  | halt x w' => cases x <;> exact h
def noDefer (ops : Array Oper) : Prop := ∀ (j : Nat) (o : Oper), ops[j]? = some o → ∀ c, o.op ≠ .defer c
theorem wpOp_round {l n : Nat} {P : Program} {ops : Array Oper} {Q : Exit → Act → World → Prop} {i : Nat} {K K' : Act → World → Prop} {a : Act} {w : World}
    (hd : noDefer ops) (hL : ¬ LetsOut Q) (hK : ∀ a w, K a w → K' a w) (h : wpOp P ops Q i K a w) : wpOpIn (Fence.wide.inRound l) n P ops Q i K' a w := by
  have h2 := wpOp_mono hK h
  unfold wpOp at h2
  unfold wpOpIn
  cases ho : ops[i]? with
  | none => simp only [ho] at h2; exact h2
  | some o =>
    simp only [ho] at h2
    show if Region.wanted o (yielded ops a.tmps) then o.wpIn (Fence.wide.inRound l) n P a w K' Q else (∀ f, o.about P w a.eval = some f → (Fence.wide.inRound l).fn f) ∧ K' (a.put o.dst undef) w
    by_cases hw : Region.wanted o (yielded ops a.tmps) = true
    · rw [if_pos hw] at h2 ⊢
      rcases h2 with h2 | ⟨_, h2⟩
      · refine ⟨fun _ _ => trivial, ?_⟩
        rw [Oper.semAt_eq _ _ _ (hd i o ho)]
        exact upon_round h2
      · exact absurd h2 hL
    · rw [if_neg hw] at h2 ⊢
      exact ⟨fun _ _ => trivial, h2⟩
theorem wpAny_round {l n : Nat} {P : Program} {md : Region.Mode} {ops : Array Oper} {Q : Exit → Act → World → Prop} (hd : noDefer ops) (hL : ¬ LetsOut Q) :
    ∀ (fuel : Nat) (listed : Array Bool) (a : Act) (w : World), wpAny P md ops Q fuel listed a w → wpAnyIn (Fence.wide.inRound l) n P md ops Q fuel listed a w
  | 0, _, _, _, h => h
  | fuel + 1, _, _, _, h => ⟨h.1, fun i hi => wpOp_round hd hL (fun a' w' h' => wpAny_round hd hL fuel _ a' w' h') (h.2 i hi)⟩
/-- a region that draws its order, in a round, by the plain walk -/
theorem region_round {l n id : Nat} {P : Program} {ops : Array Oper} {Q : Exit → Act → World → Prop} {a : Act} {w : World} (hm : P.follows .mixedOrders = true) (hd : noDefer ops) (hL : ¬ LetsOut Q)
    (h : wpAny P .any ops Q ops.size (Array.replicate ops.size false) a w.drew) : (Code.region id ops true).wpIn (Fence.wide.inRound l) n P Q a w :=
  wpIn_region_any hm (wpAny_round hd hL _ _ _ _ h)
def notDefer : Op → Bool
  | .defer _ => false
  | _ => true
theorem noDefer_of {ops : Array Oper} (h : ops.all (fun o => notDefer o.op) = true) : noDefer ops := by
  intro j o hj c e
  obtain ⟨hlt, hk⟩ := Array.getElem?_eq_some_iff.1 hj
  have := Array.all_eq_true.1 h j hlt
  rw [hk, e] at this
  cases this
end Go.Proofs.YtgaeibibeekclabGreatDoor
