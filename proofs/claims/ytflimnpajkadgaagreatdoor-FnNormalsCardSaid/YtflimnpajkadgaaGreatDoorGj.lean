/- Fans: linked. -/
import Derived.Test.YtflimnpajkadgaaGreatDoorB6
import Derived.Test.YtflimnpajkadgaaGreatDoorB5
import Derived.RegionTactic
import Derived.ChangeAlike
import Derived.Deep.RegionHeld3
import Derived.Deep.DeepCutAuto
namespace Go.Proofs.YtflimnpajkadgaaGreatDoor
open Go.RowKit

/-- only links of ns may have been written -/
structure Touched (ns : List Node) (w w' : World) : Prop where
  os : w'.os = w.os
  tape : w'.tape = w.tape
  output : w'.output = w.output
  size : w.heap.size ≤ w'.heap.size
  block : ∀ k, k < w.heap.size → (∀ p ∈ ns, p.1 ≠ k) → w'.heap[k]? = w.heap[k]?
theorem Touched.below {ns : List Node} {w w' : World} (h : Touched ns w w') {b : Nat} (hb : b ≤ w.heap.size) (hl : ∀ p ∈ ns, b ≤ p.1) : Below b w w' :=
  ⟨h.os, h.tape, h.output, h.size, fun k hk => h.block k (by omega) (fun p hp => by have := hl p hp; omega)⟩
theorem Touched.of_below {ns : List Node} {w w' : World} (h : Below w.heap.size w w') : Touched ns w w' := ⟨h.os, h.tape, h.output, h.size, fun k hk _ => h.block k hk⟩
theorem Touched.then {ns : List Node} {w w1 w' : World} (h : Below w.heap.size w w1) (k : Touched ns w1 w') : Touched ns w w' :=
  ⟨k.os.trans h.os, k.tape.trans h.tape, k.output.trans h.output, Nat.le_trans h.size k.size, fun i hi hn => (k.block i (Nat.lt_of_lt_of_le hi h.size) hn).trans (h.block i hi)⟩
theorem Touched.set {ns : List Node} {w w1 : World} (h : Touched ns w w1) {b o : Nat} (hb : ∃ p ∈ ns, p.1 = b) (u : Value) : Touched ns w (w1.setCell ⟨b, o, none⟩ u) := by
  refine ⟨h.os, h.tape, h.output, by simpa using h.size, fun k hk hn => ?_⟩
  obtain ⟨p, hp, rfl⟩ := hb
  rw [Below.heap_setCell w1 ⟨p.1, o, none⟩ u k (fun e => hn p hp e.symm)]
  exact h.block k hk hn
/-- what 'put' at the last link leaves -/
def PutEnd (ns : List Node) (p : V2) (w : World) (e : Ending) (w' : World) : Prop := (∃ v, e = .returned v) ∧ ∃ g, w.heap.size ≤ g ∧ Ring w' (ns ++ [(g, p)]) ∧ Touched ns w w'
set_option maxHeartbeats 4000000 in
theorem put_last (ns : List Node) (x y : Int) (w : World) (hR : Ring w ns) :
    Calls Tryz.prog 80 #[.pointer (some ⟨(cyc ns (ns.length - 1)).1, 0, none⟩), .agg #[.int .i64 (x), .int .i64 (y)]] w (PutEnd ns (x, y) w) := by
  have hp := hR.pos
  have hL := hR.at (i := ns.length - 1) (by omega)
  have hF := hR.at (i := 0) hp
  rw [show ns.length - 1 + 1 = ns.length by omega, if_pos rfl] at hL
  have c3 := hL.c3
  have lf := hL.free 3
  have f2 := hF.c2
  have ff := hF.free 2
  have ll := hL.lt
  have fl := hF.lt
  have HP := Lib.hid (fun W1 g h1 h2 h3 => hR.put (x, y) (W1 := W1) (g := g) h1 h2 h3)
  have hin : (∃ p ∈ ns, p.1 = (cyc ns 0).1) ∧ ∃ p ∈ ns, p.1 = (cyc ns (ns.length - 1)).1 := ⟨⟨_, cyc_mem hp _, rfl⟩, ⟨_, cyc_mem hp _, rfl⟩⟩
  have HI := Lib.hid hin
  have hq : (if 0 = 0 then cyc ns (ns.length - 1) else cyc ns (0 - 1)).1 = (cyc ns (ns.length - 1)).1 := rfl
  have hLF : (cyc ns (ns.length - 1)).1 ≠ (cyc ns 0).1 ∨ ns.length = 1 := by
    by_cases h1 : ns.length = 1
    · exact .inr h1
    · exact .inl (fun e => h1 (by have := hR.two _ _ (by omega) hp e; omega))
  generalize (cyc ns (ns.length - 1)).1 = L at *
  generalize (cyc ns 0).1 = F at *
  clear hL hF hin hq
  go_enter Tryz.func80, Tryz.ntmps80
  go_wp2
  go_region
  all_goals go_wp2
  all_goals refine bodyPost_end (results_none rfl _ _ _) rfl ?_
  all_goals
    have hN : Link ((w.alloc (.cells #[.int .i64 x, .int .i64 y] 46)).alloc (linkObj (x, y) L F)) (w.heap.size + 1) (x, y) L F := by
      have e : w.heap.size + 1 = (w.alloc (.cells #[.int .i64 x, .int .i64 y] 46)).heap.size := by simp
      rw [e]
      exact World.alloc_heap_new _ _
    have hW := HP.out _ (w.heap.size + 1) (by omega) hN (fun k hk => (Below.heap_alloc _ _ k (by simp; omega)).trans (Below.heap_alloc _ _ k hk))
    rw [World.setCell_alloc_past (n := F) (hn := by simp; omega), World.setCell_alloc_past (n := F) (hn := fl), World.setCell_alloc_past (n := L) (hn := by simp; omega), World.setCell_alloc_past (n := L) (hn := by simp; omega)] at hW
    refine ⟨⟨_, rfl⟩, w.heap.size + 1, by omega, ⟨hW.pos, hW.two, hW.link⟩, ?_⟩
    have T := (((Touched.of_below (ns := ns) (Below.refl w.heap.size w)).set (o := 2) HI.out.1 (.pointer (some ⟨w.heap.size + 1, 0, none⟩))).set (o := 3) HI.out.2 (.pointer (some ⟨w.heap.size + 1, 0, none⟩)))
    refine ⟨T.os, T.tape, T.output, by simp; omega, fun k hk hn => ?_⟩
    exact ((Below.heap_alloc _ _ k (by simp; omega)).trans (Below.heap_alloc _ _ k (by simpa using hk))).trans (T.block k hk hn)
end Go.Proofs.YtflimnpajkadgaaGreatDoor
