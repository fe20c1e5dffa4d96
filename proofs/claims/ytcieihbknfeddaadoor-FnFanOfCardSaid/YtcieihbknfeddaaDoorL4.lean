import Derived.Test.YtcieihbknfeddaaDoorB5
import Derived.Test.YtcieihbknfeddaaDoorB6
import Derived.RegionTactic
import Derived.ChangeAlike
import Derived.Deep.RegionHeld3
import Derived.Deep.DeepCutAuto
import Derived.Test.YtcieihbknfeddaaDoorB1
import Derived.RangeFuncNested
import Derived.StillTail
import Derived.OrdersIn
import Derived.AtR
/- Slices of vectors, wherever they lie; copied. -/
namespace Go.Proofs.YtcieihbknfeddaaDoor
open Go.RowKit

/-- A slice of vectors: it may begin anywhere. -/
def ReadsVecs (w : World) (v : Value) (l : List V2) : Prop := ∃ a c, v = .slice a l.length c ∧ l.length ≤ c ∧ l.length ≤ 576460752303423488 ∧ (0 < l.length → ∃ bb off, a = some ⟨bb, off, none⟩ ∧ bb < w.heap.size ∧
  ∀ j, j < l.length → w.cell? ⟨bb, off + j * 2, none⟩ = some (.int .i64 (cyc l j).1) ∧ w.cell? ⟨bb, off + j * 2 + 1, none⟩ = some (.int .i64 (cyc l j).2))
theorem ReadsVecs.below {w w' : World} {v : Value} {l : List V2} (h : ReadsVecs w v l) (hb : Below w.heap.size w w') : ReadsVecs w' v l := by
  obtain ⟨a, c, h1, h2, h3, h4⟩ := h
  refine ⟨a, c, h1, h2, h3, fun h0 => ?_⟩
  obtain ⟨bb, off, h5, h6, h7⟩ := h4 h0
  exact ⟨bb, off, h5, Nat.lt_of_lt_of_le h6 hb.size, fun j hj => ⟨(hb.cell (p := ⟨bb, off + j * 2, none⟩) h6).trans (h7 j hj).1, (hb.cell (p := ⟨bb, off + j * 2 + 1, none⟩) h6).trans (h7 j hj).2⟩⟩
theorem flat_get (l : List V2) (j : Nat) (h : j < l.length) : (flat l)[j * 2]?.getD 0 = (cyc l j).1 ∧ (flat l)[j * 2 + 1]?.getD 0 = (cyc l j).2 := by
  rw [cyc_lt h]
  induction l generalizing j with
  | nil => simp at h
  | cons p l ih =>
    cases j with
    | zero => simp [flat]
    | succ j =>
      have := ih j (by simpa using h)
      simpa [flat, Nat.add_mul, Nat.succ_mul] using this
theorem Vecs.reads {w : World} {base : Nat} {v : Value} {l : List V2} (h : Vecs w base v l) (hl : l.length ≤ 576460752303423488) : ReadsVecs w v l := by
  have h' := h
  unfold Vecs at h
  rcases h.form with ⟨h0, _, a, c, rfl⟩ | ⟨hp, g, c, rfl, _, hg, hc⟩
  · exact ⟨a, c, by rw [h0], by omega, hl, fun h1 => by omega⟩
  · exact ⟨_, c, rfl, hc, hl, fun _ => ⟨g, 0, rfl, hg, fun j hj => by
      rw [Nat.zero_add]
      obtain ⟨e1, e2⟩ := flat_get l j hj
      rw [← e1, ← e2]
      exact ⟨h.cell (j * 2) (by omega), h.cell (j * 2 + 1) (by omega)⟩⟩⟩

theorem flat_take (l : List V2) (k : Nat) (h : k < l.length) : flat (l.take (k + 1)) = flat (l.take k) ++ [(cyc l k).1, (cyc l k).2] := by
  rw [List.take_add_one, flat_app, cyc_get h]
  rfl
theorem set_copy2 (l : List V2) (xs : List Value) (k : Nat) (h : k < l.length) (hx : xs.length = l.length * 2) :
    ((intsV (flat (l.take k)) ++ xs.drop (k * 2)).set (k * 2) (.int .i64 (cyc l k).1)).set (k * 2 + 1) (.int .i64 (cyc l k).2) = intsV (flat (l.take (k + 1))) ++ xs.drop ((k + 1) * 2) := by
  have e1 : (intsV (flat (l.take k))).length = k * 2 := by simp [intsV, flat_len]; omega
  rw [List.set_append_right _ _ (by omega), e1, Nat.sub_self, List.drop_eq_getElem_cons (by omega), List.set_cons_zero, List.set_append_right _ _ (by omega), e1, Nat.add_sub_cancel_left, List.drop_eq_getElem_cons (by omega), List.set_cons_succ, List.set_cons_zero, flat_take l k h]
  simp [intsV, Nat.add_mul]
set_option maxHeartbeats 1000000 in
theorem szVecS_any (a : Option Addr) (n c : Nat) (w : World) (hn : n ≤ 9223372036854775807) :
    Calls Tryd.prog 24 #[.slice a n c, .int .i64 1048576] w fun e w' => e = .returned (.int .i64 (if n ≤ 1048576 then 1048576 - (n : Int) else -1)) ∧ w = w' := by
  have q1 : IntKind.i64.wrap (1048576 - (n : Int)) = 1048576 - (n : Int) := by rw [IntKind.wrap_i64]; omega
  by_cases h : n ≤ 1048576
  · have j1 : ¬ 1048576 - (n : Int) < 0 := by omega
    rw [if_pos h]
    go_enter Tryd.func24, Tryd.ntmps24
    go_wp2
    go_returns
    exact ⟨rfl, rfl⟩
  · have j1 : 1048576 - (n : Int) < 0 := by omega
    rw [if_neg h]
    go_enter Tryd.func24, Tryd.ntmps24
    go_wp2
    go_returns
    exact ⟨rfl, rfl⟩
theorem next_is (k n : Nat) : Int.tmod ((k : Int) + 1) (n : Int) = (((k + 1) % n : Nat) : Int) := by
  rw [show ((k : Int) + 1) = ((k + 1 : Nat) : Int) by simp, Int.ofNat_tmod]
theorem cyc_nx {l : List V2} (k : Nat) : cyc l ((k + 1) % l.length) = cyc l (k + 1) := cyc_mod l (k + 1)
/-- what is read in whatever later world -/
theorem ReadsVecs.open {w : World} {v : Value} {l : List V2} (h : ReadsVecs w v l) (h0 : 0 < l.length) : ∃ bb off c, v = .slice (some ⟨bb, off, none⟩) l.length c ∧ l.length ≤ c ∧ l.length ≤ 576460752303423488 ∧ bb < w.heap.size ∧
    ∀ wr, Below w.heap.size w wr → ∀ j, j < l.length → wr.cell? ⟨bb, off + j * 2, none⟩ = some (.int .i64 (cyc l j).1) ∧ wr.cell? ⟨bb, off + j * 2 + 1, none⟩ = some (.int .i64 (cyc l j).2) := by
  obtain ⟨a, c, rfl, hc, hm, hcell⟩ := h
  obtain ⟨bb, off, rfl, hb, hcs⟩ := hcell h0
  exact ⟨bb, off, c, rfl, hc, hm, hb, fun wr hw j hj => ⟨(hw.cell (p := ⟨bb, off + j * 2, none⟩) hb).trans (hcs j hj).1, (hw.cell (p := ⟨bb, off + j * 2 + 1, none⟩) hb).trans (hcs j hj).2⟩⟩
theorem cell_lt {w : World} {b o : Nat} {v : Value} (h : w.cell? ⟨b, o, none⟩ = some v) : b < w.heap.size := World.block_lt_of_cell? w _ h
end Go.Proofs.YtcieihbknfeddaaDoor

/- Fans: linked. -/
namespace Go.Proofs.YtcieihbknfeddaaDoor
open Go.RowKit

/-- only links of ns may have been written -/
structure Touched (ns : List Node) (w w' : World) : Prop where
  os : w'.os = w.os
  tape : w'.tape = w.tape
  output : w'.output = w.output
  size : w.heap.size ≤ w'.heap.size
  block : ∀ k, k < w.heap.size → (∀ p ∈ ns, p.1 ≠ k) → w'.heap[k]? = w.heap[k]?
theorem Touched.below {ns : List Node} {w w' : World} (h : Touched ns w w') {b : Nat} (hb : b ≤ w.heap.size) (hl : ∀ p ∈ ns, b ≤ p.1) : Below b w w' :=
  ⟨h.os, h.tape, h.output, h.size, fun k hk => h.block k (by omega) (fun p hp => by have := hl p hp; omega)⟩
theorem Touched.of_below {ns : List Node} {w w' : World} (h : Below w.heap.size w w') : Touched ns w w' := ⟨h.os, h.tape, h.output, h.size, fun k hk _ => h.block k hk⟩
theorem Touched.then {ns : List Node} {w w1 w' : World} (h : Below w.heap.size w w1) (k : Touched ns w1 w') : Touched ns w w' :=
  ⟨k.os.trans h.os, k.tape.trans h.tape, k.output.trans h.output, Nat.le_trans h.size k.size, fun i hi hn => (k.block i (Nat.lt_of_lt_of_le hi h.size) hn).trans (h.block i hi)⟩
theorem Touched.set {ns : List Node} {w w1 : World} (h : Touched ns w w1) {b o : Nat} (hb : ∃ p ∈ ns, p.1 = b) (u : Value) : Touched ns w (w1.setCell ⟨b, o, none⟩ u) := by
  refine ⟨h.os, h.tape, h.output, by simpa using h.size, fun k hk hn => ?_⟩
  obtain ⟨p, hp, rfl⟩ := hb
  rw [Below.heap_setCell w1 ⟨p.1, o, none⟩ u k (fun e => hn p hp e.symm)]
  exact h.block k hk hn
/-- what 'put' at the last link leaves -/
def PutEnd (ns : List Node) (p : V2) (w : World) (e : Ending) (w' : World) : Prop := (∃ v, e = .returned v) ∧ ∃ g, w.heap.size ≤ g ∧ Ring w' (ns ++ [(g, p)]) ∧ Touched ns w w'
set_option maxHeartbeats 4000000 in
theorem put_last (ns : List Node) (x y : Int) (w : World) (hR : Ring w ns) :
    Calls Tryd.prog 132 #[.pointer (some ⟨(cyc ns (ns.length - 1)).1, 0, none⟩), .agg #[.int .i64 (x), .int .i64 (y)]] w (PutEnd ns (x, y) w) := by
  have hp := hR.pos
  have hL := hR.at (i := ns.length - 1) (by omega)
  have hF := hR.at (i := 0) hp
  rw [show ns.length - 1 + 1 = ns.length by omega, if_pos rfl] at hL
  have c3 := hL.c3
  have lf := hL.free 3
  have f2 := hF.c2
  have ff := hF.free 2
  have ll := hL.lt
  have fl := hF.lt
  have HP := Lib.hid (fun W1 g h1 h2 h3 => hR.put (x, y) (W1 := W1) (g := g) h1 h2 h3)
  have hin : (∃ p ∈ ns, p.1 = (cyc ns 0).1) ∧ ∃ p ∈ ns, p.1 = (cyc ns (ns.length - 1)).1 := ⟨⟨_, cyc_mem hp _, rfl⟩, ⟨_, cyc_mem hp _, rfl⟩⟩
  have HI := Lib.hid hin
  have hq : (if 0 = 0 then cyc ns (ns.length - 1) else cyc ns (0 - 1)).1 = (cyc ns (ns.length - 1)).1 := rfl
  have hLF : (cyc ns (ns.length - 1)).1 ≠ (cyc ns 0).1 ∨ ns.length = 1 := by
    by_cases h1 : ns.length = 1
    · exact .inr h1
    · exact .inl (fun e => h1 (by have := hR.two _ _ (by omega) hp e; omega))
  generalize (cyc ns (ns.length - 1)).1 = L at *
  generalize (cyc ns 0).1 = F at *
  clear hL hF hin hq
  go_enter Tryd.func132, Tryd.ntmps132
  go_wp2
  go_region
  all_goals go_wp2
  all_goals refine bodyPost_end (results_none rfl _ _ _) rfl ?_
  all_goals
    have hN : Link ((w.alloc (.cells #[.int .i64 x, .int .i64 y] 26)).alloc (linkObj (x, y) L F)) (w.heap.size + 1) (x, y) L F := by
      have e : w.heap.size + 1 = (w.alloc (.cells #[.int .i64 x, .int .i64 y] 26)).heap.size := by simp
      rw [e]
      exact World.alloc_heap_new _ _
    have hW := HP.out _ (w.heap.size + 1) (by omega) hN (fun k hk => (Below.heap_alloc _ _ k (by simp; omega)).trans (Below.heap_alloc _ _ k hk))
    rw [World.setCell_alloc_past (n := F) (hn := by simp; omega), World.setCell_alloc_past (n := F) (hn := fl), World.setCell_alloc_past (n := L) (hn := by simp; omega), World.setCell_alloc_past (n := L) (hn := by simp; omega)] at hW
    refine ⟨⟨_, rfl⟩, w.heap.size + 1, by omega, ⟨hW.pos, hW.two, hW.link⟩, ?_⟩
    have T := (((Touched.of_below (ns := ns) (Below.refl w.heap.size w)).set (o := 2) HI.out.1 (.pointer (some ⟨w.heap.size + 1, 0, none⟩))).set (o := 3) HI.out.2 (.pointer (some ⟨w.heap.size + 1, 0, none⟩)))
    refine ⟨T.os, T.tape, T.output, by simp; omega, fun k hk hn => ?_⟩
    exact ((Below.heap_alloc _ _ k (by simp; omega)).trans (Below.heap_alloc _ _ k (by simpa using hk))).trans (T.block k hk hn)
end Go.Proofs.YtcieihbknfeddaaDoor

/- Regions that draw their order: in a round, from the plain walk; an operation by a law that speaks of lists. -/
namespace Go.Proofs.YtcieihbknfeddaaDoor
open Go.RowKit

theorem rows_round {l n : Nat} {P : Program} {row : String} {args : Array Value} {w : World} {R : Value → World → Prop} (h : Rows P row args w R) : RowsIn (Fence.wide.inRound l) n P row args w R :=
  fun c cs _ => let ⟨v, w', r, s⟩ := h c cs; ⟨v, w', r, stepsIn_wide.2 s⟩
theorem upon_round {l n : Nat} {P : Program} {o : Oper} {a : Act} {K : Act → World → Prop} {Q : Exit → Act → World → Prop} {r : Result Next} (h : o.upon P a K Q r) :
    o.uponIn (Fence.wide.inRound l) n P a K Q r := by
  cases r with
  | ok x w' =>
    cases x
    case enter f args =>
      refine ⟨fun h0 => absurd h0 Bool.false_ne_true, CallsIn.inRound l (callsIn_wide.2 (Calls.mono h ?_))⟩
      rintro e w'' he
      cases e <;> exact he
    case row row args => exact ⟨fun h0 => absurd h0 Bool.false_ne_true, rows_round h⟩
    all_goals first | exact h | exact h.elim
  | halt x w' => cases x <;> exact h
def noDefer (ops : Array Oper) : Prop := ∀ (j : Nat) (o : Oper), ops[j]? = some o → ∀ c, o.op ≠ .defer c
theorem wpOp_round {l n : Nat} {P : Program} {ops : Array Oper} {Q : Exit → Act → World → Prop} {i : Nat} {K K' : Act → World → Prop} {a : Act} {w : World}
    (hd : noDefer ops) (hL : ¬ LetsOut Q) (hK : ∀ a w, K a w → K' a w) (h : wpOp P ops Q i K a w) : wpOpIn (Fence.wide.inRound l) n P ops Q i K' a w := by
  have h2 := wpOp_mono hK h
  unfold wpOp at h2
  unfold wpOpIn
  cases ho : ops[i]? with
  | none => simp only [ho] at h2; exact h2
  | some o =>
    simp only [ho] at h2
    show if Region.wanted o (yielded ops a.tmps) then o.wpIn (Fence.wide.inRound l) n P a w K' Q else (∀ f, o.about P w a.eval = some f → (Fence.wide.inRound l).fn f) ∧ K' (a.put o.dst undef) w
    by_cases hw : Region.wanted o (yielded ops a.tmps) = true
    · rw [if_pos hw] at h2 ⊢
      rcases h2 with h2 | ⟨_, h2⟩
      · refine ⟨fun _ _ => trivial, ?_⟩
        rw [Oper.semAt_eq _ _ _ (hd i o ho)]
        exact upon_round h2
      · exact absurd h2 hL
    · rw [if_neg hw] at h2 ⊢
      exact ⟨fun _ _ => trivial, h2⟩
theorem wpAny_round {l n : Nat} {P : Program} {md : Region.Mode} {ops : Array Oper} {Q : Exit → Act → World → Prop} (hd : noDefer ops) (hL : ¬ LetsOut Q) :
    ∀ (fuel : Nat) (listed : Array Bool) (a : Act) (w : World), wpAny P md ops Q fuel listed a w → wpAnyIn (Fence.wide.inRound l) n P md ops Q fuel listed a w
  | 0, _, _, _, h => h
  | fuel + 1, _, _, _, h => ⟨h.1, fun i hi => wpOp_round hd hL (fun a' w' h' => wpAny_round hd hL fuel _ a' w' h') (h.2 i hi)⟩
/-- a region that draws its order, in a round, by the plain walk -/
theorem region_round {l n id : Nat} {P : Program} {ops : Array Oper} {Q : Exit → Act → World → Prop} {a : Act} {w : World} (hm : P.follows .mixedOrders = true) (hd : noDefer ops) (hL : ¬ LetsOut Q)
    (h : wpAny P .any ops Q ops.size (Array.replicate ops.size false) a w.drew) : (Code.region id ops true).wpIn (Fence.wide.inRound l) n P Q a w :=
  wpIn_region_any hm (wpAny_round hd hL _ _ _ _ h)
theorem undrew {w w' : World} (h : Below w.drew.heap.size w.drew w') : Below w.heap.size w w' := ⟨h.os, h.tape, h.output, h.size, h.block⟩
def notDefer : Op → Bool
  | .defer _ => false
  | _ => true
theorem noDefer_of {ops : Array Oper} (h : ops.all (fun o => notDefer o.op) = true) : noDefer ops := by
  intro j o hj c e
  obtain ⟨hlt, hk⟩ := Array.getElem?_eq_some_iff.1 hj
  have := Array.all_eq_true.1 h j hlt
  rw [hk, e] at this
  cases this
theorem wpAny_seq {P : Program} {md : Region.Mode} {ops : List Oper} {Q : Exit → Act → World → Prop} (k : Nat) {fuel : Nat} {listed : Array Bool} {a : Act} {w : World} (hf : fuel = ops.length - k)
    (hB : Region.seqB md ops.toArray (ops.length - k) k listed = true) (h : wpList P ops.toArray Q (ops.drop k) a w) : wpAny P md ops.toArray Q fuel listed a w := by
  subst hf
  have e : (ops.drop k).length = ops.length - k := List.length_drop
  have := wpAny_of_seq (md := md) (Q' := Q) (ops.drop k) k listed a w (fun j => by simp [List.getElem?_drop]) (by rw [e]; exact hB) h
  rwa [e] at this
/-- one operation as a list of one: for the laws that speak of lists -/
theorem step_list {P : Program} {ops : Array Oper} {o : Oper} {a : Act} {w : World} {K : Act → World → Prop} {Q : Exit → Act → World → Prop} {E : Prop} (hL : ¬ LetsOut Q) (hw : Region.wanted o (yielded ops a.tmps) = true)
    (h : wpList P ops (Exit.then K Q) [o] a w) : if Region.wanted o (yielded ops a.tmps) = true then Oper.wp P o a w K Q else E := by
  rw [if_pos hw]
  unfold wpList at h
  rw [if_pos hw] at h
  have hL' : ¬ LetsOut (Exit.then K Q) := fun ⟨a, w, h⟩ => hL ⟨a, w, h⟩
  rcases h with h | ⟨_, h⟩
  · unfold Oper.wp at h ⊢
    generalize (execOp a.eval o).run P w = r at h ⊢
    cases r with
    | ok x w' =>
      cases x
      case enter f args =>
        refine Calls.mono h ?_
        rintro e w'' he
        cases e
        · exact he
        · exact he
        · exact absurd he hL'
      all_goals exact h
    | halt x w' => cases x <;> exact h
  · exact absurd h hL'
end Go.Proofs.YtcieihbknfeddaaDoor
