/- Divisors: made, told; the program. -/
import Derived.Test.YtmencjdlfeojkaaDoorQb
import Derived.Test.YtmencjdlfeojkaaDoorGy
namespace Go.Proofs.YtmencjdlfeojkaaDoor
open Go.RowKit

/-- what 'made' hands back of a divisor -/
def mkDiv (b : Bool) (g : Nat) (v : Value) : Value := .agg #[.pointer (if b then some ⟨g, 0, none⟩ else none), if b then v else .slice none 0 0]
set_option maxHeartbeats 4000000 in
theorem madeDiv_any (g n : Nat) (v : Value) (d : List Int) (w : World) (hg : EtOk w) (c1 : w.cell? ⟨g, 1, none⟩ = some (.int .i64 n)) (h : ReadsInts w v d) (hn : n ≤ 1000) :
    Calls Tryd.prog 53 #[.agg #[.pointer (some ⟨g, 0, none⟩), v]] w fun e w' => e = .returned (.tuple #[mkDiv (fitB n d) g v, .bool (fitB n d)]) ∧ Below w.heap.size w w' := by
  have q1 := World.block_lt_of_cell? w _ c1
  have HC := Lib.hid (fun w' (hb : Below w.heap.size w w') => divCheck_any g n v d w' ((hb.cell (p := ⟨g, 1, none⟩) q1).trans c1) (h.below hb) hn)
  obtain ⟨a, c, rfl, _⟩ := h.len
  clear h c1 q1
  generalize fitB n d = b at HC
  cases b
  · go_enter Tryd.func53, Tryd.ntmps53
    go_wp2_with fail
    refine Calls.mono (HC.out _ (by go_grown)) ?_
    rintro e w1 ⟨he, hb1⟩
    obtain ⟨s, rfl⟩ : IsNone e := he
    obtain ⟨hc1, hf1⟩ := bcell hb1; have hz1 := bsize hb1
    go_wp2_with fail
    refine Calls.mono (none_hit s _ (hg.below (belowTo (by go_grown) hb1))) ?_
    rintro e w2 ⟨rfl, hb2⟩
    replace hb1 := belowTo hb1 hb2; clear hb2 hc1 hf1 hz1; obtain ⟨hc1, hf1⟩ := bcell hb1; have hz1 := bsize hb1
    go_wp2
    have hB := belowTo (a := w) (by go_grown) hb1; have hS := hB.size; (refine bodyPost_ret (by simp [results, Tryd.results53, go_sem, bcs hb1]; try rfl) rfl ?_); clear hb1
    exact ⟨rfl, by go_grown⟩
  · go_enter Tryd.func53, Tryd.ntmps53
    go_wp2_with fail
    refine Calls.mono (HC.out _ (by go_grown)) ?_
    rintro e w1 ⟨he, hb1⟩
    obtain rfl : e = .returned .nilIface := he
    obtain ⟨hc1, hf1⟩ := bcell hb1; have hz1 := bsize hb1
    go_wp2_with fail
    refine Calls.mono (none_nil _) ?_
    rintro e w2 ⟨rfl, hb2⟩
    replace hb1 := belowTo hb1 hb2; clear hb2 hc1 hf1 hz1; obtain ⟨hc1, hf1⟩ := bcell hb1; have hz1 := bsize hb1
    go_wp2
    have hB := belowTo (a := w) (by go_grown) hb1; have hS := hB.size; (refine bodyPost_ret (by simp [results, Tryd.results53, go_sem, bcs hb1]; try rfl) rfl ?_); clear hb1
    exact ⟨rfl, by go_grown⟩
set_option maxHeartbeats 4000000 in
theorem told_any (g n : Nat) (v : Value) (d : List Int) (w : World) (hg : EtOk w) (c1 : w.cell? ⟨g, 1, none⟩ = some (.int .i64 n)) (h : ReadsInts w v d) (hn : n ≤ 1000) :
    Calls Tryd.prog 42 #[.agg #[.pointer (some ⟨g, 0, none⟩), v]] w fun e w' => e = .returned (.tuple #[if fitB n d then v else .slice none 0 0, .bool (fitB n d)]) ∧ Below w.heap.size w w' := by
  have q1 := World.block_lt_of_cell? w _ c1
  have HM := Lib.hid (fun w' (hb : Below w.heap.size w w') => madeDiv_any g n v d w' (hg.below hb) ((hb.cell (p := ⟨g, 1, none⟩) q1).trans c1) (h.below hb) hn)
  obtain ⟨a, c, rfl, _⟩ := h.len
  clear h c1 q1 hg
  generalize fitB n d = b at HM
  unfold mkDiv at HM
  cases b
  all_goals
    simp only [if_true, Bool.false_eq_true, if_false] at HM
    go_enter Tryd.func42, Tryd.ntmps42
    go_wp2_with fail
    refine Calls.mono (HM.out _ (by go_grown)) ?_
    rintro e w1 ⟨rfl, hb1⟩
    have hB : Below w.heap.size w w1 := belowTo (by go_grown) hb1
    have hs := hB.size
    clear hb1
    go_wp2
    go_returns
    exact ⟨rfl, by go_grown⟩
theorem FanAt.far {W : World} {base g k o : Nat} {ns : List Node} (h : FanAt W base g ns) (hk : k < base) (u : Value) : FanAt (W.setCell ⟨k, o, none⟩ u) base g ns :=
  ⟨h.ring.same (fun p hp => Below.heap_setCell W ⟨k, o, none⟩ u p.1 (by have := h.low p hp; show p.1 ≠ k; omega)), (Below.heap_setCell W ⟨k, o, none⟩ u g (by have := h.lowg; show g ≠ k; omega)).trans h.head, h.apart, h.low, h.lowg⟩
/-- a divisor with the rays l and the numbers that v holds, if it is one -/
def DivEnd (b : Bool) (l : List V2) (v : Value) (w : World) (e : Ending) (w' : World) : Prop :=
  ((b = true ∧ ∃ g ns, e = .returned (.tuple #[.agg #[.pointer (some ⟨g, 0, none⟩), v], .bool true]) ∧ FanAt w' w.heap.size g ns ∧ rays ns = l) ∨ (b = false ∧ e = .returned (.tuple #[.agg #[.pointer none, .slice none 0 0], .bool false]))) ∧ Below w.heap.size w w'
set_option maxHeartbeats 4000000 in
theorem divisorOf_any (v u : Value) (l : List V2) (d : List Int) (w : World) (hl : ReadsVecs w v l) (hd : ReadsInts w u d) (hg : EtOk w) :
    Calls Tryd.prog 31 #[v, u] w (DivEnd (divB l d) l u w) := by
  have HO := Lib.hid (fun w' (hb : Below w.heap.size w w') => smoothFanOf_any v l w' (hl.below hb) (hg.below hb))
  have HS := Lib.hid (fun (ns : List Node) h hn => fan_small (l := l) (ns := ns) (smooth_in h).1 hn)
  have HM := Lib.hid (fun g ns w' (hb : Below w.heap.size w w') (hF : Fan0 w' g (cyc ns 0).1 (ns : List Node).length) hs => madeDiv_any g ns.length u d w' (hg.below hb) hF.c1 (hd.below hb) hs)
  have HD : Hid (∀ n, n = l.length → smoothB l = true → divB l d = fitB n d) := fun n hn h => by simp [divB, fitB, h, hn]
  have HF : Hid (smoothB l = false → divB l d = false) := fun h => by simp [divB, h]
  obtain ⟨a, c, rfl, _⟩ := hd.len
  clear hl hd
  generalize hb : smoothB l = b at *
  cases b
  · rw [HF.out (by simp)]
    clear HD HF HM HS hb
    go_enter Tryd.func31, Tryd.ntmps31
    go_wp2_with fail
    refine Calls.mono (HO.out _ (by go_grown)) ?_
    rintro e w1 ⟨⟨h, _⟩ | ⟨_, rfl⟩, hb1⟩
    · cases h
    have hB : Below w.heap.size w w1 := belowTo (by go_grown) hb1
    obtain ⟨hc1, hf1⟩ := bcell hb1; have hz1 := bsize hb1
    go_wp2
    refine bodyPost_ret (by simp [results, Tryd.results31, go_sem, *]; try rfl) rfl ?_
    exact ⟨.inr ⟨rfl, rfl⟩, by go_grown⟩
  · clear HF hb
    have HH := Lib.hid (rfl : l = l)
    go_enter Tryd.func31, Tryd.ntmps31
    go_wp2_with fail
    refine Calls.mono (HO.out _ (by go_grown)) ?_
    rintro e w1 ⟨⟨_, g, ns, rfl, hF, hn⟩ | ⟨h, _⟩, hb1⟩
    · obtain ⟨hs, hnl⟩ := HS.out ns (by simp) hn
      have hB : Below w.heap.size w w1 := belowTo (by go_grown) hb1
      have HX := Lib.hid (HM.out g ns w1 hB hF.head hs)
      have HDn := Lib.hid (HD.out ns.length hnl (by simp))
      have HFn := Lib.hid (fun w2 (hb : Below w1.heap.size w1 w2) => (hF.below hb).lower (base' := w.heap.size + 1) (by simp))
      have HN := Lib.hid hn
      generalize fitB ns.length d = k at HX HDn
      unfold mkDiv at HX
      clear HD HM HO HS hF hn hnl hs
      obtain ⟨hc1, hf1⟩ := bcell hb1; have hz1 := bsize hb1
      cases k
      · simp only [Bool.false_eq_true, if_false] at HX
        go_wp2_with fail
        refine Calls.mono HX.out ?_
        rintro e w2 ⟨rfl, hb2⟩
        have hB2 := belowTo hB hb2
        replace hb1 := belowTo hb1 hb2; clear hb2 hc1 hf1 hz1; obtain ⟨hc1, hf1⟩ := bcell hb1; have hz1 := bsize hb1
        go_wp2
        refine bodyPost_ret (by simp [results, Tryd.results31, go_sem, *]; try rfl) rfl ?_
        exact ⟨.inr ⟨HDn.out, rfl⟩, by go_grown⟩
      · simp only [if_true] at HX
        go_wp2_with fail
        refine Calls.mono HX.out ?_
        rintro e w2 ⟨rfl, hb2⟩
        have hB2 := belowTo hB hb2
        have HF2 := Lib.hid (HFn.out w2 hb2)
        replace hb1 := belowTo hb1 hb2; clear hb2 hc1 hf1 hz1; obtain ⟨hc1, hf1⟩ := bcell hb1; have hz1 := bsize hb1
        go_wp2
        refine bodyPost_ret (by simp [results, Tryd.results31, go_sem, *]; try rfl) rfl ?_
        exact ⟨.inl ⟨HDn.out, g, ns, rfl, FanAt.lower (base := w.heap.size + 1) (by first | exact HF2.out | exact HF2.out.far (Nat.lt_succ_self _) _ | exact (HF2.out.far (Nat.lt_succ_self _) _).far (Nat.lt_succ_self _) _) (by omega), HN.out⟩, by go_grown⟩
    · cases h
end Go.Proofs.YtmencjdlfeojkaaDoor
