/- The whole base: the program's ConeBase. -/
import Derived.Test.YtjlobpccnplebaaDoorVg
import Derived.Test.YtjlobpccnplebaaDoorVh
import Derived.Maps.OwnIn
namespace Go.Proofs.YtjlobpccnplebaaDoor
open Go.RowKit Go.Shelf

attribute [local go_sem] Oper.semAt_some

set_option maxHeartbeats 1000000 in
theorem base_in (n : Nat) (a b c d : Int) (w : World) :
    CallsIn Fence.wide n Tryd.prog 66 #[.agg #[.int .i64 (a), .int .i64 (b), .int .i64 (c), .int .i64 (d)]] w fun e w' => e = .returned (.func (.func 89) #[] #[.pointer (some ⟨w.heap.size, 0, none⟩)]) ∧ w' = w.alloc (.cells #[.int .i64 a, .int .i64 b, .int .i64 c, .int .i64 d] 26) := by
  refine callsIn_of_wp Tryd.func66 rfl trivial ?_ rfl
  simp only [Tryd.ntmps66, List.size_toArray, List.length_cons, List.length_nil, Nat.reduceAdd, Nat.reduceSub, Array.replicate_succ, Array.replicate_zero, List.push_toArray, List.append_toArray, List.nil_append, List.cons_append]
  gi_wp2
  go_ret
  exact ⟨rfl, rfl⟩

set_option linter.unusedSimpArgs false in
set_option maxRecDepth 100000 in
set_option maxHeartbeats 8000000 in
theorem coneBase_in (n : Nat) (hn : 3 ≤ n) (a b c d : Int) (w : World) (h : coneB a b c d = true) :
    CallsIn Fence.wide n Tryd.prog 29 #[.agg #[.int .i64 (a), .int .i64 (b), .int .i64 (c), .int .i64 (d)]] w (GivesVecsOk w (baseL a b c d) true) := by
  have h1 : 1 ≤ n := by omega
  have HLn := Lib.hid (baseL_len h)
  have HC := Lib.hid (fun w' => coneCheck_in a b c d w' h)
  have HS := Lib.hid (fun Bs W hc => base_seq (n - 1) (by omega) Bs a b c d h W hc)
  generalize hBL : baseL a b c d = BL at *
  refine callsIn_of_wp_marks Tryd.func29 rfl trivial ?_ rfl
  simp only [Tryd.ntmps29, List.size_toArray, List.length_cons, List.length_nil, Nat.reduceAdd, Nat.reduceSub, Array.replicate_succ, Array.replicate_zero, List.push_toArray, List.append_toArray, List.nil_append, List.cons_append]
  gi_wp2_with fail
  refine ⟨trivial, ?_⟩
  refine CallsIn.mono (callsIn_wide.2 (HC.out _)) ?_
  rintro e w1 ⟨rfl, hb1⟩
  obtain ⟨hc1, hf1⟩ := bcell hb1; have hz1 := bsize hb1
  gi_wp2_with fail
  refine ⟨trivial, ?_⟩
  refine CallsIn.mono (callsIn_wide.2 (none_nil _)) ?_
  rintro e w2 ⟨rfl, hb2⟩
  have hA : Below w.heap.size w w2 := belowTo (belowTo (by go_grown) hb1) hb2
  replace hb1 := belowTo hb1 hb2; clear hb2 hc1 hf1 hz1; obtain ⟨hc1, hf1⟩ := bcell hb1; have hz1 := bsize hb1
  gi_wp2_with fail
  refine ⟨trivial, ?_⟩
  refine CallsIn.mono (base_in _ a b c d _) ?_
  rintro e w3 ⟨rfl, rfl⟩
  have hsz := hA.size
  have bB := (Boxed.new w2 43 (.slice none 0 0)).alloc (.cells #[.int .i64 a, .int .i64 b, .int .i64 c, .int .i64 d] 26)
  have hc5 : ConeAt ((w2.alloc (.cells #[.slice none 0 0] 43)).alloc (.cells #[.int .i64 a, .int .i64 b, .int .i64 c, .int .i64 d] 26)) (w2.heap.size + 1) a b c d := by
    have e : w2.heap.size + 1 = (w2.alloc (.cells #[.slice none 0 0] 43)).heap.size := by simp
    rw [e]
    refine ⟨⟨?_, ?_, ?_, ?_⟩, ?_⟩ <;> simp
  have hA5 : Below w.heap.size w ((w2.alloc (.cells #[.slice none 0 0] 43)).alloc (.cells #[.int .i64 a, .int .i64 b, .int .i64 c, .int .i64 d] 26)) := by go_grown
  have hz5 : ((w2.alloc (.cells #[.slice none 0 0] 43)).alloc (.cells #[.int .i64 a, .int .i64 b, .int .i64 c, .int .i64 d] 26)).heap.size = w2.heap.size + 1 + 1 := by simp
  gi_wp2_with fail
  clear hc1 hf1 hz1 hb1
  generalize ((w2.alloc (.cells #[.slice none 0 0] 43)).alloc (.cells #[.int .i64 a, .int .i64 b, .int .i64 c, .int .i64 d] 26)) = W5 at *
  have HI := Lib.hid hA5
  obtain ⟨B, hBe⟩ : ∃ B, B = w2.heap.size := ⟨_, rfl⟩
  obtain ⟨Bs, hBse⟩ : ∃ Bs, Bs = w2.heap.size + 1 := ⟨_, rfl⟩
  rw [← hBse] at hc5
  rw [← hBe] at bB
  rw [← hBse, ← hBe]
  have hsB : w.heap.size ≤ B := by omega
  have hBB : Bs ≠ B := by omega
  have hBW : B < W5.heap.size := by omega
  have hBsW : Bs < W5.heap.size := by omega
  obtain ⟨i0, hi, hz0, hz1, hz2⟩ := info_parts infoVec
  have hwW : w.heap.size ≤ W5.heap.size := hA5.size
  clear hBL HC hBe hBse hz5 hsz hA HI
  refine wpIn_rangePriv h1 (gf := 89) (lb := #[.pointer (some ⟨Bs, 0, none⟩)]) rfl (enters_of Tryd.func89 (by kernel_rfl) rfl) hBsW (HS.out Bs W5 hc5) (fun _ => rfl)
    (BaseI w B Bs) (baseI_abides w B Bs) (fun X pre A l o o' hi hl ho hc => baseI_put o' hi (by omega) ho hc)
    ⟨⟨.slice none 0 0, bB, Vecs.nil _ _, fun k hk => by cases hk⟩, fun k hk => ⟨by omega, by omega⟩, hA5⟩
    (fun x bb => { tmps := #[.agg #[.int .i64 (a), .int .i64 (b), .int .i64 (c), .int .i64 (d)], .pointer (some ⟨w.heap.size, 0, none⟩), .slice none 0 0, .bool false, .pointer (some ⟨B, 0, none⟩), .pointer (some ⟨bb, 0, none⟩), .agg #[.int .i64 (a), .int .i64 (b), .int .i64 (c), .int .i64 (d)], .nilIface, .bool false, .agg #[.int .i64 (a), .int .i64 (b), .int .i64 (c), .int .i64 (d)], .func (.func 89) #[] #[.pointer (some ⟨Bs, 0, none⟩)], .agg #[.int .i64 (x.1), .int .i64 (x.2)], undef, undef, undef, undef, undef], defers := [] })
    (fun x => .cells #[.int .i64 x.1, .int .i64 x.2] 24) ?assign ?body ?done
  case assign =>
    intro l' x W K hK
    gi_wp2
    exact hK
  case body =>
    rintro l' X pre x V b hIV hXV hb hob hlen
    obtain ⟨⟨v, c4, hv, hap⟩, hX, hB⟩ := hIV
    have hbl : b < V.heap.size := (Array.getElem?_eq_some_iff.1 hob).1
    have k4 := c4.cell
    have f4 := c4.frozen
    have u0 : V.cell? ⟨b, 0, none⟩ = some (.int .i64 x.1) := by simp [World.cell?, hob]
    have u1 : V.cell? ⟨b, 1, none⟩ = some (.int .i64 x.2) := by simp [World.cell?, hob]
    have hown : V.ownsRow w.heap.size 24 2 _ _ _ := hv
    have hsz4 := hB.size
    have hpl : pre.length ≤ 2000002 := by have := HLn.out; omega
    gi_wp2_with (gi_at_builtin; refine wpListIn_append_own_at _ rfl _ _ 43 rfl w.heap.size 24 i0 (.agg #[.int .i64 (0), .int .i64 (0)]) 2 16 Tryd.underlying43 hi hz0 hz1 hz2 rfl (by decide) _ _ _ rfl (hown.alloc _) ⟨V.heap.size, 0, none⟩ 1 1 [.int .i64 x.1, .int .i64 x.2] rfl rfl ?c1 ?c2 ?c3 ?c4 ?c5 ?_)
    case c1 =>
      intro j u hj
      match j, hj with
      | 0, hj => simp at hj; subst hj; simp [Addr.add]
      | 1, hj => simp at hj; subst hj; simp [Addr.add]
    case c2 => intro u hu; simp at hu; rcases hu with rfl | rfl <;> rfl
    case c3 => unfold maxLen; omega
    case c4 => omega
    case c5 => simp; omega
    intro v' w5 hown' hgrow _ hat
    obtain ⟨sa, sl, sc, rfl⟩ : ∃ sa sl sc, v' = .slice sa sl sc := by rcases hown'.2 with ⟨e, _⟩ | ⟨g, cap, cur, e, _⟩ <;> exact ⟨_, _, _, e⟩
    have hV' : Vecs w5 w.heap.size (.slice sa sl sc) (pre ++ [x]) := Vecs.snoc rfl hown'
    have hlt : ∀ k, v.ownBlock = some k → k < V.heap.size := fun k hk => (hv.block k hk).2
    have c5 : Boxed w5 B 43 v := (c4.alloc _).kept hgrow (fun e => (hap B e.symm).2.1 rfl)
    have k5 := c5.cell
    have f5 := c5.frozen
    have eb : ∀ g, g < V.heap.size → (∀ kk, v.ownBlock = some kk → kk ≠ g) → w5.heap[g]? = V.heap[g]? := fun g hg hne =>
      (hgrow.block g (by simp; omega) (fun e => hne g e.symm rfl)).trans (Below.heap_alloc V _ g hg)
    have hsz5 : V.heap.size + 1 ≤ w5.heap.size := by have := hgrow.size; simpa using this
    have hgrow' := hgrow
    clear hown' hown
    gi_wp2
    refine ⟨((KeepsOthers.alloc V _).trans (KeepsOthers.of_grownBy hgrow' ?_)).trans (KeepsOthers.setCell _ _ _), ⟨fun k hk => ?_, ?_, ?_⟩, ⟨_, c5.set _, hV'.far (grown_set _ _ _ _) (fun k hk e => ?_), fun k hk => ?_⟩, hX, ?_⟩
    · intro j o hj ho
      obtain ⟨o2, e2, hc2⟩ := hv.cells j hj
      rw [Below.heap_alloc V _ j (hlt j hj), e2] at ho
      cases ho
      exact hc2
    · have hne := (hX k hk).2
      rw [Below.heap_setCell _ ⟨B, 0, none⟩ _ k hne]
      exact eb k (hXV k hk) (fun kk h2 e => (hap kk h2).1 (by rw [e]; exact hk))
    · rw [Below.heap_setCell _ ⟨B, 0, none⟩ _ Bs hBB]
      exact eb Bs (by omega) (fun kk h2 => (hap kk h2).2.2)
    · simp; omega
    · have e' : B = k := by cases e; rfl
      subst e'
      rcases hat with h2 | h2
      · exact (hap B (h2.symm.trans hk)).2.1 rfl
      · rw [hk] at h2
        have e3 : B = V.heap.size + 1 := by simpa using h2
        omega
    · rcases hat with h2 | h2
      · exact hap k (h2.symm.trans hk)
      · rw [hk] at h2
        have e3 : k = V.heap.size + 1 := by simpa using h2
        exact ⟨fun hx => by have := hXV k hx; omega, by omega, by omega⟩
    · exact ((hB.alloc hsz4 _).grown hgrow' (by simp; omega) (fun kk h => (hv.block kk h).1)).setCell (p := ⟨B, 0, none⟩) hsB _
  case done =>
    rintro D X xs W hD rfl ⟨⟨v, c4, hv, hap⟩, hX, hB⟩ hK
    have k4 := c4.cell
    have hgr := grownBy_putObj' W D (.deferred none)
    have hV : Vecs (W.putObj D (.deferred none)) w.heap.size v xs := hv.far hgr (fun k hk e => by
      cases e
      obtain ⟨o2, e2, hc2⟩ := hv.cells _ hk
      rw [e2] at hK
      cases hK
      cases hc2)
    have hB2 : Below w.heap.size w (W.putObj D (.deferred none)) := hB.grown hgr hB.size (fun k e => by cases e; omega)
    gi_wp2
    refine ⟨by simp, .inl ⟨_, _, rfl, run_takeDeferred hK, ?_⟩⟩
    refine ⟨.tuple #[v, .bool true], ?_, _, rfl, hV, hB2⟩
    simp [results, Tryd.f29, go_sem]
set_option maxHeartbeats 4000000 in
theorem coneBase_any (a b c d : Int) (w : World) (hg : EtOk w) :
    Calls Tryd.prog 29 #[.agg #[.int .i64 (a), .int .i64 (b), .int .i64 (c), .int .i64 (d)]] w (GivesVecsOk w (gateV (coneB a b c d) (baseL a b c d)) (coneB a b c d)) := by
  cases h : coneB a b c d
  · go_enter Tryd.func29, Tryd.ntmps29
    go_wp2_with fail
    go_call (coneCheck_out a b c d _ h) as e w1 ⟨⟨s, rfl⟩, hb1⟩
    obtain ⟨hc1, hf1⟩ := bcell hb1; have hz1 := bsize hb1
    (go_wp2_with fail; go_call (none_hit _ _ (hg.below (belowTo (a := w) (by go_grown) hb1))) as e w2 ⟨rfl, hb2⟩); replace hb1 := belowTo hb1 hb2; clear hb2 hc1 hf1 hz1; obtain ⟨hc1, hf1⟩ := bcell hb1; have hz1 := bsize hb1
    go_wp2
    go_returns
    exact ⟨_, rfl, Vecs.nil _ _, belowTo (by go_grown) hb1⟩
  · exact callsIn_wide.1 (coneBase_in 3 (by omega) a b c d w h)
end Go.Proofs.YtjlobpccnplebaaDoor
