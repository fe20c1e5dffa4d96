/- Fans: linked round from a list. -/
import Derived.Test.YtmencjdlfeojkaaDoorGb
import Derived.Test.YtmencjdlfeojkaaDoorGj
import Derived.Test.YtmencjdlfeojkaaDoorB7
namespace Go.Proofs.YtmencjdlfeojkaaDoor
open Go.RowKit

theorem ring_one (w : World) (p : V2) : Ring (w.alloc (linkObj p w.heap.size w.heap.size)) [(w.heap.size, p)] := by
  refine ring_mk (by simp) (fun i j hi hj _ => by simp at hi hj; omega) (fun i hi => ?_)
  simp at hi
  subst hi
  exact World.alloc_heap_new _ _
/-- a new fan with the rays l -/
def LinkedEnd (l : List V2) (w : World) (e : Ending) (w' : World) : Prop := ∃ g ns, e = .returned (.pointer (some ⟨g, 0, none⟩)) ∧ FanAt w' w.heap.size g ns ∧ rays ns = l ∧ Below w.heap.size w w'
set_option maxHeartbeats 8000000 in
theorem linked_any (v : Value) (l : List V2) (w : World) (hl : ReadsVecs w v l) (h0 : 0 < l.length) (hm : l.length ≤ 1000) :
    Calls Tryd.prog 106 #[v] w (LinkedEnd l w) := by
  obtain ⟨a, c, rfl, hc, _, hcell⟩ := hl
  obtain ⟨bb, off, rfl, hbb, hcs⟩ := hcell h0
  have k0 := (hcs 0 h0).1
  have k1 := (hcs 0 h0).2
  rw [Nat.zero_mul, Nat.add_zero] at k0 k1
  have HC := Lib.hid hcs
  have HRV := Lib.hid (fun wr k (h : k + 1 < l.length) (hb : Below w.heap.size w wr) => And.intro ((hb.cell (p := ⟨bb, off + (k + 1) * 2, none⟩) hbb).trans (hcs (k + 1) h).1) ((hb.cell (p := ⟨bb, off + (k + 1) * 2 + 1, none⟩) hbb).trans (hcs (k + 1) h).2))
  obtain ⟨m, hm'⟩ : ∃ m, m + 1 = l.length := ⟨l.length - 1, by omega⟩
  have HM := Lib.hid hm'
  have HT : Hid ([(w.heap.size, cyc l 0)].map (·.2) = l.take (0 + 1)) := by
    rw [List.take_add_one, cyc_get h0]
    rfl
  have HO := Lib.hid (ring_one w (cyc l 0))
  generalize hx : cyc l 0 = p at *
  obtain ⟨x, y⟩ := p
  dsimp only at k0 k1
  have hfl : m ≤ 999 := by omega
  have hcm : m + 1 ≤ c := by omega
  rw [← hm']
  clear hcs hm' hm hc hx h0
  have HE : Hid (∀ (W : World) (ns : List Node) (q : Nat), q = W.heap.size → Ring W ns → ns.map (·.2) = l → (∀ p ∈ ns, w.heap.size ≤ p.1) → Below w.heap.size w W → LinkedEnd l w (.returned (.pointer (some ⟨q, 0, none⟩))) (W.alloc (fanObj (cyc ns 0).1 ns.length))) := by
    rintro W ns q rfl hR hn hlow hb
    refine ⟨W.heap.size, ns, rfl, ⟨⟨hR.pos, hR.two, fun i => (hR.link i).alloc _⟩, World.alloc_heap_new _ _, fun p hp => Nat.ne_of_lt (hR.mem_lt hp), hlow, hb.size⟩, hn, hb.alloc hb.size _⟩
  have HL : Hid (∀ ns : List Node, ns.map (·.2) = l → ns.length = m + 1) := fun ns h => by
    have := congrArg List.length h
    rw [List.length_map] at this
    rw [this]
    exact HM.out.symm
  by_cases hm0 : m = 0
  · subst hm0
    have HX : Hid (rays [(w.heap.size, ((x, y) : V2))] = l) := HT.out.trans (List.take_of_length_le (by rw [← HM.out]; omega))
    go_enter Tryd.func106, Tryd.ntmps106
    go_wp2
    all_goals
      refine wp_loop_rounds 1 ?_
      rw [rounds_succ]
      go_wp2
      go_returns
      exact HE.out (w.alloc (linkObj (x, y) w.heap.size w.heap.size)) _ (w.heap.size + 1) (by simp) HO.out HX.out (fun p hp => by simp at hp; subst hp; exact Nat.le_refl _) ((Below.refl _ _).alloc (Nat.le_refl _) _)
  · have hc1 : ¬ c = 1 := by omega
    have hmp : 0 < m := by omega
    go_enter Tryd.func106, Tryd.ntmps106
    go_wp2
    go_loopw [27] (fun s wr => ∃ (k : Nat) (ns : List Node), s = .int .i64 k ∧ k ≤ m ∧ Hid (Ring wr ns ∧ ns.map (·.2) = l.take (k + 1) ∧ (∀ p ∈ ns, w.heap.size ≤ p.1) ∧ (cyc ns 0).1 = w.heap.size) ∧ Below w.heap.size w wr) (fun s _ => m - (intOf s).toNat)
    case atStart =>
      exact ⟨0, _, rfl, Nat.zero_le _, ⟨HO.out, HT.out, fun p hp => by simp at hp; subst hp; exact Nat.le_refl _, rfl⟩, (Below.refl _ _).alloc (Nat.le_refl _) _⟩
    case round =>
      obtain ⟨k, ns, rfl, hk, hR, hb⟩ := hrel
      by_cases hlt : k < m
      · obtain ⟨r1, r2, r3, r4⟩ := hR.out
        obtain ⟨d0, d1⟩ := HRV.out wr k (by have := HM.out; omega) hb
        have hF := r1.at (i := 0) r1.pos
        rw [if_pos rfl] at hF
        have f2 := hF.c2
        have ff := hF.free 2
        have fl := hF.lt
        rw [r4] at f2 ff fl
        have hbl := Nat.lt_of_lt_of_le hbb hb.size
        have HP := Lib.hid (fun W (hb' : Below wr.heap.size wr W) (u v : Int) => put_last ns u v W (r1.below hb'))
        have ea : off + (k + 1) * 2 = off + 2 + k * 2 := by omega
        rw [ea] at d0 d1
        have i1 : (0 : Int) ≤ (k : Int) := by omega
        have i2 : (k : Int) < (m : Int) := by omega
        generalize hz : cyc l (k + 1) = z at d0 d1
        obtain ⟨u, v⟩ := z
        dsimp only at d0 d1
        have HT2 : Hid (∀ g' : Nat, (ns ++ [(g', ((u, v) : V2))]).map (·.2) = l.take (k + 1 + 1)) := fun g' => by
          rw [List.map_append, r2, List.take_add_one (i := k + 1), cyc_get (by have := HM.out; omega), hz]
          rfl
        have H2 := Lib.hid (And.intro r3 (And.intro r4 r1.pos))
        clear r1 r2 r3 r4 hR hF hz
        generalize hq : (cyc ns (ns.length - 1)).1 = q at f2 HP
        clear hq
        go_wp2
        refine wp_region_any (by kernel_rfl) ?_
        try (change wpAny _ _ _ _ _ _ _ (World.drew _))
        refine wpAny_take (i := 0) (v := ?_) rfl (by kernel_rfl) (by kernel_rfl) (by kernel_rfl) (fun _ _ _ h => h) (Or.inl ⟨by rfl, ?_⟩) ?_
        rotate_left
        focus (intro w0; go_simp; try with_reducible rfl)
        refine wpAny_take (i := 1) (v := ?_) rfl (by kernel_rfl) (by kernel_rfl) (by kernel_rfl) (fun _ _ _ h => h) (Or.inl ⟨by rfl, ?_⟩) ?_
        rotate_left
        focus (intro w0; go_simp; try with_reducible rfl)
        refine wpAny_take (i := 2) (v := ?_) rfl (by kernel_rfl) (by kernel_rfl) (by kernel_rfl) (fun _ _ _ h => h) (Or.inl ⟨by rfl, ?_⟩) ?_
        rotate_left
        focus (intro w0; go_simp; try with_reducible rfl)
        refine wpAny_ready (rs := [3, 4]) (by kernel_rfl) (by simp) (AllReady.cons rfl (fun K hK => ?_) (AllReady.cons rfl (fun K hK => ?_) (AllReady.nil)))
        focus
          go_simp
          refine hK _ _ ?_
          clear hK K
          refine wpAny_ready (rs := [4]) (by kernel_rfl) (by simp) (AllReady.cons rfl (fun K hK => ?_) (AllReady.nil))
          go_simp
          refine hK _ _ ?_
          clear hK K
          refine wpAny_seq 5 rfl (by kernel_rfl) ?_
          simp only [List.drop_succ_cons, List.drop_zero]
        rotate_left 1
        focus
          go_simp
          refine hK _ _ ?_
          clear hK K
          refine wpAny_ready (rs := [3]) (by kernel_rfl) (by simp) (AllReady.cons rfl (fun K hK => ?_) (AllReady.nil))
          go_simp
          refine hK _ _ ?_
          clear hK K
          refine wpAny_seq 5 rfl (by kernel_rfl) ?_
          simp only [List.drop_succ_cons, List.drop_zero]
        all_goals
          go_wp2_with fail
          refine Calls.mono (HP.out _ (by go_grown) u v) ?_
          rintro e w4 ⟨⟨v', rfl⟩, g', hg', R4, T4⟩
          obtain ⟨s1, s2, s3⟩ := H2.out
          have hA : Below w.heap.size w (wr.alloc (.cells #[.int .i64 u, .int .i64 v] 36)).drew := (hb.alloc hb.size _).drew
          have hB := hA.trans (T4.below hA.size s1)
          have hgl : w.heap.size ≤ g' := Nat.le_trans hA.size hg'
          have HR := Lib.hid R4
          clear R4 T4 hA
          go_wp2
          go_roundw
          case rel =>
            refine ⟨_, _, _, _, _, _, _, _, _, _, _, _, ⟨k + 1, _, ?_, by omega, ⟨HR.out, HT2.out g', fun p hp => ?_, ?_⟩, hB⟩, rfl⟩
            · go_num
            · rcases List.mem_append.1 hp with hp | hp
              · exact s1 p hp
              · obtain rfl := List.mem_singleton.1 hp
                exact hgl
            · rw [cyc_snoc_lt s3]
              exact s2
          case measure => simp [intOf]; omega
      · obtain rfl : k = m := by omega
        obtain ⟨r1, r2, r3, r4⟩ := hR.out
        have e2 : ns.map (·.2) = l := r2.trans (List.take_of_length_le (by rw [← HM.out]; omega))
        have e3 := HL.out ns e2
        have HF := Lib.hid (HE.out wr ns _ rfl r1 e2 r3 hb)
        rw [r4, e3] at HF
        have i1 : ¬ (k : Int) < (k : Int) := by omega
        clear r1 r2 r3 r4 e2 e3 hR
        go_wp2
        go_returns
        exact HF.out
end Go.Proofs.YtmencjdlfeojkaaDoor
