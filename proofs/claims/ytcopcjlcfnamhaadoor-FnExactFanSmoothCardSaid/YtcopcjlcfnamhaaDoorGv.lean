/- Fans: the link with an index; a ray blown down. -/
import Derived.Test.YtcopcjlcfnamhaaDoorGj
import Derived.Test.YtcopcjlcfnamhaaDoorGt
import Derived.LaidEqlPtr
namespace Go.Proofs.YtcopcjlcfnamhaaDoor
open Go.RowKit

set_option maxHeartbeats 4000000 in
theorem at_in (base g : Nat) (ns : List Node) (m : Nat) (w : World) (hF : FanAt w base g ns) (hm : ns.length ≤ 1000) (hi : m < ns.length) :
    Calls Tryd.prog 50 #[.pointer (some ⟨g, 0, none⟩), .int .i64 m] w fun e w' => e = .returned (.pointer (some ⟨(cyc ns m).1, 0, none⟩)) ∧ w = w' := by
  have q0 := hF.head.c0
  have q1 := hF.head.c1
  have q2 := hF.head.lt
  have HL := Lib.hid (fun k => (hF.ring.link k).c3)
  have j1 : ¬ (m : Int) < 0 := by omega
  have j2 : (m : Int) < (ns.length : Int) := by omega
  have j3 : ¬ (ns.length : Int) ≤ (m : Int) := by omega
  have j4 : m ≤ 1000 := by omega
  go_enter Tryd.func50, Tryd.ntmps50
  go_wp2
  go_loop [5, 21] (fun p c => ∃ k : Nat, p = .pointer (some ⟨(cyc ns k).1, 0, none⟩) ∧ c = .int .i64 k ∧ k ≤ m) (fun _ c => m - (intOf c).toNat)
  case atStart => exact ⟨0, rfl, rfl, Nat.zero_le _⟩
  case round =>
    obtain ⟨k, rfl, rfl, hk⟩ := hrel
    by_cases hlt : k < m
    · have c3 := HL.out k
      have i1 : (k : Int) < (m : Int) := by omega
      go_wp2
      go_round
      case rel => exact ⟨k + 1, rfl, by go_num, by omega⟩
      case measure => simp [intOf]; omega
    · obtain rfl : k = m := by omega
      have i1 : ¬ (k : Int) < (k : Int) := by omega
      go_wp2
      go_returns
      exact ⟨rfl, rfl⟩
set_option maxHeartbeats 4000000 in
theorem at_out (base g : Nat) (ns : List Node) (i : Int) (w : World) (hF : FanAt w base g ns) (hi : i < 0 ∨ (ns.length : Int) ≤ i) :
    Calls Tryd.prog 50 #[.pointer (some ⟨g, 0, none⟩), .int .i64 i] w fun e w' => e = .returned (.pointer none) ∧ w = w' := by
  have q1 := hF.head.c1
  have q2 := hF.head.lt
  by_cases h : i < 0
  · go_enter Tryd.func50, Tryd.ntmps50
    go_wp2
    go_returns
    exact ⟨rfl, rfl⟩
  · have j2 : (ns.length : Int) ≤ i := by omega
    have j3 : ¬ i < 0 := h
    have j4 : decide (i < 0) = false := by simpa using h
    go_enter Tryd.func50, Tryd.ntmps50
    go_wp2
    go_returns
    exact ⟨rfl, rfl⟩
def TakeEnd (ns : List Node) (w : World) (e : Ending) (w' : World) : Prop := (∃ v, e = .returned v) ∧ Ring w' ns ∧ Touched ns w w'
set_option maxHeartbeats 4000000 in
theorem takeOut_last (ns : List Node) (p : Node) (w : World) (hR : Ring w (ns ++ [p])) (hp : 0 < ns.length) :
    Calls Tryd.prog 76 #[.pointer (some ⟨p.1, 0, none⟩)] w (TakeEnd ns w) := by
  have hl : (ns ++ [p]).length = ns.length + 1 := by simp
  have hP := hR.at (i := ns.length) (by omega)
  rw [hl, cyc_snoc_last, if_neg (by omega), if_pos rfl, cyc_snoc_lt (by omega), cyc_snoc_lt hp] at hP
  have hL := hR.at (i := ns.length - 1) (by omega)
  have hF := hR.at (i := 0) (by omega)
  rw [cyc_snoc_lt (by omega)] at hL hF
  have c2 := hP.c2
  have c3 := hP.c3
  have l3 := hL.c3
  have lf := hL.free 3
  have f2 := hF.c2
  have ff := hF.free 2
  have ll := hL.lt
  have fl := hF.lt
  have pl := hP.lt
  have n1 : p.1 ≠ (cyc ns (ns.length - 1)).1 := fun e => by
    have := hR.two ns.length (ns.length - 1) (by omega) (by omega) (by rw [cyc_snoc_last, cyc_snoc_lt (by omega)]; exact e)
    omega
  have n2 : p.1 ≠ (cyc ns 0).1 := fun e => by
    have := hR.two ns.length 0 (by omega) (by omega) (by rw [cyc_snoc_last, cyc_snoc_lt hp]; exact e)
    omega
  have HP := Lib.hid (hR.take hp)
  have hin : (∃ q ∈ ns, q.1 = (cyc ns 0).1) ∧ ∃ q ∈ ns, q.1 = (cyc ns (ns.length - 1)).1 := ⟨⟨_, cyc_mem hp _, rfl⟩, ⟨_, cyc_mem hp _, rfl⟩⟩
  have HI := Lib.hid hin
  generalize (cyc ns (ns.length - 1)).1 = L at *
  generalize (cyc ns 0).1 = F at *
  obtain ⟨P, pv⟩ := p
  dsimp only at c2 c3 pl n1 n2
  obtain ⟨u, hu⟩ : ∃ u, w.cell? ⟨F, 2, none⟩ = some u := ⟨_, f2⟩
  obtain ⟨u', hu'⟩ : ∃ u, w.cell? ⟨L, 3, none⟩ = some u := ⟨_, l3⟩
  clear hL hF hP hin f2 l3
  go_enter Tryd.func76, Tryd.ntmps76
  go_wp2
  go_region
  all_goals go_wp2
  all_goals go_region
  all_goals go_wp2
  all_goals refine bodyPost_end (results_none rfl _ _ _) rfl ?_
  all_goals
    have R := HP.out
    have T := ((Touched.of_below (ns := ns) (Below.refl w.heap.size w)).set (o := 3) HI.out.2 (.pointer (some ⟨F, 0, none⟩))).set (o := 2) HI.out.1 (.pointer (some ⟨L, 0, none⟩))
    exact ⟨⟨_, rfl⟩, ⟨R.pos, R.two, R.link⟩, ⟨T.os, T.tape, T.output, T.size, T.block⟩⟩

theorem Ring.mem {W : World} {ns : List Node} (h : Ring W ns) {p : Node} (hp : p ∈ ns) : ∃ a z, Link W p.1 p.2 a z := by
  obtain ⟨i, hi, rfl⟩ := List.mem_iff_getElem.1 hp
  have := h.link i
  rw [cyc_lt hi, List.getElem?_eq_getElem hi] at this
  exact ⟨_, _, this⟩
theorem infoLink : (Tryd.prog.info? 85).map (fun i => (i.zero, i.size, i.bytes)) = some (some (.agg #[.int .i64 0, .int .i64 0, .pointer none, .pointer none]), 4, 32) := by kernel_rfl
theorem eql_same (q : Nat) (w : World) : (binOp .eql 61 (.pointer (some ⟨q, 0, none⟩)) (.pointer (some ⟨q, 0, none⟩))).run Tryd.prog w = .ok (.bool true) w := by
  obtain ⟨j, hj, _⟩ := info_parts infoLink
  exact run_eql_ptr_same w _ Tryd.underlying61 hj
theorem eql_other {q q' : Nat} {w : World} {p p' : V2} {a z a' z' : Nat} (h : q ≠ q') (h1 : Link w q p a z) (h2 : Link w q' p' a' z') : (binOp .eql 61 (.pointer (some ⟨q, 0, none⟩)) (.pointer (some ⟨q', 0, none⟩))).run Tryd.prog w = .ok (.bool false) w := by
  obtain ⟨j, hj, _, hs, _⟩ := info_parts infoLink
  exact run_eql_ptr_other w Tryd.underlying61 hj (by rw [hs]; decide) (fun e => h (by cases e; rfl)) h1 h2
/-! a ray taken out of a list -/
def downL {α : Type} (l : List α) (i : Nat) : List α := l.take i ++ l.drop (i + 1)
theorem downL_len {α : Type} {l : List α} {i : Nat} (h : i < l.length) : (downL l i).length = l.length - 1 := by
  simp [downL]
  omega
theorem rays_down (ns : List Node) (i : Nat) : rays (downL ns i) = downL (rays ns) i := by simp [rays, downL, List.map_take, List.map_drop]
theorem rot_last {ns : List Node} {i : Nat} (h : i < ns.length) : rot (i + 1) ns = (ns.drop (i + 1) ++ ns.take i) ++ [cyc ns i] := by
  unfold rot
  rw [List.take_add_one, cyc_get h, List.append_assoc]
  rfl
theorem rot_down {ns : List Node} {i : Nat} : rot (ns.length - (i + 1)) (ns.drop (i + 1) ++ ns.take i) = downL ns i := by
  unfold rot downL
  rw [← List.length_drop, List.drop_left, List.take_left]
theorem down_zero {ns : List Node} {i : Nat} (h : i < ns.length) (h2 : 2 ≤ ns.length) : cyc (downL ns i) 0 = if i = 0 then cyc ns 1 else cyc ns 0 := by
  rw [cyc_lt (by rw [downL_len h]; omega)]
  unfold downL
  split
  · next e =>
    subst e
    rw [cyc_lt (by omega)]
    simp
  · rw [cyc_lt (by omega), List.getElem?_append_left (by simp; omega), List.getElem?_take_of_lt (by omega)]
theorem mem_down {ns : List Node} {i : Nat} {p : Node} (h : p ∈ downL ns i) : p ∈ ns := by
  unfold downL at h
  rcases List.mem_append.1 h with h | h
  · exact List.mem_of_mem_take h
  · exact List.mem_of_mem_drop h
set_option maxHeartbeats 4000000 in
theorem down_at (base g : Nat) (ns : List Node) (i : Nat) (w : World) (hF : FanAt w base g ns) (hm : ns.length ≤ 1000) (hi : i < ns.length) (h2 : 2 ≤ ns.length) (hbase : base ≤ w.heap.size) :
    Calls Tryd.prog 62 #[.pointer (some ⟨g, 0, none⟩), .pointer (some ⟨(cyc ns i).1, 0, none⟩)] w (TurnedEnd base g (downL ns i) w) := by
  have hR := hF.ring
  have hr := hR.rot (k := i + 1) (by omega)
  rw [rot_last hi] at hr
  have hml : (ns.drop (i + 1) ++ ns.take i).length = ns.length - 1 := by simp; omega
  have HT := Lib.hid (takeOut_last _ _ w hr (by omega))
  have hmem : ∀ p ∈ ns.drop (i + 1) ++ ns.take i, p ∈ ns := fun p hp => by
    rcases List.mem_append.1 hp with hp | hp
    · exact List.mem_of_mem_drop hp
    · exact List.mem_of_mem_take hp
  have hnot : ∀ p ∈ ns.drop (i + 1) ++ ns.take i, p.1 ≠ (cyc ns i).1 := fun p hp e => by
    obtain ⟨j, hj, rfl⟩ := List.mem_iff_getElem.1 hp
    have := hr.two j (ns.length - 1) (by simp; omega) (by simp; omega) (by
      rw [show ns.length - 1 = (ns.drop (i + 1) ++ ns.take i).length from hml.symm, cyc_snoc_last, cyc_snoc_lt hj, cyc_lt hj, List.getElem?_eq_getElem hj]
      exact e)
    omega
  have HD : Hid (∀ (w1 W : World) (a : Nat), Ring w1 (ns.drop (i + 1) ++ ns.take i) → Touched (ns.drop (i + 1) ++ ns.take i) w w1 → Below base w1 W → (∀ k, k ≠ g → W.heap[k]? = w1.heap[k]?) → Fan0 W g (cyc (downL ns i) 0).1 (ns.length - 1) → TurnedEnd base g (downL ns i) w (.returned (.tuple #[])) W) := by
    intro w1 W _ R1 T1 hb hk h0
    refine ⟨⟨_, rfl⟩, ⟨?_, ?_, fun p hp => hF.apart p (mem_down hp), fun p hp => hF.low p (mem_down hp), hF.lowg⟩, (T1.below hbase (fun p hp => hF.low p (hmem p hp))).trans hb⟩
    · rw [← rot_down]
      exact (R1.same (fun p hp => hk _ (hF.apart p (hmem p hp)))).rot (by omega)
    · rw [downL_len hi]
      exact h0
  have hz := down_zero hi h2
  have u0 := hF.head
  have hL := hR.link i
  have HU : Hid (∀ w1, Touched (ns.drop (i + 1) ++ ns.take i) w w1 → Fan0 w1 g (cyc ns 0).1 ns.length ∧ Link w1 (cyc ns i).1 (cyc ns i).2 (cyc ns (i + ns.length - 1)).1 (cyc ns (i + 1)).1) := fun w1 T =>
    ⟨(T.block g u0.lt (fun p hp => hF.apart p (hmem p hp))).trans u0, hL.same (T.block _ hL.lt hnot)⟩
  have HZ : Hid (∀ w1, Ring w1 (ns.drop (i + 1) ++ ns.take i) → i ≠ 0 → ∃ a z, Link w1 (cyc ns 0).1 (cyc ns 0).2 a z) := by
    intro w1 R h0
    refine R.mem (p := cyc ns 0) (List.mem_append_right _ ?_)
    rw [cyc_lt (by omega)]
    have hj : 0 < (ns.take i).length := by simp; omega
    have := List.getElem_mem hj
    rw [List.getElem_take] at this
    rwa [List.getElem?_eq_getElem (by omega)]
  have hne : i ≠ 0 → (cyc ns i).1 ≠ (cyc ns 0).1 := fun h e => h (hR.two i 0 hi (by omega) e)
  have hns : ((ns.length - 1 : Nat) : Int) = (ns.length : Int) - 1 := by omega
  clear hml hmem hnot hr hR hL u0
  by_cases h0 : i = 0
  · subst h0
    rw [if_pos rfl] at hz
    rw [hz] at HD
    clear hz hne
    generalize hq : (cyc ns 0).1 = q at *
    go_enter Tryd.func62, Tryd.ntmps62
    go_wp2_with fail
    refine Calls.mono HT.out ?_
    rintro e w1 ⟨⟨v, rfl⟩, R1, T1⟩
    obtain ⟨hF1, hL1⟩ := HU.out w1 T1
    have a0 := hF1.c0
    have a1 := hF1.c1
    have f0 := hF1.free 0
    have f1 := hF1.free 1
    have c3 := hL1.c3
    have al := hF1.lt
    have hE := fun w' => eql_same q w'
    have H3 := Lib.hid (HD.out w1 ((w1.setCell ⟨g, 0, none⟩ (.pointer (some ⟨(cyc ns (0 + 1)).1, 0, none⟩))).setCell ⟨g, 1, none⟩ (.int .i64 ((ns.length : Int) - 1))) 0 R1 T1 (((Below.refl base w1).setCell (p := ⟨g, 0, none⟩) hF.lowg _).setCell (p := ⟨g, 1, none⟩) hF.lowg _) (fun k hk => by rw [Below.heap_setCell _ _ _ k hk, Below.heap_setCell _ _ _ k hk]) (by
      have := (hF1.set0 (cyc ns (0 + 1)).1).set1 (ns.length - 1)
      rwa [hns] at this))
    clear R1 T1 hF1 hL1 HD HU HT hns HZ
    go_wp2
    refine bodyPost_end (results_none rfl _ _ _) rfl ?_
    have := H3.out
    exact ⟨⟨_, rfl⟩, this.2⟩
  · rw [if_neg h0] at hz
    rw [hz] at HD
    have hne' := hne h0
    clear hz hne
    generalize (cyc ns 0).1 = q at *
    generalize (cyc ns i).1 = qi at *
    go_enter Tryd.func62, Tryd.ntmps62
    go_wp2_with fail
    refine Calls.mono HT.out ?_
    rintro e w1 ⟨⟨v, rfl⟩, R1, T1⟩
    obtain ⟨hF1, hL1⟩ := HU.out w1 T1
    have a0 := hF1.c0
    have a1 := hF1.c1
    have f0 := hF1.free 0
    have f1 := hF1.free 1
    have al := hF1.lt
    obtain ⟨a', z', hL0⟩ := HZ.out w1 R1 h0
    have hE := eql_other hne' hL1 hL0
    have H3 := Lib.hid (HD.out w1 (w1.setCell ⟨g, 1, none⟩ (.int .i64 ((ns.length : Int) - 1))) 0 R1 T1 ((Below.refl base w1).setCell (p := ⟨g, 1, none⟩) hF.lowg _) (fun k hk => by rw [Below.heap_setCell _ _ _ k hk]) (by
      have := hF1.set1 (ns.length - 1)
      rwa [hns] at this))
    clear R1 T1 hF1 hL1 HD HU HT hns HZ
    go_wp2
    refine bodyPost_end (results_none rfl _ _ _) rfl ?_
    have := H3.out
    exact ⟨⟨_, rfl⟩, this.2⟩
end Go.Proofs.YtcopcjlcfnamhaaDoor
