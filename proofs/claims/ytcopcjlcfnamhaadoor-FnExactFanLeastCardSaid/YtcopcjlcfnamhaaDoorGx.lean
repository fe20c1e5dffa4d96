/- Fans: the first ray that can be blown down. -/
import Derived.Test.YtcopcjlcfnamhaaDoorGw
namespace Go.Proofs.YtcopcjlcfnamhaaDoor
open Go.RowKit Go.Shelf

attribute [local go_sem] Oper.semAt_some

def downB (l : List V2) (i : Nat) : Bool := decide (3 < l.length) && (numZ l i == -1)
set_option maxHeartbeats 4000000 in
theorem canDown_any (base g : Nat) (ns : List Node) (i : Nat) (w : World) (hF : FanAt w base g ns) (hm : ns.length ≤ 1000) (hv : allVec (rays ns)) :
    Calls Tryd.prog 61 #[.pointer (some ⟨g, 0, none⟩), .pointer (some ⟨(cyc ns i).1, 0, none⟩)] w fun e w' => e = .returned (.bool (downB (rays ns) i)) ∧ Below w.heap.size w w' := by
  have q0 := hF.head.c1
  have q1 := hF.head.lt
  have HN := Lib.hid (fun w' (hb : Below w.heap.size w w') => number_any ns i w' (hF.ring.below hb) hv)
  unfold downB
  rw [rays_len]
  generalize numZ (rays ns) i = z at HN
  generalize (cyc ns i).1 = q at HN
  by_cases h : 3 < ns.length
  · have j1 : (3 : Int) < (ns.length : Int) := by omega
    go_enter Tryd.func61, Tryd.ntmps61
    go_wp2_with fail
    refine Calls.mono (HN.out _ (Below.refl _ _)) ?_
    rintro e w1 ⟨rfl, hb1⟩
    go_wp2
    go_returns
    exact ⟨by simp [h], hb1⟩
  · have hd : decide (3 < ns.length) = false := by simpa using h
    have j1 : ¬ (3 : Int) < (ns.length : Int) := by omega
    have j2 : decide ((3 : Int) < (ns.length : Int)) = false := by simpa using j1
    clear HN
    go_enter Tryd.func61, Tryd.ntmps61
    go_wp2
    go_returns
    exact ⟨rfl, Below.refl _ _⟩
def DownI (w w0 : World) (ns : List Node) (pre : List Nat) (W : World) : Prop :=
  (Boxed W (w.heap.size + 1) 61 (.pointer none) ∧ ∀ i ∈ pre, downB (rays ns) i = false) ∧ Below (w.heap.size + 1) w0 W
def DownX (w w0 : World) (ns : List Node) (c : Code) (pre : List Nat) (W : World) : Prop :=
  ((c = .ret ∧ ∃ p x, pre = p ++ [x] ∧ (∀ i ∈ p, downB (rays ns) i = false) ∧ downB (rays ns) x = true) ∧ ∃ x p, pre = p ++ [x] ∧ Boxed W (w.heap.size + 1) 61 (.pointer (some ⟨(cyc ns x).1, 0, none⟩))) ∧ Below (w.heap.size + 1) w0 W
theorem downI_own (w w0 : World) (ns : List Node) {k : Nat} (h0 : w.heap.size + 1 ≤ w0.heap.size) (h : w.heap.size + 1 ≤ k) : OwnFrom k (DownI w w0 ns) :=
  OwnFrom.and (OwnFrom.and (Own.from (ownErr _ _ _) _) (ownFrom_pure k (fun pre => ∀ i ∈ pre, downB (rays ns) i = false))) (ownFrom_below h0 h)
theorem downX_own (w w0 : World) (ns : List Node) (c : Code) {k : Nat} (h0 : w.heap.size + 1 ≤ w0.heap.size) (h : w.heap.size + 1 ≤ k) : OwnFrom k (DownX w w0 ns c) := by
  refine OwnFrom.and (OwnFrom.and (ownFrom_pure k (fun pre => c = .ret ∧ ∃ p x, pre = p ++ [x] ∧ (∀ i ∈ p, downB (rays ns) i = false) ∧ downB (rays ns) x = true)) ?_) (ownFrom_below h0 h)
  rintro s X Y row ⟨x, p, rfl, hb⟩ hg hr
  exact ⟨x, p, rfl, ownErr _ _ _ (p ++ [x]) X Y row hb hg (fun r e => (hr r e).2)⟩
/-- the first link whose ray can be blown down, or none -/
def DownEnd (ns : List Node) (e : Ending) : Prop :=
  (∃ k, k < ns.length ∧ e = .returned (.pointer (some ⟨(cyc ns k).1, 0, none⟩)) ∧ downB (rays ns) k = true ∧ ∀ i, i < k → downB (rays ns) i = false) ∨ (e = .returned (.pointer none) ∧ ∀ i, i < ns.length → downB (rays ns) i = false)
set_option maxHeartbeats 8000000 in
theorem firstDown_in (n : Nat) (hn : 3 ≤ n) (base g : Nat) (ns : List Node) (w : World) (hF : FanAt w base g ns) (hm : ns.length ≤ 1000) (hv : allVec (rays ns)) :
    CallsIn Fence.wide n Tryd.prog 63 #[.pointer (some ⟨g, 0, none⟩)] w fun e w' => DownEnd ns e ∧ Below w.heap.size w w' := by
  have h1 : 1 ≤ n := by omega
  have hd : 1 ≤ n - 1 - 1 := by omega
  have hR := hF.ring
  have hp := hR.pos
  refine callsIn_of_wp_marks Tryd.func63 rfl trivial ?_ rfl
  simp only [Tryd.ntmps63, List.size_toArray, List.length_cons, List.length_nil, Nat.reduceAdd, Nat.reduceSub, Array.replicate_succ, Array.replicate_zero, List.push_toArray, List.append_toArray, List.nil_append, List.cons_append]
  gi_wp2_with fail
  refine ⟨trivial, ?_⟩
  refine CallsIn.mono (links_in _ g _) ?_
  rintro e w3 ⟨rfl, rfl⟩
  have bR := (Boxed.new (w.alloc (.cells #[.pointer (some ⟨g, 0, none⟩)] 55)) 61 (.pointer none)).alloc (.cells #[.pointer (some ⟨g, 0, none⟩)] 55)
  have bF := Boxed.new ((w.alloc (.cells #[.pointer (some ⟨g, 0, none⟩)] 55)).alloc (.cells #[.pointer none] 61)) 55 (.pointer (some ⟨g, 0, none⟩))
  have q0 : (w.alloc (.cells #[.pointer (some ⟨g, 0, none⟩)] 55)).cell? ⟨w.heap.size, 0, none⟩ = some (.pointer (some ⟨g, 0, none⟩)) := by simp
  have hw0 : Below w.heap.size w (w.alloc (.cells #[.pointer (some ⟨g, 0, none⟩)] 55)) := by go_grown
  have hA0 : Below w.heap.size w (((w.alloc (.cells #[.pointer (some ⟨g, 0, none⟩)] 55)).alloc (.cells #[.pointer none] 61)).alloc (.cells #[.pointer (some ⟨g, 0, none⟩)] 55)) := by go_grown
  have hA : Below (w.heap.size + 1) (w.alloc (.cells #[.pointer (some ⟨g, 0, none⟩)] 55)) (((w.alloc (.cells #[.pointer (some ⟨g, 0, none⟩)] 55)).alloc (.cells #[.pointer none] 61)).alloc (.cells #[.pointer (some ⟨g, 0, none⟩)] 55)) := by go_grown
  have hz5 : (((w.alloc (.cells #[.pointer (some ⟨g, 0, none⟩)] 55)).alloc (.cells #[.pointer none] 61)).alloc (.cells #[.pointer (some ⟨g, 0, none⟩)] 55)).heap.size = w.heap.size + 1 + 1 + 1 := by simp
  have hz0 : (w.alloc (.cells #[.pointer (some ⟨g, 0, none⟩)] 55)).heap.size = w.heap.size + 1 := by simp
  simp only [World.size_alloc] at bF bR
  gi_wp2_with fail
  generalize (((w.alloc (.cells #[.pointer (some ⟨g, 0, none⟩)] 55)).alloc (.cells #[.pointer none] 61)).alloc (.cells #[.pointer (some ⟨g, 0, none⟩)] 55)) = W5 at *
  generalize (w.alloc (.cells #[.pointer (some ⟨g, 0, none⟩)] 55)) = w0 at *
  refine wpIn_links (by omega) rfl bF.cell hA0.size (hF.below hA0) (fun p hp => hR.mem_lt hp) (by omega) rfl (DownI w w0 ns) (DownX w w0 ns) (downI_own w w0 _ (by omega) (by omega)) (fun c => downX_own w w0 _ c (by omega) (by omega))
    ⟨⟨bR, fun i hi => by cases hi⟩, hA⟩ ?a₁ ?assign ?body ?done ?stop
  case assign =>
    intro l x W K hK
    gi_wp2
    exact hK
  case body =>
    rintro l pre x W ⟨⟨hr, hq⟩, hb⟩ hlen
    have hbw : Below w.heap.size w W := hw0.trans (hb.mono (by omega))
    have rl := hr.lt
    have HC := Lib.hid (canDown_any base g ns x W (hF.below hbw) hm hv)
    have HQ := Lib.hid hq
    have rr := hr.cell
    have rf := hr.frozen
    have a0 : W.cell? ⟨w.heap.size, 0, none⟩ = some (.pointer (some ⟨g, 0, none⟩)) := (hb.cell (p := ⟨w.heap.size, 0, none⟩) (by simp)).trans q0
    have al : w.heap.size < W.heap.size := by omega
    clear hq q0
    generalize hk : downB (rays ns) x = k at HC
    have HK := Lib.hid hk
    clear hk
    gi_wp2_with fail
    refine ⟨trivial, ?_⟩
    refine CallsIn.mono (CallsIn.inRound l (callsIn_wide.2 HC.out)) ?_
    rintro e w2 ⟨rfl, hb'⟩
    have hr3 : Boxed w2 (w.heap.size + 1) 61 (.pointer none) := (hb'.block _ rl).trans hr
    have rr3 := hr3.cell
    have rf3 := hr3.frozen
    have KO := Lib.hid (KeepsOthers.of_grownBy (grown_of_below hb' none) (fun _ _ e _ => by cases e))
    have hW2 := hb.trans (hb'.mono (by omega))
    have hbW := hb'.mono (B' := w.heap.size) (by omega)
    clear hb'
    cases k
    · have HX : Hid (∀ i ∈ pre ++ [x], downB (rays ns) i = false) := fun i hi => by
        rcases List.mem_append.1 hi with hi | hi
        · exact HQ.out i hi
        · obtain rfl := List.mem_singleton.1 hi
          exact HK.out
      gi_wp2
      exact ⟨KO.out, hbW, ⟨hr3, HX.out⟩, hW2⟩
    · gi_wp2
      exact ⟨KO.out.trans (KeepsOthers.setCell _ _ _), ⟨⟨rfl, pre, x, rfl, HQ.out, HK.out⟩, x, pre, rfl, hr3.set _⟩, hW2.setCell (p := ⟨w.heap.size + 1, 0, none⟩) (by simp) _⟩
  case done =>
    rintro D W hD ⟨⟨hr, hq⟩, hb⟩ hK
    have HE : Hid (DownEnd ns (.returned (.pointer none))) := .inr ⟨rfl, fun i hi => hq i (List.mem_range.2 hi)⟩
    have rr := hr.cell
    have rf := hr.frozen
    have hK' : (W.setCell ⟨w.heap.size + 1, 0, none⟩ (.pointer none)).heap[D]? = some (.deferred (some [])) := (Below.heap_setCell W ⟨w.heap.size + 1, 0, none⟩ _ D (by simp; omega)).trans hK
    have kk := (boxed_putObj (hr.set (.pointer none)) (.deferred none) hK' rfl).cell
    have hbw : Below w.heap.size w W := hw0.trans (hb.mono (by omega))
    have hB2 : Below w.heap.size w ((W.setCell ⟨w.heap.size + 1, 0, none⟩ (.pointer none)).putObj D (.deferred none)) := (hbw.setCell (p := ⟨w.heap.size + 1, 0, none⟩) (by simp) (.pointer none)).grown (grownBy_putObj' _ D (.deferred none)) (by simpa using hbw.size) (fun k e => by cases e; omega)
    have hKK := Lib.hid hK'
    clear hK hK' hq
    gi_wp2
    refine ⟨by simp, .inl ⟨_, _, rfl, run_takeDeferred hKK.out, ?_⟩⟩
    exact ⟨.pointer none, by simp [results, Tryd.f63, go_sem, kk], HE.out, hB2⟩
  case stop =>
    rintro D c pre W hD hpre ⟨⟨⟨rfl, p, x, rfl, hq, hx⟩, x', p', hpp, hr⟩, hb⟩ hK
    obtain ⟨rfl, hxn⟩ := prefix_range hpre
    obtain ⟨-, e2⟩ := List.append_inj' hpp rfl
    obtain rfl : x = x' := by simpa using e2
    have HE : Hid (DownEnd ns (.returned (.pointer (some ⟨(cyc ns x).1, 0, none⟩)))) := .inl ⟨x, hxn, rfl, hx, fun i hi => hq i (List.mem_range.2 hi)⟩
    have kk := (boxed_putObj hr (.deferred none) hK rfl).cell
    have hbw : Below w.heap.size w W := hw0.trans (hb.mono (by omega))
    have hB2 : Below w.heap.size w (W.putObj D (.deferred none)) := hbw.grown (grownBy_putObj' _ D (.deferred none)) hbw.size (fun k e => by cases e; omega)
    have hKK := Lib.hid hK
    clear hK hpp e2 hpre hq
    gi_wp2
    refine ⟨by simp, .inl ⟨_, _, rfl, run_takeDeferred hKK.out, ?_⟩⟩
    exact ⟨.pointer (some ⟨(cyc ns x).1, 0, none⟩), by simp [results, Tryd.f63, go_sem, kk], HE.out, hB2⟩
end Go.Proofs.YtcopcjlcfnamhaaDoor
