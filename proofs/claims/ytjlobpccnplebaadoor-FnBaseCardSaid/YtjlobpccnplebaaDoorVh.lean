/- The whole base: what the range over the program's iterator keeps; the model's ConeBase. -/
import Derived.Test.YtjlobpccnplebaaDoorVe
import Derived.Test.YtjlobpccnplebaaDoorVf
import Derived.Test.YtjlobpccnplebaaDoorB4
namespace Go.Proofs.YtjlobpccnplebaaDoor
open Go.RowKit Go.Shelf

def gateV (b : Bool) (l : List (Int × Int)) : List (Int × Int) := if b then l else []
theorem gateV_len {b : Bool} {l : List (Int × Int)} {n : Nat} (h : b = true → l.length ≤ n) : (gateV b l).length ≤ n := by
  cases b
  · exact Nat.zero_le _
  · exact h rfl
theorem Vecs.at0 (w : World) (base : Nat) (g : Nat) (t : TypeId) (h : w.heap[g]? = some (.cells #[] t)) (hb : base ≤ g) (ht : t = 24) : Vecs w base (.slice (some ⟨g, 0, none⟩) 0 0) [] := by
  subst ht
  exact ⟨rfl, .inr ⟨g, 0, #[], rfl, hb, h, Nat.le_refl _, by decide, rfl, rfl⟩⟩
theorem Vecs.empty (w : World) : Vecs (w.alloc (.cells #[] 24)) w.heap.size (.slice (some ⟨w.heap.size, 0, none⟩) 0 0) [] :=
  Vecs.at0 _ _ _ _ (heap_alloc_new w _) (Nat.le_refl _) rfl
set_option maxHeartbeats 4000000 in
theorem l2Base_any (a b c d : Int) (w : World) (h : coneB a b c d = true) : Calls Tryd.prog 67 #[.agg #[.int .i64 (a), .int .i64 (b), .int .i64 (c), .int .i64 (d)]] w (GivesVecs w (baseL a b c d)) := by
  by_cases hd : detZ a b c d = 1
  · exact l2Base_one a b c d w h hd
  · exact l2Base_more a b c d w h hd
set_option maxHeartbeats 4000000 in
theorem specConeBase_any (a b c d : Int) (w : World) :
    Calls Tryd.prog 30 #[.agg #[.int .i64 (a), .int .i64 (b), .int .i64 (c), .int .i64 (d)]] w (GivesVecsOk w (gateV (coneB a b c d) (baseL a b c d)) (coneB a b c d)) := by
  cases h : coneB a b c d
  · have hE := Lib.hid (fun w' : World => Vecs.empty w')
    go_enter Tryd.func30, Tryd.ntmps30
    (go_wp2_with fail; go_call (specConeIn_any a b c d _) as e w1 ⟨rfl, hb1⟩); obtain ⟨hc1, hf1⟩ := bcell hb1; have hz1 := bsize hb1
    have hA : Below w.heap.size w w1 := belowTo (by go_grown) hb1
    clear hc1 hf1 hz1 hb1
    go_wp2
    go_returns
    exact ⟨_, rfl, (hE.out _).lower hA.size, by have := hA.size; go_grown⟩
  · have HF := Lib.hid (fun w' => l2Base_any a b c d w' h)
    go_enter Tryd.func30, Tryd.ntmps30
    (go_wp2_with fail; go_call (specConeIn_any a b c d _) as e w1 ⟨rfl, hb1⟩); obtain ⟨hc1, hf1⟩ := bcell hb1; have hz1 := bsize hb1
    have hA : Below w.heap.size w w1 := belowTo (by go_grown) hb1
    go_wp2_with fail
    refine Calls.mono (HF.out _) ?_
    rintro e w3 ⟨v, rfl, hI, hb3⟩
    have hI' := Lib.hid (hI.lower hA.size)
    have hB := belowTo hA hb3
    clear hI hb3 hc1 hf1 hz1 hb1
    go_wp2
    go_returns
    exact ⟨_, rfl, hI'.out, hB⟩

theorem grown_set (W : World) (g o : Nat) (v : Value) : W.grownBy (W.setCell ⟨g, o, none⟩ v) (some g) :=
  ⟨rfl, rfl, rfl, by simp, fun k _ hk => Below.heap_setCell W ⟨g, o, none⟩ v k (fun e => hk (by rw [e]))⟩
theorem Vecs.cells {w : World} {base : Nat} {v : Value} {l : List (Int × Int)} (h : Vecs w base v l) : ∀ k, v.ownBlock = some k → ∃ o, w.heap[k]? = some o ∧ o.isCells = true := by
  intro k hk
  rcases h.2 with ⟨rfl, _⟩ | ⟨g, cap, cur, rfl, _, h4, _⟩
  · cases hk
  · have e : g = k := by simpa [Value.ownBlock] using hk
    subst e
    exact ⟨_, h4, rfl⟩
/-- what the caller keeps: its list, in a block B of its own; the iterator's variables lie elsewhere; Bs holds the cone -/
def BaseI (w : World) (B Bs : Nat) (X : Nat → Prop) (pre : List (Int × Int)) (V : World) : Prop :=
  (∃ v, Boxed V B 43 v ∧ Vecs V w.heap.size v pre ∧ ∀ k, v.ownBlock = some k → ¬ X k ∧ k ≠ B ∧ k ≠ Bs) ∧ (∀ k, X k → w.heap.size ≤ k ∧ k ≠ B) ∧ Below w.heap.size w V
theorem baseI_abides (w : World) (B Bs : Nat) : Abides (BaseI w B Bs) where
  less := by
    rintro X Y pre A ⟨⟨v, h1, h2, h3⟩, h4, h5⟩ hY
    exact ⟨⟨v, h1, h2, fun k hk => ⟨fun hx => (h3 k hk).1 (hY k hx), (h3 k hk).2⟩⟩, fun k hk => h4 k (hY k hk), h5⟩
  fresh := by
    rintro X pre A ⟨⟨v, h1, h2, h3⟩, h4, h5⟩
    have hs := h5.size
    have hl := h1.lt
    refine ⟨⟨v, h1, h2, fun k hk => ⟨fun hx => ?_, (h3 k hk).2⟩⟩, fun k hk => ?_, h5⟩
    · rcases hx with hx | hx
      · exact (h3 k hk).1 hx
      · have := (h2.block k hk).2
        omega
    · rcases hk with hx | hx
      · exact h4 k hx
      · exact ⟨by omega, by omega⟩
  grows := by
    rintro X pre A A' ⟨⟨v, h1, h2, h3⟩, h4, h5⟩ hg
    exact ⟨⟨v, h1.kept hg (by simp), h2.far hg (fun k _ e => by cases e), h3⟩, h4, h5.grown hg h5.size (fun k e => by cases e)⟩
  own := by
    rintro X pre A g o u ⟨⟨v, h1, h2, h3⟩, h4, h5⟩ hx
    obtain ⟨hg, hne⟩ := h4 g hx
    have hgr := grown_set A g o u
    exact ⟨⟨v, h1.kept hgr (fun e => hne (by cases e; rfl)), h2.far hgr (fun k hk e => (h3 k hk).1 (by cases e; exact hx)), h3⟩, h4, h5.grown hgr h5.size (fun k e => by cases e; exact hg)⟩
theorem baseI_put {w : World} {B Bs : Nat} {X : Nat → Prop} {pre : List (Int × Int)} {A : World} {l : Nat} {o : Obj} (o' : Obj) (h : BaseI w B Bs X pre A) (hl : w.heap.size ≤ l) (ho : A.heap[l]? = some o) (hc : o.isCells = false) : BaseI w B Bs X pre (A.putObj l o') := by
  obtain ⟨⟨v, h1, h2, h3⟩, h4, h5⟩ := h
  have hgr := grownBy_putObj' A l o'
  refine ⟨⟨v, h1.kept hgr (fun e => ?_), h2.far hgr (fun k hk e => ?_), h3⟩, h4, h5.grown hgr h5.size (fun k e => by cases e; exact hl)⟩
  · cases e
    rw [show A.heap[B]? = _ from h1] at ho
    cases ho
    cases hc
  · cases e
    obtain ⟨o2, e2, hc2⟩ := h2.cells _ hk
    rw [e2] at ho
    cases ho
    rw [hc2] at hc
    cases hc
end Go.Proofs.YtjlobpccnplebaaDoor
