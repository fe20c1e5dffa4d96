/- The draws of chapter 2: two numbers; a list of numbers. -/
import Derived.Test.YtmencjdlfeojkaaDoorDd
import Derived.Test.YtmencjdlfeojkaaDoorB3
import Derived.Test.YtmencjdlfeojkaaDoorB4
namespace Go.Proofs.YtmencjdlfeojkaaDoor
open Go.RowKit

theorem pickG_any (w : World) (B : Nat) (a : Option Addr) (len cap : Nat) (p n : Int) (h : Reads w B a len cap p) (hn : 1 ≤ n) (hp : p ≤ 100000) :
    Calls Tryd.prog 96 #[.pointer (some ⟨B, 0, none⟩), .int .i64 n] w fun e w' => Pick w B a len cap p n e w' ∧ w.grownBy w' (some B) := by
  have key : Calls Tryd.prog 96 #[.pointer (some ⟨B, 0, none⟩), .int .i64 n] w (Picked n p B w) := by
    obtain ⟨h1, h2, h3, h4, h5, h6⟩ := h
    rcases h1 with rfl | ⟨bb, off, D, rfl, hl1, hl, hbb, hD⟩
    · exact pick_none a cap B n p w hn ⟨h6, hp⟩ h2 h3 h4
    · obtain ⟨q, rfl⟩ := Int.eq_ofNat_of_zero_le h6
      by_cases hq : q < len
      · exact pick_low bb off len cap D B n q w hn hl hq h2 h3 h4 (hD q hq).1 (hD q hq).2 (Nat.ne_of_lt hbb)
      · exact pick_far bb off len cap D B n q w hn hl hl1 (by omega) (by omega) h2 h3 h4 hD (Nat.ne_of_lt hbb)
  refine key.mono fun e w' hp' => ⟨pick_of h hp', ?_⟩
  obtain ⟨v, k, _, _, _, rfl⟩ := hp'
  refine ⟨rfl, rfl, rfl, by simp, fun i _ hne => ?_⟩
  show ((w.setCell ⟨B, 1, none⟩ (.int .i64 (p + 1))).drewN k).heap[i]? = _
  rw [World.heap_drewN]
  exact Below.heap_setCell w ⟨B, 1, none⟩ _ i (fun e => hne (by rw [e]))
/-- numbers of the call's own are not the reader -/
theorem Ints.picked {w w' : World} {base B : Nat} {v : Value} {l : List Int} (h : Ints w base v l) (hg : w.grownBy w' (some B)) (hB : B < base) : Ints w' base v l :=
  h.far hg (fun k hk e => by have := (h.block k hk).1; cases e; omega)

def FracTwo (w : World) (e : Ending) (w' : World) : Prop := ∃ n q : Int, e = .returned (.tuple #[.int .i64 n, .int .i64 q]) ∧ Below w.heap.size w w'
def DrewList (w : World) (B : Nat) (e : Ending) (w' : World) : Prop := ∃ (v : Value) (l : List Int), e = .returned v ∧ Ints w' w.heap.size v l ∧ l.length ≤ 4 ∧ Below B w w'
def OneList (w : World) (e : Ending) (w' : World) : Prop := ∃ (v : Value) (l : List Int), e = .returned v ∧ Ints w' w.heap.size v l ∧ l.length ≤ 4 ∧ Below w.heap.size w w'
end Go.Proofs.YtmencjdlfeojkaaDoor
