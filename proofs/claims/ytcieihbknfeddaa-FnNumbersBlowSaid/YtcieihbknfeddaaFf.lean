/- FractionValue: both sides. -/
import Derived.Test.YtcieihbknfeddaaFe
namespace Go.Proofs.Ytcieihbknfeddaa
open Go.RowKit

def ValueGives (w : World) (l : List Int) (e : Ending) (w' : World) : Prop := e = .returned (.tuple #[.int .i64 (gate (valB l) (contN l)), .int .i64 (gate (valB l) (contQ l)), .bool (valB l)]) ∧ Below w.heap.size w w'
theorem val_over {l : List Int} {i : Nat} (h : 1000000000 < contN (l.drop i)) : valB l = false := by
  cases hl : lstB l
  · exact val_no hl
  · have e := List.take_append_drop i l
    have := val_great (m := l.take i) (s := l.drop i) (by rw [e]; exact (lst_in hl).2) h
    rwa [e] at this
theorem drop_rng {l : List Int} {i j : Nat} (hij : j = i + 1) (hi : i < l.length) (h : ∀ b ∈ l.drop j, rngB b = true) (hz : rngB (l[i]?.getD 0) = true) : ∀ b ∈ l.drop i, rngB b = true := by
  intro b hb
  rw [drop_get hi, ← hij] at hb
  rcases List.mem_cons.1 hb with rfl | hb
  · exact hz
  · exact h b hb
end Go.Proofs.Ytcieihbknfeddaa
