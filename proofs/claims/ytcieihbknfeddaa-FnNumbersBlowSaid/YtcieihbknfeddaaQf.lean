/- Divisors: sums and multiples; the program. -/
import Derived.Test.YtcieihbknfeddaaBe
import Derived.Test.YtcieihbknfeddaaB4
import Derived.Test.YtcieihbknfeddaaB9
import Derived.Maps.AppendAt
namespace Go.Proofs.Ytcieihbknfeddaa
open Go.RowKit

theorem addr_add (b off i : Nat) : (⟨b, off, none⟩ : Addr).add i = ⟨b, off + i, none⟩ := by
  by_cases h : i = 0
  · subst h; simp [Addr.add]
  · simp [Addr.add, h]
theorem ints_one (l : List Int) : ∀ u ∈ intsV l, u.oneCell' = true := by
  intro u hu
  obtain ⟨x, _, rfl⟩ := List.mem_map.1 hu
  rfl
theorem grown_set (W : World) (k o : Nat) (u : Value) : W.grownBy (W.setCell ⟨k, o, none⟩ u) (some k) :=
  ⟨rfl, rfl, rfl, by simp, fun i _ hne => Below.heap_setCell W ⟨k, o, none⟩ u i (by rintro rfl; exact hne rfl)⟩
theorem Ints.setLow {W : World} {base k o : Nat} {v : Value} {l : List Int} (h : Ints W base v l) (hk : k < base) (u : Value) : Ints (W.setCell ⟨k, o, none⟩ u) base v l :=
  h.far (grown_set W k o u) (fun q hq e => by have := (h.block q hq).1; cases e; omega)
/-- a divisor that was made: the fan that was handed in, and numbers in memory of the call's own -/
def GivesDiv (w : World) (g : Nat) (l : List Int) (e : Ending) (w' : World) : Prop := ∃ v, e = .returned (.agg #[.pointer (some ⟨g, 0, none⟩), v]) ∧ Ints w' w.heap.size v l ∧ Below w.heap.size w w'
set_option maxHeartbeats 4000000 in
theorem clone_any (u : Value) (d : List Int) (w : World) (h : ReadsInts w u d) (h0 : 0 < d.length) (hm : d.length ≤ 1000) :
    Calls Try.prog 12 #[u] w (GivesInts w d) := by
  obtain ⟨i0, hi, hz0, hz1, hz2⟩ := info_parts infoInt
  obtain ⟨bb, off, c, rfl, _, hbb, hcs⟩ := h.open h0
  have HE := Lib.hid (Ints.empty w)
  have hB : Below w.heap.size w (w.alloc (.cells #[] 3)) := by go_grown
  have HC : Hid (∀ j u, (intsV d)[j]? = some u → (w.alloc (.cells #[] 3)).cell? ((⟨bb, off, none⟩ : Addr).add j) = some u) := by
    intro j u hj
    have hlt : j < d.length := by
      have := (List.getElem?_eq_some_iff.1 hj).1
      simpa [intsV] using this
    rw [intsV_get d j hlt] at hj
    rw [addr_add]
    exact (hcs _ hB j hlt).trans hj
  have HB := Lib.hid hB
  obtain ⟨n, hn⟩ : ∃ n, n = d.length := ⟨_, rfl⟩
  have HL : Hid ((intsV d).length = n * 1) := by show (intsV d).length = n * 1; rw [hn]; simp [intsV]
  have HN := Lib.hid hn
  rw [← hn] at hm ⊢
  clear hcs h hB hn h0
  have hnil := fun (w : World) (a : Option Addr) (n c n' c' : Nat) => Lib.run_eql_slice_nil (P := Try.prog) w 23 3 a n c n' c' Try.underlying23
  go_enter Try.func12, Try.ntmps12
  go_wp2_with (at_builtin; refine wpList_append_own_at _ rfl _ _ 23 rfl w.heap.size 3 i0 (.int .i64 0) 1 8 Try.underlying23 hi hz0 hz1 hz2 rfl (by decide) _ _ _ rfl HE.out ⟨bb, off, none⟩ n c (intsV d) rfl HL.out HC.out (ints_one d) ?c3 ?c4 ?c5 ?_)
  case c3 => unfold maxLen; simp; omega
  case c4 => simp; omega
  case c5 => simp
  intro v' w1 hown' hgrow _ _
  have hB1 : Below w.heap.size w w1 := HB.out.grown hgrow (by simp) (fun q hq => (World.ownsRow.lt HE.out q hq).1)
  have HI : Hid (Ints w1 w.heap.size v' d) := by
    have h := hown'
    unfold Ints
    rw [← HN.out]
    first | exact h | (simpa using h)
  clear hown' hgrow HE HC
  go_wp2
  go_returns
  exact ⟨_, rfl, HI.out, hB1⟩
/-- the first k numbers added -/
def mixL (d e : List Int) (k : Nat) : List Int := (List.range d.length).map (fun i => if i < k then gz d i + gz e i else gz d i)
theorem mix_len (d e : List Int) (k : Nat) : (mixL d e k).length = d.length := by simp [mixL]
theorem mix_zero (d e : List Int) : mixL d e 0 = d := by
  unfold mixL
  simp only [Nat.not_lt_zero, if_false]
  exact tab_gz d
theorem mix_all (d e : List Int) : mixL d e d.length = sumL d 1 e := by
  unfold mixL sumL
  refine List.map_congr_left (fun i hi => ?_)
  rw [if_pos (List.mem_range.1 hi), Int.one_mul]
theorem mix_set {d e : List Int} {k : Nat} : (mixL d e k).set k (gz d k + gz e k) = mixL d e (k + 1) := by
  refine List.ext_getElem (by simp [mixL]) (fun i h1 h2 => ?_)
  simp only [mixL, List.getElem_set, List.getElem_map, List.getElem_range]
  by_cases e1 : k = i
  · subst e1; simp
  · rw [if_neg e1]
    by_cases e2 : i < k
    · rw [if_pos e2, if_pos (by omega)]
    · rw [if_neg e2, if_neg (by omega)]
theorem mix_get {d e : List Int} {k : Nat} (h : k < d.length) : (intsV (mixL d e k))[k]? = some (.int .i64 (gz d k)) := by
  rw [intsV_get _ k (by rw [mix_len]; exact h)]
  have : (mixL d e k)[k]?.getD 0 = gz d k := by
    show gz (mixL d e k) k = _
    unfold mixL
    rw [gz_tab _ h, if_neg (Nat.lt_irrefl k)]
  rw [this]
theorem mix_setV {d e : List Int} {k : Nat} : (intsV (mixL d e k)).set k (.int .i64 (gz d k + gz e k)) = intsV (mixL d e (k + 1)) := by
  unfold intsV
  rw [← List.map_set, mix_set]
theorem times_snoc (d : List Int) (m : Int) (k : Nat) : (List.range (k + 1)).map (fun i => gz d i * m) = (List.range k).map (fun i => gz d i * m) ++ [gz d k * m] := tab_snoc _ _
end Go.Proofs.Ytcieihbknfeddaa
