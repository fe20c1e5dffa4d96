/- FractionValue: both sides. -/
import Derived.Test.YtjlobpccnplebaaDoorFe
namespace Go.Proofs.YtjlobpccnplebaaDoor
open Go.RowKit

theorem value_any (v : Value) (l : List Int) (w : World) (h : ReadsInts w v l) :
    Calls Tryd.prog 71 #[v] w (ValuePost w l) := by
  cases hl : lstB l
  · exact value_bad v l w h hl
  · have hn := len_in (lst_in hl).1
    have h' := h
    obtain ⟨a, c, rfl, hm, hc⟩ := h
    obtain ⟨bb, off, rfl, hb, hcell⟩ := hc (by omega)
    exact callsIn_wide.1 (value_good bb off l.length c l w rfl hb hcell h' hl 3 (Nat.le_refl _))
theorem value_yes (v : Value) (l : List Int) (w : World) (h : ReadsInts w v l) (hv : valB l = true) :
    Calls Tryd.prog 71 #[v] w fun e w' => e = .returned (.tuple #[.int .i64 (contN l), .int .i64 (contQ l), .nilIface]) ∧ Below w.heap.size w w' := by
  refine (value_any v l w h).mono ?_
  rintro e w' ⟨h1 | h1, hb⟩
  · exact ⟨h1.2, hb⟩
  · rw [hv] at h1; cases h1.1
theorem value_not (v : Value) (l : List Int) (w : World) (h : ReadsInts w v l) (hv : valB l = false) :
    Calls Tryd.prog 71 #[v] w fun e w' => (∃ s : ByteArray, e = .returned (.tuple #[.int .i64 0, .int .i64 0, .iface 93 (.agg #[.string s])])) ∧ Below w.heap.size w w' := by
  refine (value_any v l w h).mono ?_
  rintro e w' ⟨h1 | h1, hb⟩
  · rw [hv] at h1; cases h1.1
  · exact ⟨h1.2, hb⟩
def ValueGives (w : World) (l : List Int) (e : Ending) (w' : World) : Prop := e = .returned (.tuple #[.int .i64 (gate (valB l) (contN l)), .int .i64 (gate (valB l) (contQ l)), .bool (valB l)]) ∧ Below w.heap.size w w'
set_option maxHeartbeats 2000000 in
theorem fractionValue_any (v : Value) (l : List Int) (w : World) (h : ReadsInts w v l) (hg : EtOk w) :
    Calls Tryd.prog 37 #[v] w (ValueGives w l) := by
  unfold ValueGives
  cases hv : valB l
  · have HC := Lib.hid (fun w' h' => value_not v l w' h' hv)
    have HH := Lib.hid h
    obtain ⟨a, c, rfl, _, _⟩ := h
    go_enter Tryd.func37, Tryd.ntmps37
    go_wp2_with fail
    go_call (HC.out _ HH.out) as e w1 ⟨⟨s, rfl⟩, hb1⟩
    obtain ⟨hc1, hf1⟩ := bcell hb1; have hz1 := bsize hb1
    (go_wp2_with fail; go_call (none_hit _ _ (hg.below hb1)) as e w2 ⟨rfl, hb2⟩); replace hb1 := belowTo hb1 hb2; clear hb2 hc1 hf1 hz1; obtain ⟨hc1, hf1⟩ := bcell hb1; have hz1 := bsize hb1
    go_wp2
    go_returns
    exact ⟨rfl, hb1⟩
  · have HC := Lib.hid (fun w' h' => value_yes v l w' h' hv)
    have HH := Lib.hid h
    obtain ⟨a, c, rfl, _, _⟩ := h
    go_enter Tryd.func37, Tryd.ntmps37
    go_wp2_with fail
    go_call (HC.out _ HH.out) as e w1 ⟨rfl, hb1⟩
    obtain ⟨hc1, hf1⟩ := bcell hb1; have hz1 := bsize hb1
    (go_wp2_with fail; go_call (none_nil _) as e w2 ⟨rfl, hb2⟩); replace hb1 := belowTo hb1 hb2; clear hb2 hc1 hf1 hz1; obtain ⟨hc1, hf1⟩ := bcell hb1; have hz1 := bsize hb1
    go_wp2
    go_returns
    exact ⟨rfl, hb1⟩
theorem val_over {l : List Int} {i : Nat} (h : 1000000000 < contN (l.drop i)) : valB l = false := by
  cases hl : lstB l
  · exact val_no hl
  · have e := List.take_append_drop i l
    have := val_great (m := l.take i) (s := l.drop i) (by rw [e]; exact (lst_in hl).2) h
    rwa [e] at this
theorem drop_rng {l : List Int} {i j : Nat} (hij : j = i + 1) (hi : i < l.length) (h : ∀ b ∈ l.drop j, rngB b = true) (hz : rngB (l[i]?.getD 0) = true) : ∀ b ∈ l.drop i, rngB b = true := by
  intro b hb
  rw [drop_get hi, ← hij] at hb
  rcases List.mem_cons.1 hb with rfl | hb
  · exact hz
  · exact h b hb
end Go.Proofs.YtjlobpccnplebaaDoor
