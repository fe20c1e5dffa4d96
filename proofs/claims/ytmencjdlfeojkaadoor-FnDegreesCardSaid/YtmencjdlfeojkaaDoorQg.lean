/- Divisors: the program's functions that make no divisor. -/
import Derived.Test.YtmencjdlfeojkaaDoorQd
import Derived.Test.YtmencjdlfeojkaaDoorQe
import Derived.Test.YtmencjdlfeojkaaDoorQq
import Derived.Test.YtmencjdlfeojkaaDoorB7
import Derived.BigRegion
namespace Go.Proofs.YtmencjdlfeojkaaDoor
open Go.RowKit

set_option maxHeartbeats 4000000 in
theorem divisorDegrees_any (v : Value) (l : List V2) (u : Value) (d : List Int) (w : World) (hl : ReadsVecs w v l) (hd : ReadsInts w u d) (hg : EtOk w) :
    Calls Tryd.prog 26 #[v, u] w (GivesIntsOk w (gV (divB l d) (degsZ l d)) (divB l d)) := by
  have HO := Lib.hid (divisorOf_any v u l d w hl hd hg)
  have HD := Lib.hid (fun base g (ns : List Node) w' (hF : FanAt w' base g ns) (hn : rays ns = l) (hb : Below w.heap.size w w') (h : divB l d = true) => by
    have h1 := degrees_any base g ns u d w' hF (by have := div_len h; rw [← hn, rays_len] at this; omega) (by rw [hn]; exact div_smooth h) (hd.below hb) (by rw [← rays_len, hn]; exact (div_in h).2.1) (bnd_mono (div_bnd h) (by omega))
    rw [hn] at h1
    exact h1)
  obtain ⟨a, c, rfl, _⟩ := hd.len
  clear hl hd
  generalize hb : divB l d = b at *
  go_enter Tryd.func26, Tryd.ntmps26
  go_wp2_with fail
  refine Calls.mono HO.out ?_
  rintro e w1 ⟨⟨rfl, g, ns, rfl, hF, hn⟩ | ⟨rfl, rfl⟩, hb1⟩
  · have hF2 := Lib.hid (fun w2 (h : Below w1.heap.size w1 w2) => hF.below h)
    have HD2 := Lib.hid (fun w2 (h : Below w1.heap.size w1 w2) => HD.out w.heap.size g ns w2 (hF2.out w2 h) hn (belowTo hb1 h) (by simp))
    have hs1 := hb1.size
    clear hF hn hF2 HD hb
    go_wp2_with fail
    refine Calls.mono (HD2.out _ (by go_grown)) ?_
    rintro e w2 ⟨v2, rfl, hI, hb2⟩
    have HI := Lib.hid (hI.lower (base' := w.heap.size) (by simp; omega))
    have hB : Below w.heap.size w w2 := belowTo (by go_grown) hb2
    clear hI hb2
    go_wp2
    go_returns
    exact ⟨_, rfl, HI.out, hB⟩
  · have hs1 := hb1.size
    clear hb HD
    go_wp2
    go_returns
    exact ⟨_, rfl, Ints.nil _ _, by go_grown⟩
def DivsEnd (b : Bool) (l : List V2) (u1 u2 : Value) (w : World) (e : Ending) (w' : World) : Prop :=
  ((b = true ∧ ∃ g ns, e = .returned (.tuple #[.agg #[.pointer (some ⟨g, 0, none⟩), u1], .agg #[.pointer (some ⟨g, 0, none⟩), u2], .bool true]) ∧ FanAt w' w.heap.size g ns ∧ rays ns = l) ∨
    (b = false ∧ ∃ p a n c, e = .returned (.tuple #[.agg #[.pointer p, .slice a n c], .agg #[.pointer none, .slice none 0 0], .bool false]))) ∧ Below w.heap.size w w'
theorem FanAt.far2 {W : World} {base g k o o' : Nat} {ns : List Node} (h : FanAt W base g ns) (hk : k < base) (u u' : Value) : FanAt ((W.setCell ⟨k, o, none⟩ u).setCell ⟨k, o', none⟩ u') base g ns := (h.far hk u).far hk u'
set_option maxHeartbeats 16000000 in
theorem divisorsOf_any (v u1 u2 : Value) (l : List V2) (a b : List Int) (w : World) (hl : ReadsVecs w v l) (h1 : ReadsInts w u1 a) (h2 : ReadsInts w u2 b) (hg : EtOk w) :
    Calls Tryd.prog 43 #[v, u1, u2] w (DivsEnd (divB l a && divB l b) l u1 u2 w) := by
  have HO := Lib.hid (fun w' (hb : Below w.heap.size w w') => divisorOf_any v u1 l a w' (hl.below hb) (h1.below hb) (hg.below hb))
  have HM := Lib.hid (fun g (ns : List Node) w' (hb : Below w.heap.size w w') (c1 : (w' : World).cell? ⟨g, 1, none⟩ = some (.int .i64 ns.length)) (hs : ns.length ≤ 1000) => madeDiv_any g ns.length u2 b w' (hg.below hb) c1 (h2.below hb) hs)
  have HD : Hid (∀ n, n = l.length → divB l a = true → divB l b = fitB n b) := fun n hn h => by rw [div_fit h, hn]; rfl
  have HLn : Hid (divB l a = true → l.length ≤ 20) := fun h => (div_len h).2
  obtain ⟨p1, q1, rfl, _⟩ := h1.len
  obtain ⟨p2, q2, rfl, _⟩ := h2.len
  clear hl h1 h2
  cases ha : divB l a
  · rw [ha] at HO
    clear HD HM HLn ha
    go_enter Tryd.func43, Tryd.ntmps43
    go_wp2_with fail
    refine Calls.mono (HO.out _ (by go_grown)) ?_
    rintro e w1 ⟨⟨h, _⟩ | ⟨_, rfl⟩, hb1⟩
    · cases h
    have hB : Below w.heap.size w w1 := belowTo (by go_grown) hb1
    have hw1 := hb1.size
    simp only [World.size_alloc] at hw1
    have r0 : w1.cell? ⟨w.heap.size, 0, none⟩ = some (.pointer none) := (hb1.cell (p := ⟨w.heap.size, 0, none⟩) (by simp; omega)).trans (by first | (go_cell; done) | (go_simp; done) | (simp; done))
    have r1 : w1.cell? ⟨w.heap.size, 1, none⟩ = some (.slice none 0 0) := (hb1.cell (p := ⟨w.heap.size, 1, none⟩) (by simp; omega)).trans (by first | (go_cell; done) | (go_simp; done) | (simp; done))
    have r2 : w1.cell? ⟨w.heap.size + 1, 0, none⟩ = some (.pointer none) := (hb1.cell (p := ⟨w.heap.size + 1, 0, none⟩) (by simp)).trans (by first | (go_cell; done) | (go_simp; done) | (simp; done))
    have r3 : w1.cell? ⟨w.heap.size + 1, 1, none⟩ = some (.slice none 0 0) := (hb1.cell (p := ⟨w.heap.size + 1, 1, none⟩) (by simp)).trans (by first | (go_cell; done) | (go_simp; done) | (simp; done))
    have f0 : ∀ o, w1.frozen? ⟨w.heap.size, o, none⟩ = false := fun o => (hb1.frozen (p := ⟨w.heap.size, o, none⟩) (by simp; omega)).trans (by first | (go_cell; done) | (go_simp; done) | (simp; done))
    have f1 : ∀ o, w1.frozen? ⟨w.heap.size + 1, o, none⟩ = false := fun o => (hb1.frozen (p := ⟨w.heap.size + 1, o, none⟩) (by simp)).trans (by first | (go_cell; done) | (go_simp; done) | (simp; done))
    have u0 := cell_lt r0
    have u1 := cell_lt r2
    clear hb1
    go_wp2
    refine bodyPost_ret (by simp [results, Tryd.results43, go_sem, *]; try rfl) rfl ?_
    exact ⟨.inr ⟨rfl, none, none, 0, 0, rfl⟩, by go_grown⟩
  · rw [ha] at HO
    go_enter Tryd.func43, Tryd.ntmps43
    go_wp2_with fail
    refine Calls.mono (HO.out _ (by go_grown)) ?_
    rintro e w1 ⟨⟨_, g, ns, rfl, hF, hn⟩ | ⟨h, _⟩, hb1⟩
    case inr => cases h
    have hB : Below w.heap.size w w1 := belowTo (by go_grown) hb1
    have hnl : ns.length = l.length := by rw [← hn, rays_len]
    have HDn := Lib.hid (HD.out ns.length hnl ha)
    have hs : ns.length ≤ 1000 := by have := HLn.out ha; omega
    have HM2 := Lib.hid (fun w2 (h : Below w1.heap.size w1 w2) => HM.out g ns w2 (belowTo hB h) ((h.cell (p := ⟨g, 1, none⟩) hF.head.lt).trans hF.head.c1) hs)
    have hz : ((w.alloc (.cells #[.pointer none, .slice none 0 0] 54)).alloc (.cells #[.pointer none, .slice none 0 0] 54)).heap.size = w.heap.size + 2 := by simp
    have HF := Lib.hid (fun w2 (h : Below w1.heap.size w1 w2) => (hF.below h).lower (base' := w.heap.size + 2) (by rw [hz]; exact Nat.le_refl _))
    have HN := Lib.hid hn
    clear hF hn hnl hs HM HD HLn HO ha hz
    generalize fitB ns.length b = k at HM2 HDn
    unfold mkDiv at HM2
    have hw1 := hb1.size
    simp only [World.size_alloc] at hw1
    have r0 : w1.cell? ⟨w.heap.size, 0, none⟩ = some (.pointer none) := (hb1.cell (p := ⟨w.heap.size, 0, none⟩) (by simp; omega)).trans (by first | (go_cell; done) | (go_simp; done) | (simp; done))
    have r1 : w1.cell? ⟨w.heap.size, 1, none⟩ = some (.slice none 0 0) := (hb1.cell (p := ⟨w.heap.size, 1, none⟩) (by simp; omega)).trans (by first | (go_cell; done) | (go_simp; done) | (simp; done))
    have r2 : w1.cell? ⟨w.heap.size + 1, 0, none⟩ = some (.pointer none) := (hb1.cell (p := ⟨w.heap.size + 1, 0, none⟩) (by simp)).trans (by first | (go_cell; done) | (go_simp; done) | (simp; done))
    have r3 : w1.cell? ⟨w.heap.size + 1, 1, none⟩ = some (.slice none 0 0) := (hb1.cell (p := ⟨w.heap.size + 1, 1, none⟩) (by simp)).trans (by first | (go_cell; done) | (go_simp; done) | (simp; done))
    have f0 : ∀ o, w1.frozen? ⟨w.heap.size, o, none⟩ = false := fun o => (hb1.frozen (p := ⟨w.heap.size, o, none⟩) (by simp; omega)).trans (by first | (go_cell; done) | (go_simp; done) | (simp; done))
    have f1 : ∀ o, w1.frozen? ⟨w.heap.size + 1, o, none⟩ = false := fun o => (hb1.frozen (p := ⟨w.heap.size + 1, o, none⟩) (by simp)).trans (by first | (go_cell; done) | (go_simp; done) | (simp; done))
    clear hb1
    cases k
    all_goals
      simp only [Bool.false_eq_true, if_false, if_true] at HM2
      go_wp2_with fail
      refine Calls.mono (HM2.out _ (by go_grown)) ?_
      rintro e w2 ⟨rfl, hb2⟩
      have hA2 : Below w1.heap.size w1 w2 := belowTo (by go_grown) hb2
      have d0 : w2.cell? ⟨w1.heap.size, 0, none⟩ = some (.pointer (some ⟨g, 0, none⟩)) := (hb2.cell (p := ⟨w1.heap.size, 0, none⟩) (by simp)).trans (by first | (go_cell; done) | (go_simp; done) | (simp; done))
      have d1 : w2.cell? ⟨w1.heap.size, 1, none⟩ = some (.slice p1 a.length q1) := (hb2.cell (p := ⟨w1.heap.size, 1, none⟩) (by simp)).trans (by first | (go_cell; done) | (go_simp; done) | (simp; done))
      have s0 := cell_lt d0
      have t0 := (hA2.cell (p := ⟨w.heap.size, 0, none⟩) (cell_lt r0)).trans r0
      have t1 := (hA2.cell (p := ⟨w.heap.size, 1, none⟩) (cell_lt r1)).trans r1
      have t2 := (hA2.cell (p := ⟨w.heap.size + 1, 0, none⟩) (cell_lt r2)).trans r2
      have t3 := (hA2.cell (p := ⟨w.heap.size + 1, 1, none⟩) (cell_lt r3)).trans r3
      have g0 := fun o => (hA2.frozen (p := ⟨w.heap.size, o, none⟩) (cell_lt r0)).trans (f0 o)
      have g1 := fun o => (hA2.frozen (p := ⟨w.heap.size + 1, o, none⟩) (cell_lt r2)).trans (f1 o)
      have hs2 := hA2.size
      have u0 := cell_lt t0
      have u1 := cell_lt t2
      have hB2 := belowTo hB hA2
      have HF2 := Lib.hid (fun w3 (h : Below w2.heap.size w2 w3) => HF.out w3 (belowTo hA2 h))
      clear hb2 r0 r1 r2 r3 f0 f1 hA2 HM2
      go_wp2_with fail
      go_region
      all_goals go_wp2
    · refine bodyPost_ret (by simp [results, Tryd.results43, go_sem, *]; try rfl) rfl ?_
      exact ⟨.inr ⟨by rw [HDn.out]; rfl, _, _, _, _, rfl⟩, by go_grown⟩
    · refine bodyPost_ret (by simp [results, Tryd.results43, go_sem, *]; try rfl) rfl ?_
      refine ⟨.inl ⟨by rw [HDn.out]; rfl, g, ns, rfl, ?_, HN.out⟩, by go_grown⟩
      refine FanAt.lower (base := w.heap.size + 2) ?_ (by omega)
      have F1 := HF2.out w2 (Below.refl _ _)
      have F2 := FanAt.far2 (k := w.heap.size) (o := 0) (o' := 1) F1 (by omega) (.pointer (some ⟨g, 0, none⟩)) (.slice p1 a.length q1)
      have F3 := FanAt.far2 (k := w.heap.size + 1) (o := 0) (o' := 1) F2 (by omega) (.pointer (some ⟨g, 0, none⟩)) (.slice p2 b.length q2)
      exact F3.below (by go_grown)
end Go.Proofs.YtmencjdlfeojkaaDoor
