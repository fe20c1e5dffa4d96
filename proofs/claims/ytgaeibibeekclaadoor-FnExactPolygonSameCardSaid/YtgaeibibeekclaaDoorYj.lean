/- PolygonTidy: both sides; l6gDone. -/
import Derived.Test.YtgaeibibeekclaaDoorYi
import Derived.Test.YtgaeibibeekclaaDoorB8
namespace Go.Proofs.YtgaeibibeekclaaDoor
open Go.RowKit

theorem poly_big {l : List V2} (h : polyB l = true) : ∀ x ∈ l, big 400000 x.1 x.2 := by
  intro x hx
  obtain ⟨j, hj, rfl⟩ := List.mem_iff_getElem.1 hx
  have e : l[j] = cyc l j := by rw [cyc_lt hj, List.getElem?_eq_getElem hj]; rfl
  rw [e]
  have := poly_small h j
  unfold big
  omega
def TidyS (l : List V2) (w : World) : Ending → World → Prop := GivesVecsOk w (gV (polyB l) (tidyP l)) (polyB l)
set_option maxHeartbeats 4000000 in
theorem l6gDone_any (v : Value) (l : List V2) (w : World) (hl : ReadsVecs w v l) :
    Calls Tryd.prog 36 #[v] w (TidyS l w) := by
  unfold TidyS
  have HI := Lib.hid (specPolygonIn_any v l w hl)
  have HT := Lib.hid (fun w' (hb : Below w.heap.size w w') (h : polyB l = true) => l6gTidy_any v l w' (hl.below hb) (by have := poly_len h; omega) (by have := poly_len h; omega))
  have hE := Lib.hid (fun w' => Vecs.empty w')
  obtain ⟨a, c, rfl, _⟩ := hl
  generalize tidyP l = T at *
  cases hb : polyB l
  · rw [hb] at HI
    clear hb HT
    go_enter Tryd.func36, Tryd.ntmps36
    go_wp2_with fail
    refine Calls.mono HI.out ?_
    rintro e w1 ⟨rfl, hb1⟩
    have hs1 := hb1.size
    have HE := Lib.hid ((hE.out w1).lower hs1)
    go_wp2
    go_returns
    exact ⟨_, rfl, HE.out, by go_grown⟩
  · rw [hb] at HI
    have HT2 := Lib.hid (fun w' hq => HT.out w' hq hb)
    clear hb HT
    go_enter Tryd.func36, Tryd.ntmps36
    go_wp2_with fail
    refine Calls.mono HI.out ?_
    rintro e w1 ⟨rfl, hb1⟩
    have hs1 := hb1.size
    go_wp2_with fail
    refine Calls.mono (HT2.out _ hb1) ?_
    rintro e w2 ⟨v2, rfl, I2, hb2⟩
    have HB := Lib.hid (belowTo hb1 hb2)
    have HI2 := Lib.hid (I2.lower hs1)
    clear hb2 I2
    go_wp2
    go_returns
    exact ⟨_, rfl, HI2.out, HB.out⟩
set_option maxHeartbeats 4000000 in
theorem polygonTidy_any (v : Value) (l : List V2) (w : World) (hl : ReadsVecs w v l) (hg : EtOk w) :
    Calls Tryd.prog 22 #[v] w (GivesVecsR w (gV (polyB l) (tidyP l)) (polyB l)) := by
  have HC := Lib.hid (polyCheck_any v l w hl)
  have HH := Lib.hid (fun w' (hb : Below w.heap.size w w') (h : polyB l = true) => hullOf_any v l w' (hg.below hb) (hl.below hb) (by have := poly_len h; omega) (poly_big h))
  have HP := Lib.hid (fun (h : polyB l = true) => hull_poly h)
  have HQ := Lib.hid (tidyP_poly l)
  obtain ⟨a, c, rfl, _⟩ := hl
  unfold GivesVecsR
  generalize tidyP l = T at *
  cases hb : polyB l
  · rw [hb] at HC
    clear hb HH HP HQ
    go_enter Tryd.func22, Tryd.ntmps22
    go_wp2_with fail
    refine Calls.mono HC.out ?_
    rintro e w1 ⟨he, hb1⟩
    rcases polyEnd_of he with ⟨h, _⟩ | ⟨_, s, rfl⟩
    · cases h
    clear he
    go_wp2_with fail
    refine Calls.mono (none_hit s _ (hg.below hb1)) ?_
    rintro e w2 ⟨rfl, hb2⟩
    have hb := belowTo hb1 hb2
    clear hb1 hb2
    go_wp2
    go_returns
    exact ⟨_, rfl, VecsR.nil _ _, hb⟩
  · have HH2 : Hid (∀ w', Below w.heap.size w w' → Calls Tryd.prog 53 #[.slice a l.length c] w' (GivesVecsR w' (gV true T) true)) := fun w' hq => by
      have h1 := HP.out hb
      have h2 := HH.out w' hq hb
      rw [h1, HQ.out, hb] at h2
      exact h2
    rw [hb] at HC
    clear hb HH HP HQ
    go_enter Tryd.func22, Tryd.ntmps22
    go_wp2_with fail
    refine Calls.mono HC.out ?_
    rintro e w1 ⟨he, hb1⟩
    rcases polyEnd_of he with ⟨_, rfl⟩ | ⟨h, _⟩
    rotate_left
    · cases h
    clear he
    go_wp2_with fail
    refine Calls.mono (none_nil _) ?_
    rintro e w2 ⟨rfl, hb2⟩
    have hb := belowTo hb1 hb2
    clear hb1 hb2
    have hs := hb.size
    go_wp2_with fail
    refine Calls.mono (HH2.out _ hb) ?_
    rintro e w3 ⟨v3, rfl, I3, hb3⟩
    have HB := Lib.hid (belowTo hb hb3)
    have HI3 := Lib.hid (I3.lower hs)
    clear hb3 I3
    go_wp2
    go_returns
    exact ⟨_, rfl, HI3.out, HB.out⟩
end Go.Proofs.YtgaeibibeekclaaDoor
