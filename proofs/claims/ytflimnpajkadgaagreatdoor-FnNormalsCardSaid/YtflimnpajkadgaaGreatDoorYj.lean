/- PolygonTidy: both sides; l6gDone. -/
import Derived.Test.YtflimnpajkadgaaGreatDoorYi
import Derived.Test.YtflimnpajkadgaaGreatDoorB8
namespace Go.Proofs.YtflimnpajkadgaaGreatDoor
open Go.RowKit

theorem poly_big {l : List V2} (h : polyB l = true) : ∀ x ∈ l, big 400000 x.1 x.2 := by
  intro x hx
  obtain ⟨j, hj, rfl⟩ := List.mem_iff_getElem.1 hx
  have e : l[j] = cyc l j := by rw [cyc_lt hj, List.getElem?_eq_getElem hj]; rfl
  rw [e]
  have := poly_small h j
  unfold big
  omega
def TidyS (l : List V2) (w : World) : Ending → World → Prop := GivesVecsOk w (gV (polyB l) (tidyP l)) (polyB l)
set_option maxHeartbeats 4000000 in
theorem l6gDone_any (v : Value) (l : List V2) (w : World) (hl : ReadsVecs w v l) :
    Calls Tryz.prog 64 #[v] w (TidyS l w) := by
  unfold TidyS
  have HI := Lib.hid (specPolygonIn_any v l w hl)
  have HT := Lib.hid (fun w' (hb : Below w.heap.size w w') (h : polyB l = true) => l6gTidy_any v l w' (hl.below hb) (by have := poly_len h; omega) (by have := poly_len h; omega))
  have hE := Lib.hid (fun w' => Vecs.empty w')
  obtain ⟨a, c, rfl, _⟩ := hl
  generalize tidyP l = T at *
  cases hb : polyB l
  · rw [hb] at HI
    clear hb HT
    go_enter Tryz.func64, Tryz.ntmps64
    go_wp2_with fail
    refine Calls.mono HI.out ?_
    rintro e w1 ⟨rfl, hb1⟩
    have hs1 := hb1.size
    have HE := Lib.hid ((hE.out w1).lower hs1)
    go_wp2
    go_returns
    exact ⟨_, rfl, HE.out, by go_grown⟩
  · rw [hb] at HI
    have HT2 := Lib.hid (fun w' hq => HT.out w' hq hb)
    clear hb HT
    go_enter Tryz.func64, Tryz.ntmps64
    go_wp2_with fail
    refine Calls.mono HI.out ?_
    rintro e w1 ⟨rfl, hb1⟩
    have hs1 := hb1.size
    go_wp2_with fail
    refine Calls.mono (HT2.out _ hb1) ?_
    rintro e w2 ⟨v2, rfl, I2, hb2⟩
    have HB := Lib.hid (belowTo hb1 hb2)
    have HI2 := Lib.hid (I2.lower hs1)
    clear hb2 I2
    go_wp2
    go_returns
    exact ⟨_, rfl, HI2.out, HB.out⟩
end Go.Proofs.YtflimnpajkadgaaGreatDoor
