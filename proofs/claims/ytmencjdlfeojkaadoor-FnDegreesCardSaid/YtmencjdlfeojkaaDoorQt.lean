/- Divisors: the model's functions. -/
import Derived.Test.YtmencjdlfeojkaaDoorQo
import Derived.Test.YtmencjdlfeojkaaDoorQq
namespace Go.Proofs.YtmencjdlfeojkaaDoor
open Go.RowKit

set_option maxHeartbeats 4000000 in
theorem specDivisorDegrees_any (v : Value) (l : List V2) (u : Value) (d : List Int) (w : World) (hl : ReadsVecs w v l) (hd : ReadsInts w u d) :
    Calls Tryd.prog 27 #[v, u] w (GivesIntsOk w (gV (divB l d) (degsZ l d)) (divB l d)) := by
  have HI := Lib.hid (specDivisorIn_any v l u d w hl hd)
  have HE := Lib.hid (fun w' => Ints.empty w')
  have HD := Lib.hid (fun w' (hb : Below w.heap.size w w') (h : divB l d = true) => l4Degrees_any v u l d w' (hl.below hb) (hd.below hb) (div_in h).2.1 (by have := div_len h; omega) (by have := div_len h; omega) (div_smooth h) (bnd_mono (div_bnd h) (by omega)))
  clear hl hd
  cases hb : divB l d
  · rw [hb] at HI
    clear hb HD
    go_enter Tryd.func27, Tryd.ntmps27
    go_wp2_with fail
    refine Calls.mono HI.out ?_
    rintro e w1 ⟨rfl, hb1⟩
    have hs1 := hb1.size
    have HE2 := Lib.hid ((HE.out w1).lower hs1)
    go_wp2
    go_returns
    exact ⟨_, rfl, HE2.out, by go_grown⟩
  · rw [hb] at HI HD
    clear hb
    go_enter Tryd.func27, Tryd.ntmps27
    go_wp2_with fail
    refine Calls.mono HI.out ?_
    rintro e w1 ⟨rfl, hb1⟩
    have hs1 := hb1.size
    go_wp2_with fail
    refine Calls.mono (HD.out _ hb1 (by simp)) ?_
    rintro e w2 ⟨v2, rfl, hI, hb2⟩
    have HI2 := Lib.hid (hI.lower hs1)
    have hB := belowTo hb1 hb2
    clear hI hb1 hb2
    go_wp2
    go_returns
    exact ⟨_, rfl, HI2.out, hB⟩
end Go.Proofs.YtmencjdlfeojkaaDoor
