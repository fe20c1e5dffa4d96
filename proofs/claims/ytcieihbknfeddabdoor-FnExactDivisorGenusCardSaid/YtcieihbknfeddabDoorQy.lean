/- Euler numbers, genera: the program's functions. -/
import Derived.Test.YtcieihbknfeddabDoorQ1
import Derived.Test.YtcieihbknfeddabDoorQ2
namespace Go.Proofs.YtcieihbknfeddabDoor
open Go.RowKit

set_option maxHeartbeats 4000000 in
theorem divisorEuler_any (v : Value) (l : List V2) (u : Value) (d : List Int) (w : World) (hl : ReadsVecs w v l) (hd : ReadsInts w u d) (hg : EtOk w) :
    Calls Tryd.prog 47 #[v, u] w fun e w' => e = .returned (.tuple #[.int .i64 (gate (divB l d) (eulZ l d (-1))), .bool (divB l d)]) ∧ Below w.heap.size w w' := by
  have HO := Lib.hid (divisorOf_any v u l d w hl hd hg)
  have HD := Lib.hid (fun base g (ns : List Node) w' (hF : FanAt w' base g ns) (hn : rays ns = l) (hb : Below w.heap.size w w') (h : divB l d = true) => by
    have h1 := euler_any base g ns u d w' hF (by rw [hn]; exact h) (hd.below hb)
    rw [hn] at h1
    exact h1)
  obtain ⟨a, c, rfl, _⟩ := hd.len
  clear hl hd
  generalize eulZ l d (-1) = z at *
  cases hb : divB l d
  · rw [hb] at HO
    clear hb HD
    go_enter Tryd.func47, Tryd.ntmps47
    go_wp2_with fail
    refine Calls.mono HO.out ?_
    rintro e w1 ⟨⟨h, _⟩ | ⟨_, rfl⟩, hb1⟩
    · cases h
    have hs1 := hb1.size
    go_wp2
    go_returns
    exact ⟨rfl, by go_grown⟩
  · rw [hb] at HO
    have HD2 := Lib.hid (fun base g ns w' hF hn h => HD.out base g ns w' hF hn h hb)
    clear hb HD
    go_enter Tryd.func47, Tryd.ntmps47
    go_wp2_with fail
    refine Calls.mono HO.out ?_
    rintro e w1 ⟨⟨_, g, ns, rfl, hF, hn⟩ | ⟨h, _⟩, hb1⟩
    case inr => cases h
    have HD3 := Lib.hid (fun w2 (h : Below w1.heap.size w1 w2) => HD2.out w.heap.size g ns w2 (hF.below h) hn (belowTo hb1 h))
    have hs1 := hb1.size
    clear hF hn HD2
    go_wp2_with fail
    refine Calls.mono (HD3.out _ (by go_grown)) ?_
    rintro e w2 ⟨rfl, hb2⟩
    have hB : Below w.heap.size w w2 := belowTo (by go_grown) hb2
    clear hb2
    go_wp2
    go_returns
    exact ⟨rfl, hB⟩
set_option maxHeartbeats 4000000 in
theorem divisorGenus_any (v : Value) (l : List V2) (u : Value) (d : List Int) (w : World) (hl : ReadsVecs w v l) (hd : ReadsInts w u d) (hg : EtOk w) :
    Calls Tryd.prog 49 #[v, u] w fun e w' => e = .returned (.tuple #[.int .i64 (gate (divB l d) (eulZ l d (1))), .bool (divB l d)]) ∧ Below w.heap.size w w' := by
  have HO := Lib.hid (divisorOf_any v u l d w hl hd hg)
  have HD := Lib.hid (fun base g (ns : List Node) w' (hF : FanAt w' base g ns) (hn : rays ns = l) (hb : Below w.heap.size w w') (h : divB l d = true) => by
    have h1 := genus_any base g ns u d w' hF (by rw [hn]; exact h) (hd.below hb)
    rw [hn] at h1
    exact h1)
  obtain ⟨a, c, rfl, _⟩ := hd.len
  clear hl hd
  generalize eulZ l d (1) = z at *
  cases hb : divB l d
  · rw [hb] at HO
    clear hb HD
    go_enter Tryd.func49, Tryd.ntmps49
    go_wp2_with fail
    refine Calls.mono HO.out ?_
    rintro e w1 ⟨⟨h, _⟩ | ⟨_, rfl⟩, hb1⟩
    · cases h
    have hs1 := hb1.size
    go_wp2
    go_returns
    exact ⟨rfl, by go_grown⟩
  · rw [hb] at HO
    have HD2 := Lib.hid (fun base g ns w' hF hn h => HD.out base g ns w' hF hn h hb)
    clear hb HD
    go_enter Tryd.func49, Tryd.ntmps49
    go_wp2_with fail
    refine Calls.mono HO.out ?_
    rintro e w1 ⟨⟨_, g, ns, rfl, hF, hn⟩ | ⟨h, _⟩, hb1⟩
    case inr => cases h
    have HD3 := Lib.hid (fun w2 (h : Below w1.heap.size w1 w2) => HD2.out w.heap.size g ns w2 (hF.below h) hn (belowTo hb1 h))
    have hs1 := hb1.size
    clear hF hn HD2
    go_wp2_with fail
    refine Calls.mono (HD3.out _ (by go_grown)) ?_
    rintro e w2 ⟨rfl, hb2⟩
    have hB : Below w.heap.size w w2 := belowTo (by go_grown) hb2
    clear hb2
    go_wp2
    go_returns
    exact ⟨rfl, hB⟩
end Go.Proofs.YtcieihbknfeddabDoor
