/- Tables: both functions of the program. -/
import Derived.Test.YtohojjoediibhaaDoorEu
import Derived.Test.YtohojjoediibhaaDoorEc
namespace Go.Proofs.YtohojjoediibhaaDoor
open Go.RowKit Go.Maps

attribute [local go_sem] Oper.semAt_some
set_option maxHeartbeats 4000000 in
theorem surfaceTable_any (v : Value) (l : List V2) (w : World) (hl : ReadsVecs w v l) (hg : EtOk w) :
    Calls Tryd.prog 71 #[v] w (GivesRowsOk w (smoothB l) (tabLL l)) := by
  have HO := Lib.hid (smoothFanOf_any v l w hl hg)
  have HT := Lib.hid (fun base g ns w' hF (h : smoothB (rays ns) = true) => table_any base g ns w' hF h)
  have HR := Lib.hid (fun w' (h : smoothB l = true) => rows_any l w' h)
  have HN := Lib.hid (fun W : World => Rows2.nil W W.heap.size)
  clear hl hg
  cases hs : smoothB l
  · rw [hs] at HO
    clear hs HT HR
    go_enter Tryd.func71, Tryd.ntmps71
    go_wp2_with fail
    refine Calls.mono HO.out ?_
    rintro e w1 ⟨⟨h, _⟩ | ⟨_, rfl⟩, hb1⟩
    · cases h
    have HX := Lib.hid ((HN.out w1).lower hb1.size)
    have HB := Lib.hid hb1
    go_wp2
    go_returns
    exact givesRowsOk HX.out HB.out
  · rw [hs] at HO
    have HR2 := Lib.hid (fun w' => HR.out w' hs)
    have HT2 := Lib.hid (fun base g ns w' hF (h : rays ns = l) => by have := HT.out base g ns w' hF (by rw [h]; exact hs); rw [h] at this; exact this)
    clear hs HR HT
    go_enter Tryd.func71, Tryd.ntmps71
    go_wp2_with fail
    refine Calls.mono HO.out ?_
    rintro e w1 ⟨⟨_, g, ns, rfl, hF, hn⟩ | ⟨h, _⟩, hb1⟩
    case inr => cases h
    have HT3 := Lib.hid (fun w2 hb => HT2.out _ g ns w2 (FanAt.below hF hb) hn)
    have HB := Lib.hid hb1
    have hs1 := hb1.size
    clear hF hn hb1 HT2
    go_wp2_with fail
    refine Calls.mono (HT3.out _ (by go_grown)) ?_
    rintro e w2 ⟨rfl, hb2⟩
    have HB2 := Lib.hid (belowTo HB.out hb2)
    clear hb2 HT3
    go_wp2_with fail
    refine Calls.mono (HR2.out _) ?_
    rintro e w3 ⟨u, hi, rfl, hR, hb3⟩
    have HRr := Lib.hid (hR.lower HB2.out.size)
    have HB3 := Lib.hid (belowTo HB2.out hb3)
    clear hR hb3
    go_wp2
    go_returns
    exact givesRowsOk HRr.out HB3.out
end Go.Proofs.YtohojjoediibhaaDoor
