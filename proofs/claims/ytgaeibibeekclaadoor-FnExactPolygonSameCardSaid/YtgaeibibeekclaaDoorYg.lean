/- impl.hullOf, impl.made of polygons. -/
import Derived.Test.YtgaeibibeekclaaDoorBi
import Derived.Test.YtgaeibibeekclaaDoorBj
namespace Go.Proofs.YtgaeibibeekclaaDoor
open Go.RowKit

/-- the hull of some vectors -/
def hullD (l : List V2) : List V2 := hullZ (sortD l)
theorem hull_small {c : V2} : hullZ [c] = [] := rfl
theorem hull_short {l : List V2} (h : l.length ≤ 2) : polyB l = false := by
  cases k : polyB l
  · rfl
  · have := (prng_in (poly_in k).1).1
    omega
theorem hull_perm {S l : List V2} (hP : S.Perm l) (hW : Wk S) : polyB (hullZ S) = polyB (hullD l) ∧ (polyB (hullD l) = true → hullZ S = hullD l) := by
  have e : sortD S = sortD l := asc_ext (sortD_asc S) (sortD_asc l) (fun q => by rw [sortD_mem, sortD_mem]; exact hP.mem_iff)
  unfold hullD
  rw [← e]
  rcases hull_wk hW with h | ⟨⟨c, h1⟩, h2⟩
  · rw [h]
    exact ⟨rfl, fun _ => rfl⟩
  · have h3 : polyB (hullZ (sortD S)) = false := by rw [h1, hull_small]; exact hull_short (by simp)
    rw [h3, hull_short h2]
    exact ⟨rfl, fun h => by cases h⟩
set_option maxHeartbeats 8000000 in
theorem madePoly_any (v : Value) (l : List V2) (w : World) (hg : EtOk w) (h : ReadsVecs w v l) :
    Calls Tryd.prog 76 #[v] w fun e w' => e = .returned (.tuple #[if polyB l then v else .slice none 0 0, .bool (polyB l)]) ∧ Below w.heap.size w w' := by
  have HC := Lib.hid (fun w' (hb : Below w.heap.size w w') => polyCheck_any v l w' (h.below hb))
  obtain ⟨a, c, rfl, _⟩ := h
  generalize polyB l = K at *
  go_enter Tryd.func76, Tryd.ntmps76
  go_wp2_with fail
  refine Calls.mono (HC.out _ (by go_grown)) ?_
  rintro e w1 ⟨he, hb1⟩
  rcases polyEnd_of he with ⟨rfl, rfl⟩ | ⟨rfl, s, rfl⟩
  · clear he
    have hB : Below w.heap.size w w1 := belowTo (by go_grown) hb1
    clear hb1
    go_wp2_with fail
    refine Calls.mono (none_nil _) ?_
    rintro e w2 ⟨rfl, hb2⟩
    have hB2 := belowTo hB hb2
    clear hb2
    go_wp2
    go_returns
    exact ⟨rfl, hB2⟩
  · clear he
    have hB : Below w.heap.size w w1 := belowTo (by go_grown) hb1
    have HN := Lib.hid (none_hit s w1 (hg.below hB))
    clear hb1
    go_wp2_with fail
    refine Calls.mono HN.out ?_
    rintro e w2 ⟨rfl, hb2⟩
    have hB2 := belowTo hB hb2
    clear hb2
    go_wp2
    go_returns
    exact ⟨rfl, hB2⟩
set_option maxHeartbeats 8000000 in
theorem hullOf_any (v : Value) (l : List V2) (w : World) (hg : EtOk w) (h : ReadsVecs w v l) (hm : l.length ≤ 1000) (hbig : ∀ x ∈ l, big 400000 x.1 x.2) :
    Calls Tryd.prog 53 #[v] w (GivesVecsR w (gV (polyB (hullD l)) (hullD l)) (polyB (hullD l))) := by
  have HH := Lib.hid (hull_any v l w h hm hbig)
  have hl1 := h
  obtain ⟨a, c, rfl, _⟩ := hl1
  have HPm := Lib.hid (fun S (hP : S.Perm l) (hW : Wk S) => hull_perm hP hW)
  have HLn : Hid (∀ S, S.Perm l → (hullZ S).length ≤ 2000) := fun S hP => by
    have h1 := half_len S
    have h2 := half_len S.reverse
    have h3 := hP.length_eq
    have h4 : S.reverse.length = S.length := by simp
    show ((halfH S).tail.reverse ++ (halfH S.reverse).tail.reverse).length ≤ _
    rw [List.length_append]
    omega
  have HMd := Lib.hid (fun v' b' l' w' (hb : Below w.heap.size w w') (hI : VecsR w' b' v' l') (h : l'.length ≤ 2000) => madePoly_any v' l' w' (hg.below hb) (hI.reads (by omega)))
  clear h hm hbig
  generalize hullD l = H at *
  generalize hK : polyB H = K at *
  unfold GivesVecsR
  clear hg
  go_enter Tryd.func53, Tryd.ntmps53
  go_wp2_with fail
  refine Calls.mono HH.out ?_
  rintro e w1 ⟨S, v1, hP, hW, rfl, hI, hb1⟩
  obtain ⟨k1, k2⟩ := HPm.out S hP hW
  have HM2 := Lib.hid (HMd.out v1 _ _ w1 hb1 hI (HLn.out S hP))
  rw [k1] at HM2
  have HF : Hid (∀ w2, Below w1.heap.size w1 w2 → VecsR w2 w.heap.size (if K then v1 else .slice none 0 0) (gV K H)) := fun w2 hb => by
    cases K
    · exact VecsR.nil _ _
    · rw [k2 rfl] at hI
      exact hI.below hb
  have hb1' := hb1
  clear hI k1 k2 hP hW HMd HLn HPm HH hK
  go_wp2_with fail
  refine Calls.mono HM2.out ?_
  rintro e w2 ⟨rfl, hb2⟩
  have HF2 := Lib.hid (HF.out w2 hb2)
  have hB := belowTo hb1' hb2
  clear HF hb2 hb1
  generalize (if K = true then v1 else .slice none 0 0) = v2 at *
  go_wp2
  go_returns
  exact ⟨v2, rfl, HF2.out, hB⟩
set_option maxHeartbeats 4000000 in
theorem cornCheck_nil (a : Option Addr) (c : Nat) (w : World) :
    Calls Tryd.prog 52 #[.slice a 0 c] w fun e w' => e = .returned .nilIface ∧ Below w.heap.size w w' := by
  go_enter Tryd.func52, Tryd.ntmps52
  go_wp2
  refine wp_loop_rounds 1 ?_
  rw [rounds_succ]
  go_wp2
  go_returns
  exact ⟨rfl, Below.refl _ _⟩
end Go.Proofs.YtgaeibibeekclaaDoor
