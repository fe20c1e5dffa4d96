/- Fans: built from a list of cones: both sides. -/
import Derived.Test.YtdlofnkimikaiaaGreatDoorKb
import Derived.Test.YtdlofnkimikaiaaGreatDoorBb
import Derived.Test.YtdlofnkimikaiaaGreatDoorB3
namespace Go.Proofs.YtdlofnkimikaiaaGreatDoor
open Go.RowKit

def buildS : List Int → List V2 → Option (List V2)
  | [], l => some l
  | i :: r, l => if smoothB l && blowB l i then buildS r (blowL l i.toNat (blowP l i.toNat)) else none
def triL : List V2 := [(1, 0), (0, 1), (-1, -1)]
theorem tri_smooth : smoothB triL = true := by decide +kernel
def builtB (is : List Int) : Bool := (buildS is triL).isSome
def builtL (is : List Int) : List V2 := (buildS is triL).getD []
theorem build_step {is : List Int} {k : Nat} {l : List V2} (hk : k < is.length) : buildS (is.drop k) l = if smoothB l && blowB l (is[k]?.getD 0) then buildS (is.drop (k + 1)) (blowL l (is[k]?.getD 0).toNat (blowP l (is[k]?.getD 0).toNat)) else none := by
  rw [List.drop_eq_getElem_cons hk, List.getElem?_eq_getElem hk]
  rfl
theorem build_len (is : List Int) : ∀ l l', l.length ≤ 20 → buildS is l = some l' → l'.length ≤ 20 := by
  induction is with
  | nil => intro l l' h e; cases e; exact h
  | cons i r ih =>
    intro l l' h e
    unfold buildS at e
    split at e
    · next hc =>
      rw [Bool.and_eq_true] at hc
      have h2 := hc.2
      unfold blowB at h2
      rw [Bool.and_eq_true] at h2
      exact ih _ _ (fan_len h2.2).2 e
    · cases e
theorem built_len {is : List Int} (h : builtB is = true) : (builtL is).length ≤ 20 := by
  unfold builtB at h
  obtain ⟨l', hl⟩ := Option.isSome_iff_exists.1 h
  unfold builtL
  rw [hl]
  exact build_len is triL l' (by decide) hl
theorem smooth_snoc {l : List V2} {p : V2} (h : Smooth l) (h0 : 0 < l.length) (hp : vecB p.1 p.2 = true) (h1 : detV (cyc l (l.length - 1)) p = 1) (h2 : detV p (cyc l 0) = 1) : Smooth (l ++ [p]) := by
  refine smooth_of (by simp) (fun i hi => ?_) (fun i hi => ?_)
  · simp at hi
    by_cases e : i < l.length
    · rw [cyc_app_lt e]; exact h.1 i
    · rw [show i = l.length by omega, cyc_app_last]; exact hp
  · simp at hi
    by_cases e : i + 1 < l.length
    · rw [cyc_app_lt (by omega), cyc_app_lt e]; exact h.2 i
    · by_cases e2 : i + 1 = l.length
      · rw [cyc_app_lt (by omega), e2, cyc_app_last, show i = l.length - 1 by omega]; exact h1
      · obtain rfl : i = l.length := by omega
        rw [cyc_app_last]
        have : cyc (l ++ [p]) (l.length + 1) = cyc (l ++ [p]) 0 := by
          have := cyc_add (l ++ [p]) 0
          rwa [show 0 + (l ++ [p]).length = l.length + 1 by simp] at this
        rw [this, cyc_app_lt h0]
        exact h2
theorem rot_blowV {l : List V2} {i : Nat} {p : V2} : rot (l.length - (i + 1)) (rot (i + 1) l ++ [p]) = blowL l i p := by
  unfold rot blowL
  rw [List.append_assoc, ← List.length_drop, List.drop_left, List.take_left]
theorem blow_cyc {l : List V2} {i : Nat} {p : V2} (h : i < l.length) : cyc (blowL l i p) (i + 1) = p := by
  rw [cyc_lt (by rw [blowL_len h]; omega)]
  unfold blowL
  have e : (l.take (i + 1)).length = i + 1 := by simp; omega
  rw [List.append_assoc, List.getElem?_append_right (by omega), e, Nat.sub_self]
  rfl
theorem smooth_blow {l : List V2} {i : Nat} (h : Smooth l) (hi : i < l.length) (hf : fanB (blowL l i (blowP l i)) = true) : smoothB (blowL l i (blowP l i)) = true := by
  have hv := fan_vec hf (i + 1)
  rw [blow_cyc hi] at hv
  have hr := smooth_rot (k := i + 1) h (by omega)
  have hd := h.2 i
  have hlast : cyc (rot (i + 1) l) ((rot (i + 1) l).length - 1) = cyc l i := by
    rw [rot_len, cyc_rot (by omega), show i + 1 + (l.length - 1) = i + l.length by omega, cyc_add]
  have hfirst : cyc (rot (i + 1) l) 0 = cyc l (i + 1) := by rw [cyc_rot (by omega), Nat.add_zero]
  have hS : Smooth (blowL l i (blowP l i)) := by
    rw [← rot_blowV]
    refine smooth_rot (smooth_snoc hr (by rw [rot_len]; omega) hv ?_ ?_) (by simp [rot_len]; omega)
    · rw [hlast]
      unfold detV detZ blowP at *
      rw [Int.mul_add, Int.mul_add, Int.mul_comm (cyc l i).1 (cyc l i).2]
      omega
    · rw [hfirst]
      unfold detV detZ blowP at *
      rw [Int.add_mul, Int.add_mul, Int.mul_comm (cyc l (i + 1)).1 (cyc l (i + 1)).2]
      omega
  unfold smoothB
  rw [hf, Bool.true_and]
  exact List.all_eq_true.2 (fun j _ => by simpa [smB] using hS.2 j)
theorem Vecs.tri (w : World) : Vecs (w.alloc (.cells #[.int .i64 1, .int .i64 0, .int .i64 0, .int .i64 1, .int .i64 (-1), .int .i64 (-1)] 60)) w.heap.size (.slice (some ⟨w.heap.size, 0, none⟩) 3 3) triL :=
  ⟨rfl, .inr ⟨w.heap.size, 3, #[.int .i64 1, .int .i64 0, .int .i64 0, .int .i64 1, .int .i64 (-1), .int .i64 (-1)], rfl, Nat.le_refl _, heap_alloc_new w _, Nat.le_refl _, by decide, rfl, rfl⟩⟩
def BuildI (w : World) (is : List Int) (s4 s5 : Value) (wr : World) : Prop :=
  ∃ (L : List V2) (k : Nat), Vecs wr w.heap.size s4 L ∧ s5 = .int .i64 k ∧ k ≤ is.length ∧ L.length ≤ 20 ∧ buildS (is.drop k) L = buildS is triL ∧ Below w.heap.size w wr
set_option maxHeartbeats 8000000 in
theorem specFanBuild_any (v : Value) (is : List Int) (w : World) (hl : ReadsInts w v is) :
    Calls Tryz.prog 38 #[v] w (GivesVecsOk w (gV (builtB is) (builtL is)) (builtB is)) := by
  obtain ⟨a, c, rfl, hm, hcell⟩ := hl
  have HC := Lib.hid hcell
  have hE := Lib.hid (fun w' => Vecs.empty w')
  have HI0 : Hid (BuildI w is (.slice (some ⟨w.heap.size, 0, none⟩) 3 3) (.int .i64 0) (w.alloc (.cells #[.int .i64 1, .int .i64 0, .int .i64 0, .int .i64 1, .int .i64 (-1), .int .i64 (-1)] 60))) :=
    ⟨triL, 0, Vecs.tri w, rfl, Nat.zero_le _, by decide, rfl, by go_grown⟩
  have HS := Lib.hid (fun k (l : List V2) (hk : k < is.length) => build_step (l := l) hk)
  clear hcell
  go_enter Tryz.func38, Tryz.ntmps38
  go_wp2
  go_loopw [4, 5] (fun s4 s5 wr => Hid (BuildI w is s4 s5 wr)) (fun _ s5 _ => is.length - (intOf s5).toNat)
  case atStart => exact HI0
  case round =>
    obtain ⟨L, k, hV, he, hk, h20, hbd, hB⟩ := hrel.out
    clear hrel HI0
    subst he
    have i1 : (0 : Int) ≤ (k : Int) := by omega
    have HV := Lib.hid hV
    have HBd := Lib.hid hbd
    clear hV hbd
    by_cases hlt : k < is.length
    · obtain ⟨bb, off, rfl, hbb, hcs⟩ := HC.out (by omega)
      have i2 : (k : Int) < (is.length : Int) := by omega
      have c0 := (hB.cell (p := ⟨bb, off + k, none⟩) hbb).trans (hcs k hlt)
      have hbl := Nat.lt_of_lt_of_le hbb hB.size
      have HSk := Lib.hid (HS.out k L hlt)
      clear hcs
      generalize is[k]?.getD 0 = i at *
      have HW := Lib.hid (specFanBlow_any _ L i wr (HV.out.reads (by omega)))
      have hs := hB.size
      cases hK : smoothB L && blowB L i
      · rw [hK] at HW
        have HN : Hid (buildS is triL = none) := by
          have := HSk.out
          rw [hK] at this
          exact HBd.out.symm.trans this
        clear hK HSk HBd HV
        go_wp2_with fail
        refine Calls.mono HW.out ?_
        rintro e w2 ⟨v2, rfl, _, hb2⟩
        have hB2 := belowTo hB hb2
        have HE := Lib.hid ((hE.out w2).lower hB2.size)
        clear hb2
        go_wp2
        go_returns
        have h1 : builtB is = false := by unfold builtB; rw [HN.out]; rfl
        rw [h1]
        exact ⟨_, rfl, HE.out, hB2.alloc hB2.size _⟩
      · rw [hK] at HW
        have hLn : (blowL L i.toNat (blowP L i.toNat)).length ≤ 20 := by
          rw [Bool.and_eq_true] at hK
          have h2 := hK.2
          unfold blowB at h2
          rw [Bool.and_eq_true] at h2
          exact (fan_len h2.2).2
        have HN : Hid (buildS (is.drop (k + 1)) (blowL L i.toNat (blowP L i.toNat)) = buildS is triL) := by
          have := HSk.out
          rw [hK] at this
          exact this.symm.trans HBd.out
        have HLn := Lib.hid hLn
        clear hK HSk HBd HV hLn
        go_wp2_with fail
        refine Calls.mono HW.out ?_
        rintro e w2 ⟨v2, rfl, hV2, hb2⟩
        have hB2 := belowTo hB hb2
        have HI2 : Hid (BuildI w is v2 (.int .i64 ((k : Int) + 1)) w2) := ⟨_, k + 1, hV2.lower hs, by simp, by omega, HLn.out, HN.out, hB2⟩
        clear hb2 hV2 hB2
        go_wp2
        go_roundw
        case rel => exact HI2
        case measure => simp [intOf]; omega
    · obtain rfl : k = is.length := by omega
      have i2 : ¬ (is.length : Int) < (is.length : Int) := by omega
      have HN : Hid (buildS is triL = some L) := by
        have := HBd.out
        rw [List.drop_length] at this
        exact this.symm
      clear HBd
      go_wp2
      go_returns
      have h1 : builtB is = true := by unfold builtB; rw [HN.out]; rfl
      have h2 : builtL is = L := by unfold builtL; rw [HN.out]; rfl
      rw [h1, h2]
      exact ⟨_, rfl, HV.out, hB⟩
def BuildG (w : World) (g : Nat) (is : List Int) (s : Value) (wr : World) : Prop :=
  ∃ (ns : List Node) (k : Nat), FanAt wr w.heap.size g ns ∧ s = .int .i64 k ∧ k ≤ is.length ∧ smoothB (rays ns) = true ∧ buildS (is.drop k) (rays ns) = buildS is triL ∧ Below w.heap.size w wr
end Go.Proofs.YtdlofnkimikaiaaGreatDoor
