/- FanConvex: the program, the model. -/
import Derived.Test.YtohojjoediibhaaDoorB9
import Derived.Test.YtohojjoediibhaaDoorBf
import Derived.Test.YtohojjoediibhaaDoorBe
namespace Go.Proofs.YtohojjoediibhaaDoor
open Go.RowKit

def cvxP (n : Int) : Bool := decide (-2 ≤ n)
def cvxL (d : List Int) : Bool := d.all cvxP
def convB (l : List V2) : Bool := smoothB l && cvxL (numsZ l)
theorem cvx_bad {d : List Int} {k : Nat} (hk : k < d.length) (h : cvxP (gz d k) = false) : cvxL d = false := by
  unfold cvxL
  rw [List.all_eq_false]
  exact ⟨_, gz_mem hk, by rw [h]; decide⟩
theorem cvx_good {d : List Int} (h : ∀ k, k < d.length → cvxP (gz d k) = true) : cvxL d = true := by
  unfold cvxL
  rw [List.all_eq_true]
  intro x hx
  obtain ⟨i, hi, rfl⟩ := List.mem_iff_getElem.1 hx
  have := h i hi
  unfold gz at this
  rwa [List.getElem?_eq_getElem hi] at this
set_option maxHeartbeats 400000 in
theorem convex1_any (n : Int) (w : World) :
    Calls Tryd.prog 136 #[.int .i64 n] w fun e w' => e = .returned (.bool (cvxP n)) ∧ w' = w := by
  unfold cvxP
  go_enter Tryd.func136, Tryd.ntmps136
  go_wp2
  all_goals go_returns
  all_goals (refine ⟨ret_bool ?_, rfl⟩; first | rfl | simp | (rw [Bool.eq_iff_iff]; simp; try omega))
set_option maxHeartbeats 4000000 in
theorem everyConvex_any (v : Value) (d : List Int) (w : World) (h : ReadsInts w v d) :
    Calls Tryd.prog 135 #[v, .func (.func 136) #[] #[]] w fun e w' => e = .returned (.bool (cvxL d)) ∧ w' = w := by
  obtain ⟨a, c, rfl, hm, hc⟩ := h
  have HC := Lib.hid hc
  have HB := Lib.hid (fun k hk h => cvx_bad (d := d) (k := k) hk h)
  have HG := Lib.hid (fun h => cvx_good (d := d) h)
  obtain ⟨n, hn⟩ : ∃ n, n = d.length := ⟨_, rfl⟩
  have HN := Lib.hid hn
  rw [← hn] at hm ⊢
  clear hc hn
  go_enter Tryd.func135, Tryd.ntmps135
  go_wp2
  go_loop [9] (fun s => ∃ k : Nat, s = .int .i64 k ∧ k ≤ n ∧ Hid (∀ j, j < k → cvxP (gz d j) = true)) (fun s => n - (intOf s).toNat)
  case atStart => exact ⟨0, rfl, Nat.zero_le _, fun j hj => absurd hj (Nat.not_lt_zero _)⟩
  case round =>
    obtain ⟨k, rfl, hk, HR⟩ := hrel
    by_cases hlt : k < n
    · have hkl : k < d.length := by have := HN.out; omega
      obtain ⟨bb, off, rfl, hb, hcell⟩ := HC.out (by omega)
      have c1 : w.cell? ⟨bb, off + k, none⟩ = some (.int .i64 (gz d k)) := hcell k hkl
      have j1 : (0 : Int) ≤ (k : Int) := by omega
      have j2 : (k : Int) < (n : Int) := by omega
      have HI := Lib.hid (fun w' => convex1_any (gz d k) w')
      cases hz : cvxP (gz d k)
      · have HB2 := Lib.hid (HB.out k hkl hz)
        rw [hz] at HI
        clear hz hcell HR
        generalize gz d k = z at c1 HI
        go_wp2_with fail
        refine Calls.mono (HI.out _) ?_
        rintro e w1 ⟨rfl, rfl⟩
        go_wp2
        go_returns
        exact ⟨by rw [HB2.out]; rfl, rfl⟩
      · have HR2 : Hid (∀ j, j < k + 1 → cvxP (gz d j) = true) := fun j hj => by
          by_cases e : j = k
          · subst e; exact hz
          · exact HR.out j (by omega)
        rw [hz] at HI
        clear hz hcell HR
        generalize gz d k = z at c1 HI
        go_wp2_with fail
        refine Calls.mono (HI.out _) ?_
        rintro e w1 ⟨rfl, rfl⟩
        go_wp2
        go_round
        case rel => exact ⟨k + 1, by go_num, by omega, HR2⟩
        case measure => simp [intOf]; omega
    · have hkn : k = n := by omega
      subst hkn
      have HA := Lib.hid (HG.out (fun j hj => HR.out j (by have := HN.out; omega)))
      clear HR HC
      go_wp2
      go_returns
      exact ⟨by rw [HA.out]; rfl, rfl⟩
set_option maxHeartbeats 4000000 in
theorem fanConvex_any (v : Value) (l : List V2) (w : World) (hl : ReadsVecs w v l) (hg : EtOk w) :
    Calls Tryd.prog 77 #[v] w fun e w' => e = .returned (.bool (convB l)) ∧ Below w.heap.size w w' := by
  have HO := Lib.hid (smoothFanOf_any v l w hl hg)
  have HV := Lib.hid (fun h => (smooth_all (l := l) h).1)
  have HS := Lib.hid (fun (ns : List Node) h hn => fan_small (l := l) (ns := ns) (smooth_in h).1 hn)
  have HE := Lib.hid (fun v' b' w' (hI : Ints w' b' v' (numsZ l)) (hm : (numsZ l).length ≤ 1152921504606846976) => everyConvex_any v' (numsZ l) w' (hI.reads hm))
  have HLn := Lib.hid (fun h => (show (numsZ l).length ≤ 1152921504606846976 by rw [nums_len]; have := fan_len (smooth_in (l := l) h).1; omega))
  clear hl
  unfold convB
  generalize hb : smoothB l = b at HO HV HS HLn ⊢
  generalize cvxL (numsZ l) = K at *
  go_enter Tryd.func77, Tryd.ntmps77
  go_wp2_with fail
  refine Calls.mono HO.out ?_
  rintro e w1 ⟨⟨rfl, g, ns, rfl, hF, hn⟩ | ⟨rfl, rfl⟩, hb1⟩
  · obtain ⟨hs, hnl⟩ := HS.out ns (by simp) hn
    have HT := Lib.hid (callsIn_wide.1 (numbers_in 3 (by omega) w.heap.size g ns w1 hF hs (by rw [hn]; exact HV.out (by simp))))
    rw [hn] at HT
    have HL := Lib.hid (HLn.out rfl)
    clear hn hnl hF HV HS hb
    go_wp2_with fail
    refine Calls.mono HT.out ?_
    rintro e w2 ⟨v2, rfl, hV, hb2⟩
    have HE2 := Lib.hid (HE.out v2 _ w2 hV HL.out)
    have hB := belowTo hb1 hb2
    clear hV hb2 HT HE
    go_wp2_with fail
    refine Calls.mono HE2.out ?_
    rintro e w3 ⟨rfl, rfl⟩
    go_wp2
    go_returns
    exact ⟨by cases K <;> rfl, hB⟩
  · clear hb
    go_wp2
    go_returns
    exact ⟨rfl, hb1⟩
end Go.Proofs.YtohojjoediibhaaDoor
