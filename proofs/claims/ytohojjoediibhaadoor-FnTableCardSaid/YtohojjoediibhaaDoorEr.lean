/- Tables: the model's table. -/
import Derived.Test.YtohojjoediibhaaDoorEq
import Derived.Test.YtohojjoediibhaaDoorBm
import Derived.Test.YtohojjoediibhaaDoorBf
import Derived.Test.YtohojjoediibhaaDoorBe
import Derived.Maps.AppendAt
namespace Go.Proofs.YtohojjoediibhaaDoor
open Go.RowKit

def tabRow (l : List V2) (i : Nat) (m : Nat) : List Int := (List.range m).map (tabZ l i)
def tabTo (l : List V2) (m : Nat) : List (List Int) := (List.range m).map fun i => tabRow l i (l.length - 2)
def tabLL (l : List V2) : List (List Int) := tabTo l (l.length - 2)
theorem tabRow_succ (l : List V2) (i m : Nat) : tabRow l i (m + 1) = tabRow l i m ++ [tabZ l i m] := tab_snoc _ _
theorem tabRow_len (l : List V2) (i m : Nat) : (tabRow l i m).length = m := by simp [tabRow]
theorem tabTo_succ (l : List V2) (m : Nat) : tabTo l (m + 1) = tabTo l m ++ [tabRow l m (l.length - 2)] := by simp [tabTo, List.range_succ]
theorem tabTo_len (l : List V2) (m : Nat) : (tabTo l m).length = m := by simp [tabTo]
theorem tabTo_at {l : List V2} {m r : Nat} (h : r < m) : (tabTo l m)[r]?.getD [] = tabRow l r (l.length - 2) := by simp [tabTo, h]
theorem tabLL_off {l : List V2} (h : l.length ≤ 20) : offS (tabLL l) (tabLL l).length ≤ 324 := by
  have key : ∀ r, r ≤ l.length - 2 → offS (tabLL l) r = r * (l.length - 2) := by
    intro r
    induction r with
    | zero => intro _; simp [offS]
    | succ r ih =>
      intro hr
      have e : rowOf (tabLL l) r = tabRow l r (l.length - 2) := tabTo_at (by omega)
      unfold offS
      rw [ih (by omega), e, tabRow_len, Nat.succ_mul]
  have e : (tabLL l).length = l.length - 2 := tabTo_len _ _
  rw [e, key _ (Nat.le_refl _)]
  have h18 : l.length - 2 ≤ 18 := by omega
  exact Nat.le_trans (Nat.mul_le_mul h18 h18) (by decide)
theorem next_mod {i n : Nat} (h : i < n) : (i + 1) % n = if i + 1 = n then 0 else i + 1 := by
  split
  · next e => rw [e, Nat.mod_self]
  · exact Nat.mod_eq_of_lt (by omega)
def GivesRows (w : World) (L : List (List Int)) (e : Ending) (w' : World) : Prop := ∃ u hi, e = .returned u ∧ Rows2 w' w.heap.size hi u L ∧ Below w.heap.size w w'
theorem givesRows {w w' : World} {L : List (List Int)} {u : Value} {hi : Nat} (h1 : Rows2 w' w.heap.size hi u L) (h2 : Below w.heap.size w w') : GivesRows w L (.returned u) w' := ⟨u, hi, rfl, h1, h2⟩
set_option maxRecDepth 100000 in
set_option maxHeartbeats 16000000 in
theorem l8Table_any (v : Value) (l : List V2) (w : World) (hl : ReadsVecs w v l) (hS : Smooth l) (h3 : 3 ≤ l.length) (h20 : l.length ≤ 20) :
    Calls Tryd.prog 134 #[v] w (GivesRows w (tabLL l)) := by
  have HNu := Lib.hid (l3Numbers_any v l w hl (by omega) hS)
  have HGz := Lib.hid (fun i (hi : i < l.length) => gz_numsE (l := l) hi)
  have HNl : Hid ((numsZ l).length = l.length) := nums_len l
  have HRs := Lib.hid (fun i m => tabRow_succ l i m)
  have HTs := Lib.hid (fun m => tabTo_succ l m)
  have HRl := Lib.hid (fun i m => tabRow_len l i m)
  have HTl := Lib.hid (fun m => tabTo_len l m)
  have HTz : Hid (∀ i k, tabZ l i k = if i = k then numZ l (i + 2) else if i + 1 = k ∨ k + 1 = i then 1 else 0) := fun i k => rfl
  have HLL : Hid (tabLL l = tabTo l (l.length - 2)) := rfl
  obtain ⟨pa, pc, rfl, _⟩ := hl
  obtain ⟨j0, hj, jz0, jz1, jz2⟩ := info_parts infoInts
  obtain ⟨i0, hi, hz0, hz1, hz2⟩ := info_parts infoInt
  have hR0 := Lib.hid (fun W : World => Rows2.made W 24 rfl)
  obtain ⟨n, hn⟩ : ∃ n, n = l.length := ⟨_, rfl⟩
  rw [← hn] at h3 h20 HGz HNl HTs HLL HNu ⊢
  have HN := Lib.hid hn
  clear hS hn
  go_enter Tryd.func134, Tryd.ntmps134
  go_wp2_with fail
  refine Calls.mono HNu.out ?_
  rintro e w1 ⟨v1, rfl, hI, hb1⟩
  have HI := Lib.hid hI
  have hlen1 : (numsZ l).length = n := HNl.out
  obtain ⟨bb, off, c, hv1, _, hbb, hcs⟩ := (hI.reads (by rw [HNl.out]; omega)).open (by rw [HNl.out]; omega)
  rw [HNl.out] at hv1 hcs
  subst hv1
  have HCs := Lib.hid hcs
  have HR1 : Hid (Rows2 (w1.alloc (.cells #[] 24)) w1.heap.size (w1.heap.size + 1) (.slice (some ⟨w1.heap.size, 0, none⟩) 0 0) (tabTo l 0)) := hR0.out w1
  have hBb : Below w1.heap.size w1 (w1.alloc (.cells #[] 24)) := by go_grown
  have HB1 := Lib.hid hb1
  clear hI hcs hlen1 HNu hR0 hb1
  go_wp2
  go_loopw [5, 6] (fun s5 s6 wr => ∃ i hi, s6 = .int .i64 ((i : Nat) : Int) ∧ 2 ≤ i ∧ i ≤ n ∧ Hid (Rows2 wr w1.heap.size hi s5 (tabTo l (i - 2))) ∧ Below w1.heap.size w1 wr) (fun _ s6 _ => n - (intOf s6).toNat)
  case atStart => exact ⟨2, _, rfl, Nat.le_refl _, by omega, HR1, hBb⟩
  case round =>
    obtain ⟨i, hh, rfl, hi2, hin, HR, hBw⟩ := hrel
    clear HR1 hBb
    have p0 : (0 : Int) ≤ (i : Int) := by omega
    by_cases hlt : i < n
    · have p1 : (i : Int) < (n : Int) := by omega
      obtain ⟨wo, hwo⟩ : ∃ wo : World, wo = wr := ⟨_, rfl⟩
      subst hwo
      have HE7 : Hid (Ints (wo.alloc (.cells #[] 3)) wo.heap.size (.slice (some ⟨wo.heap.size, 0, none⟩) 0 0) (tabRow l (i - 2) (2 - 2))) := World.ownsRow_made wo #[] 0 (Nat.le_refl _) (by simp [maxLen]) rfl
      have hBk0 : Below wo.heap.size wo (wo.alloc (.cells #[] 3)) := by go_grown
      go_wp2
      go_loopw [7, 8] (fun s7 s8 wr => ∃ k : Nat, s8 = .int .i64 (k : Int) ∧ 2 ≤ k ∧ k ≤ n ∧ Hid (Ints wr wo.heap.size s7 (tabRow l (i - 2) (k - 2))) ∧ Below wo.heap.size wo wr) (fun _ s8 _ => n - (intOf s8).toNat)
      case atStart => exact ⟨2, rfl, Nat.le_refl _, by omega, HE7, hBk0⟩
      case round =>
        obtain ⟨k, rfl, hk2, hkn, HI7, hBk⟩ := hrel
        clear HE7 hBk0
        have r0 : (0 : Int) ≤ (k : Int) := by omega
        by_cases hkl : k < n
        · have r1 : (k : Int) < (n : Int) := by omega
          have n0 : ¬ n = 0 := by omega
          have n1 : 0 < n := by omega
          have n2 : ¬ (n : Int) = 0 := by omega
          have n3 : ((n : Int) == 0) = false := by simpa using n2
          have q1 : IntKind.i64.wrap ((i : Int) + 1) = (i : Int) + 1 := by rw [IntKind.wrap_i64]; omega
          have q2 : IntKind.i64.wrap ((k : Int) + 1) = (k : Int) + 1 := by rw [IntKind.wrap_i64]; omega
          have hZ := HTz.out (i - 2) (k - 2)
          by_cases hik : i = k
          · subst hik
            rw [if_pos (by omega), show i - 2 + 2 = i by omega] at hZ
            have e1 : (i : Int) = (i : Int) := rfl
            have e2 : ((i : Int) == (i : Int)) = true := by simp
            have c1 : wr.cell? ⟨bb, off + i, none⟩ = some (.int .i64 (numZ l i)) := by
              have h1 := HCs.out wr (belowTo hBw hBk) i (by omega)
              rw [HGz.out i (by omega)] at h1
              exact h1
            have HZ := Lib.hid hZ
            clear hZ e1
            generalize numZ l i = z at *
            have hown := HI7.out
            unfold Ints at hown
            rw [HRl.out] at hown
            have HL7 : Hid ((tabRow l (i - 2) (i - 2)).length = i - 2) := HRl.out _ _
            have HSk : Hid (tabRow l (i - 2) (i + 1 - 2) = tabRow l (i - 2) (i - 2) ++ [z]) := by show _ = _; rw [show i + 1 - 2 = (i - 2) + 1 by omega, HRs.out, HZ.out]
            have hsr := hBk.size
            clear HI7
            go_wp2_with (at_builtin; refine wpList_append_own_at _ rfl _ _ 24 rfl wo.heap.size 3 i0 (.int .i64 0) 1 8 Tryd.underlying24 hi hz0 hz1 hz2 rfl (by decide) _ _ _ rfl (hown.alloc _) ⟨wr.heap.size, 0, none⟩ 1 1 [.int .i64 (z)] rfl rfl ?c1 ?c2 ?c3 ?c4 ?c5 ?_)
            case c1 =>
              intro j u hj
              match j, hj with
              | 0, hj => simp at hj; subst hj; simp [Addr.add]
            case c2 => intro u hu; simp at hu; subst hu; rfl
            case c3 => unfold maxLen; omega
            case c4 => omega
            case c5 => simp; omega
            intro v' w3 hown' hgrow _ _
            have hB3 : Below wo.heap.size wo w3 := (hBk.alloc hsr _).grown hgrow (by simp; omega) (fun q hq => (hown.lt q hq).1)
            have HV := Lib.hid (Ints.snoc (l := tabRow l (i - 2) (i - 2)) HL7.out.symm hown')
            rw [← HSk.out] at HV
            clear hown' hgrow hown HL7 HSk HZ
            go_wp2
            go_roundw
            case rel => exact ⟨i + 1, by go_num, by omega, by omega, HV, hB3⟩
            case measure => simp [intOf]; omega

          · have e1 : ¬ (i : Int) = (k : Int) := by omega
            have e2 : ((i : Int) == (k : Int)) = false := by simpa using e1
            have t1 : Int.tmod ((i : Int) + 1) (n : Int) = (((i + 1) % n : Nat) : Int) := behindD i n
            have t2 : Int.tmod ((k : Int) + 1) (n : Int) = (((k + 1) % n : Nat) : Int) := behindD k n
            rw [next_mod hlt] at t1
            rw [next_mod hkl] at t2
            rw [if_neg (by omega)] at hZ
            by_cases hn1 : i + 1 = k
            · rw [if_neg (by omega), hn1] at t1
              rw [if_pos (.inl (by omega))] at hZ
              have HZ := Lib.hid hZ
              clear hZ t2
              have hown := HI7.out
              unfold Ints at hown
              rw [HRl.out] at hown
              have HL7 : Hid ((tabRow l (i - 2) (k - 2)).length = k - 2) := HRl.out _ _
              have HSk : Hid (tabRow l (i - 2) (k + 1 - 2) = tabRow l (i - 2) (k - 2) ++ [1]) := by show _ = _; rw [show k + 1 - 2 = (k - 2) + 1 by omega, HRs.out, HZ.out]
              have hsr := hBk.size
              clear HI7
              go_wp2_with (at_builtin; refine wpList_append_own_at _ rfl _ _ 24 rfl wo.heap.size 3 i0 (.int .i64 0) 1 8 Tryd.underlying24 hi hz0 hz1 hz2 rfl (by decide) _ _ _ rfl (hown.alloc _) ⟨wr.heap.size, 0, none⟩ 1 1 [.int .i64 (1)] rfl rfl ?c1 ?c2 ?c3 ?c4 ?c5 ?_)
              case c1 =>
                intro j u hj
                match j, hj with
                | 0, hj => simp at hj; subst hj; simp [Addr.add]
              case c2 => intro u hu; simp at hu; subst hu; rfl
              case c3 => unfold maxLen; omega
              case c4 => omega
              case c5 => simp; omega
              intro v' w3 hown' hgrow _ _
              have hB3 : Below wo.heap.size wo w3 := (hBk.alloc hsr _).grown hgrow (by simp; omega) (fun q hq => (hown.lt q hq).1)
              have HV := Lib.hid (Ints.snoc (l := tabRow l (i - 2) (k - 2)) HL7.out.symm hown')
              rw [← HSk.out] at HV
              clear hown' hgrow hown HL7 HSk HZ
              go_wp2
              go_roundw
              case rel => exact ⟨k + 1, by go_num, by omega, by omega, HV, hB3⟩
              case measure => simp [intOf]; omega

            · by_cases hn2 : k + 1 = i
              · rw [if_neg (by omega), hn2] at t2
                rw [if_pos (.inr (by omega))] at hZ
                have f1 : ∃ q : Nat, Int.tmod ((i : Int) + 1) (n : Int) = (q : Int) ∧ q ≠ k := by
                  by_cases h : i + 1 = n
                  · rw [if_pos h] at t1; exact ⟨0, t1, by omega⟩
                  · rw [if_neg h] at t1; exact ⟨i + 1, t1, by omega⟩
                obtain ⟨q, t1', hqk⟩ := f1
                have f2 : ¬ (q : Int) = (k : Int) := by omega
                have f3 : ((q : Int) == (k : Int)) = false := by simpa using f2
                have HZ := Lib.hid hZ
                clear hZ t1
                have hown := HI7.out
                unfold Ints at hown
                rw [HRl.out] at hown
                have HL7 : Hid ((tabRow l (i - 2) (k - 2)).length = k - 2) := HRl.out _ _
                have HSk : Hid (tabRow l (i - 2) (k + 1 - 2) = tabRow l (i - 2) (k - 2) ++ [1]) := by show _ = _; rw [show k + 1 - 2 = (k - 2) + 1 by omega, HRs.out, HZ.out]
                have hsr := hBk.size
                clear HI7
                go_wp2_with (at_builtin; refine wpList_append_own_at _ rfl _ _ 24 rfl wo.heap.size 3 i0 (.int .i64 0) 1 8 Tryd.underlying24 hi hz0 hz1 hz2 rfl (by decide) _ _ _ rfl (hown.alloc _) ⟨wr.heap.size, 0, none⟩ 1 1 [.int .i64 (1)] rfl rfl ?c1 ?c2 ?c3 ?c4 ?c5 ?_)
                case c1 =>
                  intro j u hj
                  match j, hj with
                  | 0, hj => simp at hj; subst hj; simp [Addr.add]
                case c2 => intro u hu; simp at hu; subst hu; rfl
                case c3 => unfold maxLen; omega
                case c4 => omega
                case c5 => simp; omega
                intro v' w3 hown' hgrow _ _
                have hB3 : Below wo.heap.size wo w3 := (hBk.alloc hsr _).grown hgrow (by simp; omega) (fun q hq => (hown.lt q hq).1)
                have HV := Lib.hid (Ints.snoc (l := tabRow l (i - 2) (k - 2)) HL7.out.symm hown')
                rw [← HSk.out] at HV
                clear hown' hgrow hown HL7 HSk HZ
                go_wp2
                go_roundw
                case rel => exact ⟨k + 1, by go_num, by omega, by omega, HV, hB3⟩
                case measure => simp [intOf]; omega

              · rw [if_neg (by omega)] at hZ
                have f1 : ∃ q : Nat, Int.tmod ((i : Int) + 1) (n : Int) = (q : Int) ∧ q ≠ k := by
                  by_cases h : i + 1 = n
                  · rw [if_pos h] at t1; exact ⟨0, t1, by omega⟩
                  · rw [if_neg h] at t1; exact ⟨i + 1, t1, by omega⟩
                have f2 : ∃ q : Nat, Int.tmod ((k : Int) + 1) (n : Int) = (q : Int) ∧ q ≠ i := by
                  by_cases h : k + 1 = n
                  · rw [if_pos h] at t2; exact ⟨0, t2, by omega⟩
                  · rw [if_neg h] at t2; exact ⟨k + 1, t2, by omega⟩
                obtain ⟨q, t1', hqk⟩ := f1
                obtain ⟨q', t2', hqi⟩ := f2
                have f2 : ¬ (q : Int) = (k : Int) := by omega
                have f3 : ((q : Int) == (k : Int)) = false := by simpa using f2
                have f4 : ¬ (q' : Int) = (i : Int) := by omega
                have f5 : ((q' : Int) == (i : Int)) = false := by simpa using f4
                have HZ := Lib.hid hZ
                clear hZ t1 t2
                have hown := HI7.out
                unfold Ints at hown
                rw [HRl.out] at hown
                have HL7 : Hid ((tabRow l (i - 2) (k - 2)).length = k - 2) := HRl.out _ _
                have HSk : Hid (tabRow l (i - 2) (k + 1 - 2) = tabRow l (i - 2) (k - 2) ++ [0]) := by show _ = _; rw [show k + 1 - 2 = (k - 2) + 1 by omega, HRs.out, HZ.out]
                have hsr := hBk.size
                clear HI7
                go_wp2_with (at_builtin; refine wpList_append_own_at _ rfl _ _ 24 rfl wo.heap.size 3 i0 (.int .i64 0) 1 8 Tryd.underlying24 hi hz0 hz1 hz2 rfl (by decide) _ _ _ rfl (hown.alloc _) ⟨wr.heap.size, 0, none⟩ 1 1 [.int .i64 (0)] rfl rfl ?c1 ?c2 ?c3 ?c4 ?c5 ?_)
                case c1 =>
                  intro j u hj
                  match j, hj with
                  | 0, hj => simp at hj; subst hj; simp [Addr.add]
                case c2 => intro u hu; simp at hu; subst hu; rfl
                case c3 => unfold maxLen; omega
                case c4 => omega
                case c5 => simp; omega
                intro v' w3 hown' hgrow _ _
                have hB3 : Below wo.heap.size wo w3 := (hBk.alloc hsr _).grown hgrow (by simp; omega) (fun q hq => (hown.lt q hq).1)
                have HV := Lib.hid (Ints.snoc (l := tabRow l (i - 2) (k - 2)) HL7.out.symm hown')
                rw [← HSk.out] at HV
                clear hown' hgrow hown HL7 HSk HZ
                go_wp2
                go_roundw
                case rel => exact ⟨k + 1, by go_num, by omega, by omega, HV, hB3⟩
                case measure => simp [intOf]; omega

        · obtain rfl : k = n := by omega
          have r2 : ¬ (k : Int) < (k : Int) := by omega
          have hB2 := belowTo hBw hBk
          have hsz := hB2.size
          obtain ⟨a7, c7, hv7, hm7⟩ := (HI7.out.reads (by rw [HRl.out]; omega)).len
          rw [HRl.out] at hv7 hm7
          subst hv7
          have hRw : Rows2 (wr.alloc (.cells #[.slice a7 (k - 2) c7] 24)) w1.heap.size hh u5 (tabTo l (i - 2)) := (HR.out.below hBk).below (by go_grown)
          have hRh : Rows2 (wr.alloc (.cells #[.slice a7 (k - 2) c7] 24)) w1.heap.size wo.heap.size u5 (tabTo l (i - 2)) := hRw.higher HR.out.1 (by have := hBk.size; simp; omega)
          obtain ⟨vs, hown, hcl⟩ := hRh.open
          have HCl := Lib.hid (fun W' v' h1 h2 => hcl W' v' (.slice a7 (k - 2) c7) (tabRow l (i - 2) (k - 2)) (HI7.out.below (by go_grown)) hBw.size ⟨_, _, _, rfl⟩ h1 h2)
          rw [HTl.out] at HCl hown
          have HSi : Hid (tabTo l (i + 1 - 2) = tabTo l (i - 2) ++ [tabRow l (i - 2) (k - 2)]) := by show _ = _; rw [show i + 1 - 2 = (i - 2) + 1 by omega, HTs.out]
          have HW := Lib.hid hown
          clear hRw hRh hcl hown HI7 HR
          go_wp2_with (at_builtin; refine wpList_append_own_at _ rfl _ _ 61 rfl w1.heap.size 24 j0 (.slice none 0 0) 1 24 Tryd.underlying61 hj jz0 jz1 jz2 rfl (by decide) _ _ _ rfl HW.out ⟨wr.heap.size, 0, none⟩ 1 1 [.slice a7 (k - 2) c7] rfl rfl ?c1 ?c2 ?c3 ?c4 ?c5 ?_)
          case c2 => rfl
          case c3 => unfold maxLen; omega
          case c4 => omega
          case c5 => first | omega | (simp; omega)
          intro v' w3 hown' hgrow _ _
          have hR3 := HCl.out w3 v' hown' hgrow
          rw [← HSi.out] at hR3
          have HR3 := Lib.hid hR3
          have hB3 : Below w1.heap.size w1 w3 := (hB2.alloc hsz _).grown hgrow (by simp; omega) (fun q hq => (HW.out.lt q hq).1)
          clear hR3 hown' hgrow HW HCl HSi
          go_wp2
          go_roundw
          case rel => exact ⟨i + 1, _, by go_num, by omega, by omega, HR3, hB3⟩
          case measure => simp [intOf]; omega
    · obtain rfl : i = n := by omega
      have p2 : ¬ (i : Int) < (i : Int) := by omega
      have HF : Hid (Rows2 wr w.heap.size hh u5 (tabLL l)) := by
        show Rows2 _ _ _ _ _
        rw [HLL.out]
        exact HR.out.lower HB1.out.size
      have HBB := Lib.hid (belowTo HB1.out hBw)
      go_wp2
      go_returns
      exact givesRows HF.out HBB.out
end Go.Proofs.YtohojjoediibhaaDoor
