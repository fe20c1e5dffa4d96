/- Divisors: degrees in a list; products; the program. -/
import Derived.Test.YtmencjdlfeojkaaDoorQc
namespace Go.Proofs.YtmencjdlfeojkaaDoor
open Go.RowKit

theorem degs_snoc (l : List V2) (d : List Int) (k : Nat) : (List.range (k + 1)).map (degZ l d) = (List.range k).map (degZ l d) ++ [degZ l d k] := tab_snoc _ _
set_option maxHeartbeats 8000000 in
theorem degrees_any (base g : Nat) (ns : List Node) (u : Value) (d : List Int) (w : World) (hF : FanAt w base g ns) (hs : ns.length ≤ 1000) (hS : Smooth (rays ns)) (hu : ReadsInts w u d) (hd : d.length = ns.length) (hb : bnd 101 d) :
    Calls Tryd.prog 47 #[.agg #[.pointer (some ⟨g, 0, none⟩), u]] w (GivesInts w (degsZ (rays ns) d)) := by
  obtain ⟨i0, hi, hz0, hz1, hz2⟩ := info_parts infoInt
  have HD := Lib.hid (fun w' (hb' : Below w.heap.size w w') => degree_any base g ns u d w' (hF.below hb') hs hS.1 (hu.below hb'))
  have H1 := Lib.hid (fun B1 B2 i w' (h : DegBox w' B1 B2 (rays ns) d) (hi : i < (rays ns).length) => degree1_any B1 B2 (rays ns) d i w' h hi (by rw [rays_len]; exact hd) hS hb (by rw [rays_len]; exact hs))
  have c3 := hF.head.c1
  have hlt := cell_lt c3
  have hp := hF.ring.pos
  have HM := Lib.hid (degs_snoc (rays ns) d)
  have HZ : Hid (degsZ (rays ns) d = (List.range (rays ns).length).map (degZ (rays ns) d)) := rfl
  rw [← rays_len] at c3 hs hp
  have C3 := Lib.hid c3
  generalize rays ns = l at *
  obtain ⟨n, hn⟩ : ∃ n, n = l.length := ⟨_, rfl⟩
  have HN := Lib.hid hn
  rw [← hn] at H1 C3 hs hp HZ
  clear hF hS hu hd hb c3 hn
  go_enter Tryd.func47, Tryd.ntmps47
  go_wp2_with fail
  refine Calls.mono (HD.out _ (by go_grown)) ?_
  rintro e w1 ⟨B1, B2, rfl, hX, hb1⟩
  have hA : Below w.heap.size w w1 := belowTo (by go_grown) hb1
  have c0 : w1.cell? ⟨w.heap.size, 0, none⟩ = some (.pointer (some ⟨g, 0, none⟩)) := (hb1.cell (p := ⟨w.heap.size, 0, none⟩) (by simp)).trans (by simp)
  have c1 : w1.cell? ⟨g, 1, none⟩ = some (.int .i64 (n : Int)) := (hA.cell (p := ⟨g, 1, none⟩) hlt).trans C3.out
  have HX := Lib.hid hX
  have hws := hA.size
  clear hX hb1 HD
  go_wp2
  go_loopw [4, 13] (fun s4 s13 wr => ∃ k : Nat, k ≤ n ∧ s13 = .int .i64 k ∧ Hid (Ints wr w1.heap.size s4 ((List.range k).map (degZ l d))) ∧ Below w1.heap.size w1 wr) (fun _ s13 _ => n - (intOf s13).toNat)
  case atStart => exact ⟨0, Nat.zero_le _, rfl, Ints.nil _ _, Below.refl _ _⟩
  case round =>
    obtain ⟨k, hk, rfl, HI, hB⟩ := hrel
    have i1 : (0 : Int) ≤ (k : Int) := by omega
    by_cases hlt2 : k < n
    · have i2 : (k : Int) < (n : Int) := by omega
      have HK := Lib.hid (H1.out B1 B2 k wr (HX.out.below hB) (by have := HN.out; omega))
      have HMk := Lib.hid (HM.out k)
      have hkl : ((List.range k).map (degZ l d)).length = k := by simp
      generalize degZ l d k = z at *
      go_wp2_with fail
      refine Calls.mono HK.out ?_
      rintro e w2 ⟨rfl, hb2⟩
      have hB1 := belowTo hB hb2
      have hown := HI.out.below hb2
      unfold Ints at hown
      rw [hkl] at hown
      have hbs := hB1.size
      clear hb2
      go_wp2_with (at_builtin; refine wpList_append_own_at _ rfl _ _ 23 rfl w1.heap.size 3 i0 (.int .i64 0) 1 8 Tryd.underlying23 hi hz0 hz1 hz2 rfl (by decide) _ _ _ rfl (hown.alloc _) ⟨w2.heap.size, 0, none⟩ 1 1 [.int .i64 z] rfl rfl ?c1 ?c2 ?c3 ?c4 ?c5 ?_)
      case c1 =>
        intro j u hj
        match j, hj with
        | 0, hj => simp at hj; subst hj; simp [Addr.add]
      case c2 => intro u hu; simp at hu; subst hu; rfl
      case c3 => unfold maxLen; omega
      case c4 => omega
      case c5 => simp; omega
      intro v' w3 hown' hgrow _ _
      have hB2 : Below w1.heap.size w1 w3 := (hB1.alloc hbs _).grown hgrow (by simp; omega) (fun k hk => (hown.lt k hk).1)
      have HV := Lib.hid (Ints.snoc (l := (List.range k).map (degZ l d)) hkl.symm hown')
      rw [← HMk.out] at HV
      clear hown' hgrow hown hB1 HI
      go_wp2
      go_roundw
      case rel => exact ⟨k + 1, by omega, by go_num, HV, hB2⟩
      case measure => simp [intOf]; omega
    · obtain rfl : k = n := by omega
      have i2 : ¬ (k : Int) < (k : Int) := by omega
      have hB2 := hA.trans (hB.mono hws)
      go_wp2
      go_returns
      exact ⟨_, rfl, by rw [HZ.out]; exact HI.out.lower hws, hB2⟩
end Go.Proofs.YtmencjdlfeojkaaDoor
