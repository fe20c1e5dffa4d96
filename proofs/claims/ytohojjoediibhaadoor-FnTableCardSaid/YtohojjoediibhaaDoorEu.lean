/- Tables: the rows of a table; the program. -/
import Derived.Test.YtohojjoediibhaaDoorEt
import Derived.Test.YtohojjoediibhaaDoorEn
namespace Go.Proofs.YtohojjoediibhaaDoor
open Go.RowKit Go.Maps

theorem rowV_first {l : List V2} {k : Nat} (hk : k < l.length - 2) : ∀ j, j < l.length - 2 → j < 18 → (rowV (rowZ l k))[j]? = some (.int .i64 (tabZ l k j)) := by
  intro j hj h18
  rw [rowV_get _ h18]
  unfold rowZ
  rw [if_pos ⟨hj, hk⟩]
theorem rowV_one (f : Nat → Int) : (rowV f).toArray.all (·.oneCell') = true := by simp [rowV, Value.oneCell']
theorem rowV_ints {l : List V2} {k n : Nat} (hn : n = l.length - 2) (h18 : n ≤ 18) (hk : k < n) {W : World} {g c : Nat} {t : TypeId} (h : RowAt W g t (rowV (rowZ l k))) : ReadsInts W (.slice (some ⟨g, 0, none⟩) n c) (tabRow l k n) := by
  have hl := tabRow_len l k n
  refine ⟨some ⟨g, 0, none⟩, c, by rw [hl], by rw [hl]; omega, fun _ => ⟨g, 0, rfl, h.here, fun j hj => ?_⟩⟩
  rw [hl] at hj
  rw [Nat.zero_add, h.val, rowV_first (by omega) j (by omega) (by omega)]
  rw [tabRow_at hj]
theorem stored_row (wr : World) (f : Nat → Int) : ∃ W2, (storeCells ⟨wr.heap.size, 0, none⟩ (rowV f)).run Tryd.prog (wr.alloc (.cells #[.int .i64 0, .int .i64 0, .int .i64 0, .int .i64 0, .int .i64 0, .int .i64 0, .int .i64 0, .int .i64 0, .int .i64 0, .int .i64 0, .int .i64 0, .int .i64 0, .int .i64 0, .int .i64 0, .int .i64 0, .int .i64 0, .int .i64 0, .int .i64 0] 123)) = .ok () W2 ∧ RowAt W2 wr.heap.size 123 (rowV f) ∧ Below wr.heap.size wr W2 ∧ wr.heap.size < W2.heap.size := by
  have hg := heap_alloc_new wr (.cells #[.int .i64 0, .int .i64 0, .int .i64 0, .int .i64 0, .int .i64 0, .int .i64 0, .int .i64 0, .int .i64 0, .int .i64 0, .int .i64 0, .int .i64 0, .int .i64 0, .int .i64 0, .int .i64 0, .int .i64 0, .int .i64 0, .int .i64 0, .int .i64 0] 123)
  have h1 : ∀ v ∈ rowV f, v.oneCell' = true := by
    intro v hv
    obtain ⟨q, _, rfl⟩ := List.mem_map.1 hv
    rfl
  refine ⟨_, run_storeCells_from _ _ (rowV f) 0 _ _ hg (by rw [rowV_len]; rfl) h1, ?_, below_setRow (by go_grown) (Nat.le_refl _) _, by simp [World.setRow]⟩
  exact setRow_heap _ _ _ _ _ _ hg
theorem infoRow : (Tryd.prog.info? 123).map (·.size) = some 18 := by kernel_rfl
set_option maxRecDepth 100000 in
set_option maxHeartbeats 16000000 in
theorem rows_any (l : List V2) (w : World) (hS : smoothB l = true) :
    Calls Tryd.prog 133 #[.agg (tabL l).toArray] w (GivesRows w (tabLL l)) := by
  have h3 := smooth_len hS
  have HSz := Lib.hid (fun w' => size_any l w' hS)
  have HIn := Lib.hid (tabL_size l)
  have HTr := Lib.hid (fun i k (hi : i < 18) (hk : k < 18) => tabL_row (l := l) hi hk)
  have HFi := Lib.hid (fun k hk => rowV_first (l := l) (k := k) hk)
  have HTs := Lib.hid (fun m => tabTo_succ l m)
  have HTl := Lib.hid (fun m => tabTo_len l m)
  have HRl := Lib.hid (fun i m => tabRow_len l i m)
  have HRa := Lib.hid (fun i k m (h : k < m) => tabRow_at (l := l) (i := i) h)
  have HLL : Hid (tabLL l = tabTo l (l.length - 2)) := rfl
  have HCl := Lib.hid (fun u d W h h0 hm => clone_any u d W h h0 hm)
  obtain ⟨j0, hj, jz0, jz1, jz2⟩ := info_parts infoInts
  obtain ⟨N, hN⟩ : ∃ N, N = l.length - 2 := ⟨_, rfl⟩
  rw [← hN] at HSz HTs HFi HLL
  have h1 : N ≤ 18 := by omega
  have h0 : 1 ≤ N := by omega
  have HRI := Lib.hid (fun k W g c (hk : k < N) h => rowV_ints (l := l) (k := k) (W := W) (g := g) (c := c) (t := 123) hN h1 hk h)
  have HSt := Lib.hid (fun W k => stored_row W (rowZ l k))
  clear hN h3 hS
  have HRB := Lib.hid (RowAt.made w 125 (tabL l))
  go_enter Tryd.func133, Tryd.ntmps133
  go_wp2_with (refine wpList_load_row rfl 125 _ rfl w.heap.size rfl 125 (tabL l).toArray (0, 0) _ HRB.out Tryd.underlying125 rfl HIn.out ?_)
  have hA : Below w.heap.size w (w.alloc (.cells (tabL l).toArray 125)) := by go_grown
  have hAs : w.heap.size < (w.alloc (.cells (tabL l).toArray 125)).heap.size := by simp
  generalize w.alloc (.cells (tabL l).toArray 125) = W0 at *
  refine Calls.mono (HSz.out _) ?_
  rintro e w1 ⟨rfl, hb1⟩
  have HB1 := Lib.hid (belowTo hA hb1)
  have HR1 := Lib.hid (RowAt.below HRB.out hb1)
  have hs1 : w.heap.size < w1.heap.size := Nat.lt_of_lt_of_le hAs hb1.size
  clear hA hb1 HRB hAs
  have HE := Lib.hid (Rows2.nil w1 w1.heap.size)
  have i01 : (0 : Int) ≤ (N : Int) := by omega
  have i02 : (N : Int) ≤ 18 := by omega
  go_wp2
  go_loopw [3, 10] (fun s3 s10 wr => ∃ k hi : Nat, s10 = .int .i64 k ∧ k ≤ N ∧ Hid (Rows2 wr w1.heap.size hi s3 (tabTo l k)) ∧ Below w1.heap.size w1 wr) (fun _ s10 _ => N - (intOf s10).toNat)
  case atStart => exact ⟨0, _, rfl, Nat.zero_le _, HE, Below.refl _ _⟩
  case round =>
    obtain ⟨k, hh, rfl, hk, HR, hB⟩ := hrel
    have i0 : (0 : Int) ≤ (k : Int) := by omega
    by_cases hlt : k < N
    · have i1 : (k : Int) < (N : Int) := by omega
      have HRw := Lib.hid (RowAt.below HR1.out hB)
      have HRg : Hid (wr.rangeAt w.heap.size (k * 18) (rowV (rowZ l k))) := by
        intro j v hv
        have hj : j < 18 := by have := (List.getElem?_eq_some_iff.1 hv).1; rwa [rowV_len] at this
        rw [rowV_get _ hj] at hv
        rw [RowAt.val HRw.out, HTr.out k j (by omega) hj]
        exact hv
      have HSR : Hid ((Tryd.prog.info? 123).map (·.size) = some (rowV (rowZ l k)).length) := by show _ = _; rw [rowV_len]; exact infoRow
      obtain ⟨W2, hst, hR2, hb2, hs2⟩ := HSt.out wr k
      have HR2 := Lib.hid hR2
      have HB2 := Lib.hid hb2
      clear hR2 hb2
      go_wp2_with (first
        | (refine wpList_load_mid rfl 123 _ rfl w.heap.size (k * 18) rfl (rowV (rowZ l k)) _ HRg.out Tryd.underlying123 rfl HSR.out ?_)
        | (refine wpList_load_row rfl 125 _ rfl w.heap.size rfl 125 (tabL l).toArray (0, 0) _ (RowAt.below HRw.out HB2.out) Tryd.underlying125 rfl HIn.out ?_))
      refine Calls.mono (HSz.out _) ?_
      rintro e w3 ⟨rfl, hb3⟩
      have HR3 := Lib.hid (RowAt.below HR2.out hb3)
      have hB3 := belowTo HB2.out hb3
      have hs3 : wr.heap.size < w3.heap.size := Nat.lt_of_lt_of_le hs2 hb3.size
      have hCl := HCl.out (.slice (some ⟨wr.heap.size, 0, none⟩) N 18) (tabRow l k N) w3 (HRI.out k w3 wr.heap.size 18 hlt HR3.out) (by rw [HRl.out]; omega) (by rw [HRl.out]; omega)
      have HClo := Lib.hid hCl
      clear hCl hb3 HR3 HR2 HB2 hst HRg HSR HSz HCl HRI HSt HTr HFi HRa
      go_wp2_with fail
      refine Calls.mono HClo.out ?_
      rintro e w4 ⟨v4, rfl, hI4, hb4⟩
      have HI4 := Lib.hid hI4
      have HB4 := Lib.hid (belowTo (belowTo hB hB3) hb4)
      have HBr4 := Lib.hid (belowTo hB3 hb4)
      have hs4 : w3.heap.size ≤ w4.heap.size := hb4.size
      obtain ⟨a4, c4, hv4, hm4⟩ := (HI4.out.reads (by rw [HRl.out]; omega)).len
      rw [HRl.out] at hv4
      subst hv4
      have hRw : Rows2 (w4.alloc (.cells #[.slice a4 N c4] 24)) w1.heap.size hh u3 (tabTo l k) := (HR.out.below HBr4.out).below (by go_grown)
      have hRh : Rows2 (w4.alloc (.cells #[.slice a4 N c4] 24)) w1.heap.size w3.heap.size u3 (tabTo l k) := hRw.higher (by have := HR.out.1; omega) (by simp; omega)
      obtain ⟨vs, hown, hcl⟩ := hRh.open
      have HCo := Lib.hid (fun W' v' h1 h2 => hcl W' v' (.slice a4 N c4) (tabRow l k N) (HI4.out.below (by go_grown)) (by have := hB.size; omega) ⟨_, _, _, rfl⟩ h1 h2)
      rw [HTl.out] at HCo hown
      have HSi : Hid (tabTo l (k + 1) = tabTo l k ++ [tabRow l k N]) := HTs.out k
      have HW := Lib.hid hown
      clear hRw hRh hcl hown HI4 HR hI4 hb4 HClo hB3 hm4
      go_wp2_with (at_builtin; refine wpList_append_own_at _ rfl _ _ 61 rfl w1.heap.size 24 j0 (.slice none 0 0) 1 24 Tryd.underlying61 hj jz0 jz1 jz2 rfl (by decide) _ _ _ rfl HW.out ⟨w4.heap.size, 0, none⟩ 1 1 [.slice a4 N c4] rfl rfl ?c1 ?c2 ?c3 ?c4 ?c5 ?_)
      case c1 =>
        intro j u hj
        match j, hj with
        | 0, hj => simp at hj; subst hj; simp [Addr.add]
      case c2 => intro u hu; simp at hu; subst hu; rfl
      case c3 => unfold maxLen; omega
      case c4 => omega
      case c5 => have := HB4.out.size; first | omega | (simp; omega)
      intro v' w5 hown' hgrow _ _
      have hR5 := HCo.out w5 v' hown' hgrow
      rw [← HSi.out] at hR5
      have HR5 := Lib.hid hR5
      have hB5 : Below w1.heap.size w1 w5 := (HB4.out.alloc HB4.out.size _).grown hgrow (by have := HB4.out.size; simp; omega) (fun q hq => (HW.out.lt q hq).1)
      clear hR5 hown' hgrow HW HCo HSi HB4 HBr4
      go_wp2
      go_roundw
      case rel => exact ⟨k + 1, _, by go_num, by omega, HR5, hB5⟩
      case measure => simp [intOf]; omega
    · obtain rfl : k = N := by omega
      have i2 : ¬ (k : Int) < (k : Int) := by omega
      have HF : Hid (Rows2 wr w.heap.size hh u3 (tabLL l)) := by
        show Rows2 _ _ _ _ _
        rw [HLL.out]
        exact HR.out.lower HB1.out.size
      have HBB := Lib.hid (belowTo HB1.out hB)
      go_wp2
      go_returns
      exact givesRows HF.out HBB.out
end Go.Proofs.YtohojjoediibhaaDoor
