/- Divisors: sums and multiples; the program. -/
import Derived.Test.YtcieihbknfeddabDoorBe
import Derived.Test.YtcieihbknfeddabDoorB4
import Derived.Test.YtcieihbknfeddabDoorB9
import Derived.Maps.AppendAt
namespace Go.Proofs.YtcieihbknfeddabDoor
open Go.RowKit

theorem addr_add (b off i : Nat) : (⟨b, off, none⟩ : Addr).add i = ⟨b, off + i, none⟩ := by
  by_cases h : i = 0
  · subst h; simp [Addr.add]
  · simp [Addr.add, h]
theorem ints_one (l : List Int) : ∀ u ∈ intsV l, u.oneCell' = true := by
  intro u hu
  obtain ⟨x, _, rfl⟩ := List.mem_map.1 hu
  rfl
theorem grown_set (W : World) (k o : Nat) (u : Value) : W.grownBy (W.setCell ⟨k, o, none⟩ u) (some k) :=
  ⟨rfl, rfl, rfl, by simp, fun i _ hne => Below.heap_setCell W ⟨k, o, none⟩ u i (by rintro rfl; exact hne rfl)⟩
theorem Ints.setLow {W : World} {base k o : Nat} {v : Value} {l : List Int} (h : Ints W base v l) (hk : k < base) (u : Value) : Ints (W.setCell ⟨k, o, none⟩ u) base v l :=
  h.far (grown_set W k o u) (fun q hq e => by have := (h.block q hq).1; cases e; omega)
/-- a divisor that was made: the fan that was handed in, and numbers in memory of the call's own -/
def GivesDiv (w : World) (g : Nat) (l : List Int) (e : Ending) (w' : World) : Prop := ∃ v, e = .returned (.agg #[.pointer (some ⟨g, 0, none⟩), v]) ∧ Ints w' w.heap.size v l ∧ Below w.heap.size w w'
set_option maxHeartbeats 4000000 in
theorem clone_any (u : Value) (d : List Int) (w : World) (h : ReadsInts w u d) (h0 : 0 < d.length) (hm : d.length ≤ 1000) :
    Calls Tryd.prog 101 #[u] w (GivesInts w d) := by
  obtain ⟨i0, hi, hz0, hz1, hz2⟩ := info_parts infoInt
  obtain ⟨bb, off, c, rfl, _, hbb, hcs⟩ := h.open h0
  have HE := Lib.hid (Ints.empty w)
  have hB : Below w.heap.size w (w.alloc (.cells #[] 3)) := by go_grown
  have HC : Hid (∀ j u, (intsV d)[j]? = some u → (w.alloc (.cells #[] 3)).cell? ((⟨bb, off, none⟩ : Addr).add j) = some u) := by
    intro j u hj
    have hlt : j < d.length := by
      have := (List.getElem?_eq_some_iff.1 hj).1
      simpa [intsV] using this
    rw [intsV_get d j hlt] at hj
    rw [addr_add]
    exact (hcs _ hB j hlt).trans hj
  have HB := Lib.hid hB
  obtain ⟨n, hn⟩ : ∃ n, n = d.length := ⟨_, rfl⟩
  have HL : Hid ((intsV d).length = n * 1) := by show (intsV d).length = n * 1; rw [hn]; simp [intsV]
  have HN := Lib.hid hn
  rw [← hn] at hm ⊢
  clear hcs h hB hn h0
  have hnil := fun (w : World) (a : Option Addr) (n c n' c' : Nat) => Lib.run_eql_slice_nil (P := Tryd.prog) w 23 3 a n c n' c' Tryd.underlying23
  go_enter Tryd.func101, Tryd.ntmps101
  go_wp2_with (at_builtin; refine wpList_append_own_at _ rfl _ _ 23 rfl w.heap.size 3 i0 (.int .i64 0) 1 8 Tryd.underlying23 hi hz0 hz1 hz2 rfl (by decide) _ _ _ rfl HE.out ⟨bb, off, none⟩ n c (intsV d) rfl HL.out HC.out (ints_one d) ?c3 ?c4 ?c5 ?_)
  case c3 => unfold maxLen; simp; omega
  case c4 => simp; omega
  case c5 => simp
  intro v' w1 hown' hgrow _ _
  have hB1 : Below w.heap.size w w1 := HB.out.grown hgrow (by simp) (fun q hq => (World.ownsRow.lt HE.out q hq).1)
  have HI : Hid (Ints w1 w.heap.size v' d) := by
    have h := hown'
    unfold Ints
    rw [← HN.out]
    first | exact h | (simpa using h)
  clear hown' hgrow HE HC
  go_wp2
  go_returns
  exact ⟨_, rfl, HI.out, hB1⟩
/-- the first k numbers added -/
def mixL (d e : List Int) (k : Nat) : List Int := (List.range d.length).map (fun i => if i < k then gz d i + gz e i else gz d i)
theorem mix_len (d e : List Int) (k : Nat) : (mixL d e k).length = d.length := by simp [mixL]
theorem mix_zero (d e : List Int) : mixL d e 0 = d := by
  unfold mixL
  simp only [Nat.not_lt_zero, if_false]
  exact tab_gz d
theorem mix_all (d e : List Int) : mixL d e d.length = sumL d 1 e := by
  unfold mixL sumL
  refine List.map_congr_left (fun i hi => ?_)
  rw [if_pos (List.mem_range.1 hi), Int.one_mul]
theorem mix_set {d e : List Int} {k : Nat} : (mixL d e k).set k (gz d k + gz e k) = mixL d e (k + 1) := by
  refine List.ext_getElem (by simp [mixL]) (fun i h1 h2 => ?_)
  simp only [mixL, List.getElem_set, List.getElem_map, List.getElem_range]
  by_cases e1 : k = i
  · subst e1; simp
  · rw [if_neg e1]
    by_cases e2 : i < k
    · rw [if_pos e2, if_pos (by omega)]
    · rw [if_neg e2, if_neg (by omega)]
theorem mix_get {d e : List Int} {k : Nat} (h : k < d.length) : (intsV (mixL d e k))[k]? = some (.int .i64 (gz d k)) := by
  rw [intsV_get _ k (by rw [mix_len]; exact h)]
  have : (mixL d e k)[k]?.getD 0 = gz d k := by
    show gz (mixL d e k) k = _
    unfold mixL
    rw [gz_tab _ h, if_neg (Nat.lt_irrefl k)]
  rw [this]
theorem mix_setV {d e : List Int} {k : Nat} : (intsV (mixL d e k)).set k (.int .i64 (gz d k + gz e k)) = intsV (mixL d e (k + 1)) := by
  unfold intsV
  rw [← List.map_set, mix_set]
set_option maxHeartbeats 16000000 in
theorem divPlus_any (g g2 : Nat) (u v : Value) (d e : List Int) (w : World) (hu : ReadsInts w u d) (hv : ReadsInts w v e) (h0 : 0 < d.length) (hm : d.length ≤ 1000) (hl : e.length = d.length) (hb : bnd 1000000000 d) (hb2 : bnd 1000000000 e) :
    Calls Tryd.prog 68 #[.agg #[.pointer (some ⟨g, 0, none⟩), u], .agg #[.pointer (some ⟨g2, 0, none⟩), v]] w (GivesDiv w g (sumL d 1 e)) := by
  have HU := Lib.hid hu
  have HV := Lib.hid hv
  obtain ⟨bb, off, c, rfl, _, hbb, hcs⟩ := hu.open h0
  obtain ⟨bv, ov, cv, rfl, _, hbv, hvs⟩ := hv.open (by omega)
  have HVs := Lib.hid hvs
  have HB1 := Lib.hid hb
  have HB2 := Lib.hid hb2
  have HMs := Lib.hid (fun k => mix_setV (d := d) (e := e) (k := k))
  have HMg := Lib.hid (fun k (h : k < d.length) => mix_get (d := d) (e := e) h)
  have HMl := Lib.hid (fun k => mix_len d e k)
  rw [hl] at hvs ⊢
  have HL := Lib.hid hl
  obtain ⟨n, hn⟩ : ∃ n, n = d.length := ⟨_, rfl⟩
  have HN := Lib.hid hn
  have HCl := Lib.hid (fun W (hB : Below w.heap.size w W) => clone_any _ d W (HU.out.below hB) h0 hm)
  rw [← hn] at HCl h0 hm ⊢
  clear hcs hvs hu hv hb hb2 hl hn
  go_enter Tryd.func68, Tryd.ntmps68
  go_wp2_with fail
  have hA : Below w.heap.size w (((w.alloc (.cells #[.pointer (some ⟨g, 0, none⟩), .slice (some ⟨bb, off, none⟩) n c] 60)).alloc (.cells #[.pointer (some ⟨g2, 0, none⟩), .slice (some ⟨bv, ov, none⟩) n cv] 60)).alloc (.cells #[.pointer none, .slice none 0 0] 60)) := by go_grown
  have c0 : (((w.alloc (.cells #[.pointer (some ⟨g, 0, none⟩), .slice (some ⟨bb, off, none⟩) n c] 60)).alloc (.cells #[.pointer (some ⟨g2, 0, none⟩), .slice (some ⟨bv, ov, none⟩) n cv] 60)).alloc (.cells #[.pointer none, .slice none 0 0] 60)).cell? ⟨w.heap.size, 0, none⟩ = some (.pointer (some ⟨g, 0, none⟩)) := by first | (go_cell; done) | (go_simp; done) | (simp; done)
  have e1 : (((w.alloc (.cells #[.pointer (some ⟨g, 0, none⟩), .slice (some ⟨bb, off, none⟩) n c] 60)).alloc (.cells #[.pointer (some ⟨g2, 0, none⟩), .slice (some ⟨bv, ov, none⟩) n cv] 60)).alloc (.cells #[.pointer none, .slice none 0 0] 60)).cell? ⟨w.heap.size + 1, 1, none⟩ = some (.slice (some ⟨bv, ov, none⟩) n cv) := by first | (go_cell; done) | (go_simp; done) | (simp; done)
  have r0 : (((w.alloc (.cells #[.pointer (some ⟨g, 0, none⟩), .slice (some ⟨bb, off, none⟩) n c] 60)).alloc (.cells #[.pointer (some ⟨g2, 0, none⟩), .slice (some ⟨bv, ov, none⟩) n cv] 60)).alloc (.cells #[.pointer none, .slice none 0 0] 60)).cell? ⟨w.heap.size + 1 + 1, 0, none⟩ = some (.pointer none) := by first | (go_cell; done) | (go_simp; done) | (simp; done)
  have r1 : (((w.alloc (.cells #[.pointer (some ⟨g, 0, none⟩), .slice (some ⟨bb, off, none⟩) n c] 60)).alloc (.cells #[.pointer (some ⟨g2, 0, none⟩), .slice (some ⟨bv, ov, none⟩) n cv] 60)).alloc (.cells #[.pointer none, .slice none 0 0] 60)).cell? ⟨w.heap.size + 1 + 1, 1, none⟩ = some (.slice none 0 0) := by first | (go_cell; done) | (go_simp; done) | (simp; done)
  have rf : ∀ o, (((w.alloc (.cells #[.pointer (some ⟨g, 0, none⟩), .slice (some ⟨bb, off, none⟩) n c] 60)).alloc (.cells #[.pointer (some ⟨g2, 0, none⟩), .slice (some ⟨bv, ov, none⟩) n cv] 60)).alloc (.cells #[.pointer none, .slice none 0 0] 60)).frozen? ⟨w.heap.size + 1 + 1, o, none⟩ = false := fun o => by first | (go_cell; done) | (go_simp; done) | (simp; done)
  have hz : (((w.alloc (.cells #[.pointer (some ⟨g, 0, none⟩), .slice (some ⟨bb, off, none⟩) n c] 60)).alloc (.cells #[.pointer (some ⟨g2, 0, none⟩), .slice (some ⟨bv, ov, none⟩) n cv] 60)).alloc (.cells #[.pointer none, .slice none 0 0] 60)).heap.size = w.heap.size + 1 + 1 + 1 := by simp
  have HC1 := Lib.hid (HCl.out _ hA)
  generalize (((w.alloc (.cells #[.pointer (some ⟨g, 0, none⟩), .slice (some ⟨bb, off, none⟩) n c] 60)).alloc (.cells #[.pointer (some ⟨g2, 0, none⟩), .slice (some ⟨bv, ov, none⟩) n cv] 60)).alloc (.cells #[.pointer none, .slice none 0 0] 60)) = W0 at *
  refine Calls.mono HC1.out ?_
  rintro e' w1 ⟨v5, rfl, hI, hb1⟩
  rcases hI.form with ⟨hnil, _⟩ | ⟨_, g5, c5, rfl, hg5, hg5b, _⟩
  · have : d.length = 0 := by rw [hnil]; rfl
    have := HN.out
    omega
  have hmz : Ints w1 W0.heap.size (.slice (some ⟨g5, 0, none⟩) d.length c5) (mixL d e 0) := by rw [mix_zero]; exact hI
  have HI : Hid (w1.ownsRow W0.heap.size 3 1 (.slice (some ⟨g5, 0, none⟩) n c5) n (intsV (mixL d e 0))) := by
    have h := hmz
    unfold Ints at h
    rw [mix_len, ← HN.out] at h
    exact h
  rw [← HN.out]
  have R1 := Lib.hid r1
  have R0 := Lib.hid r0
  have RF := Lib.hid rf
  have C0 := Lib.hid c0
  have e2 : w1.cell? ⟨w.heap.size + 1, 1, none⟩ = some (.slice (some ⟨bv, ov, none⟩) n cv) := (hb1.cell (p := ⟨w.heap.size + 1, 1, none⟩) (show w.heap.size + 1 < _ by omega)).trans e1
  clear hI hmz HC1 HCl r0 r1 rf c0 e1
  go_wp2
  go_loopw [14] (fun s wr => ∃ k : Nat, s = .int .i64 k ∧ k ≤ n ∧ Hid (wr.ownsRow W0.heap.size 3 1 (.slice (some ⟨g5, 0, none⟩) n c5) n (intsV (mixL d e k))) ∧ Below W0.heap.size W0 wr) (fun s _ => n - (intOf s).toNat)
  case atStart => exact ⟨0, rfl, Nat.zero_le _, HI, hb1⟩
  case round =>
    obtain ⟨k, rfl, hk, hO, hB⟩ := hrel
    clear HI
    by_cases hlt : k < n
    · have hkd : k < d.length := by have := HN.out; omega
      have i1 : (0 : Int) ≤ (k : Int) := by omega
      have i2 : (k : Int) < (n : Int) := by omega
      have c1 : wr.cell? ⟨bv, ov + k, none⟩ = some (.int .i64 (gz e k)) := HVs.out wr (hA.trans (hB.mono hA.size)) k (by have := HL.out; omega)
      have hr0 := hO.out.stored k (.int .i64 (gz d k + gz e k))
      rw [HMs.out k] at hr0
      have F := World.ownsRow.frozenAt hO.out k
      have hc := World.ownsRow.cellAt hO.out k (by omega)
      rw [HMg.out k hkd] at hc
      have b1 := HB1.out k
      have b2 := HB2.out k
      have P1 := Lib.hid hr0.1
      have P2 := hB.setCell (p := ⟨g5, k, none⟩) hg5 (.int .i64 (gz d k + gz e k))
      clear hr0 hO
      generalize gz d k = x at *
      generalize gz e k = y at *
      have q1 : IntKind.i64.wrap (x + y) = x + y := by rw [IntKind.wrap_i64]; omega
      go_wp2
      go_roundw
      case rel => exact ⟨k + 1, by go_num, by omega, P1, P2⟩
      case measure => simp [intOf]; omega
    · have hkn : k = n := by omega
      subst hkn
      have HI2 : Hid (Ints wr W0.heap.size (.slice (some ⟨g5, 0, none⟩) k c5) (sumL d 1 e)) := by
        have h := hO.out
        have e3 : mixL d e k = sumL d 1 e := by rw [HN.out]; exact mix_all d e
        rw [e3] at h
        unfold Ints
        rw [sumL_len, ← HN.out]
        exact h
      have c0 := (hB.cell (p := ⟨w.heap.size, 0, none⟩) (show w.heap.size < _ by omega)).trans C0.out
      have r0 := (hB.cell (p := ⟨w.heap.size + 1 + 1, 0, none⟩) (show w.heap.size + 1 + 1 < _ by omega)).trans R0.out
      have r1 := (hB.cell (p := ⟨w.heap.size + 1 + 1, 1, none⟩) (show w.heap.size + 1 + 1 < _ by omega)).trans R1.out
      have f0 := (hB.frozen (p := ⟨w.heap.size + 1 + 1, 0, none⟩) (show w.heap.size + 1 + 1 < _ by omega)).trans (RF.out 0)
      have f1 := (hB.frozen (p := ⟨w.heap.size + 1 + 1, 1, none⟩) (show w.heap.size + 1 + 1 < _ by omega)).trans (RF.out 1)
      have hBw := hA.trans (hB.mono hA.size)
      have hbs := hB.size
      clear hO hB
      go_wp2
      refine bodyPost_ret (by simp [results, Tryd.results68, go_sem, *]; try rfl) rfl ?_
      exact ⟨_, rfl, Ints.lower (base := W0.heap.size) (by first | exact HI2.out | exact HI2.out.setLow (by omega) _ | exact (HI2.out.setLow (by omega) _).setLow (by omega) _) (by omega), by go_grown⟩
theorem times_snoc (d : List Int) (m : Int) (k : Nat) : (List.range (k + 1)).map (fun i => gz d i * m) = (List.range k).map (fun i => gz d i * m) ++ [gz d k * m] := tab_snoc _ _
set_option maxHeartbeats 16000000 in
theorem divTimes_any (g : Nat) (u : Value) (d : List Int) (m : Int) (w : World) (hu : ReadsInts w u d) (hm : d.length ≤ 1000) (hb : bnd 1000000000 d) (hm2 : -100 ≤ m ∧ m ≤ 100) :
    Calls Tryd.prog 70 #[.agg #[.pointer (some ⟨g, 0, none⟩), u], .int .i64 m] w (GivesDiv w g (timesL d m)) := by
  obtain ⟨i0, hi, hz0, hz1, hz2⟩ := info_parts infoInt
  have HU := Lib.hid hu
  obtain ⟨a, c, rfl, _⟩ := hu.len
  have HB1 := Lib.hid hb
  have HMs := Lib.hid (fun k => times_snoc d m k)
  have HT : Hid (timesL d m = (List.range d.length).map (fun i => gz d i * m)) := rfl
  have HMb := Lib.hid (fun k => mul_le (hb k) hm2)
  have HO := Lib.hid (fun (h : 0 < d.length) => HU.out.open h)
  obtain ⟨n, hn⟩ : ∃ n, n = d.length := ⟨_, rfl⟩
  have HN := Lib.hid hn
  rw [← hn] at hm HT ⊢
  clear hu hb hn HU
  go_enter Tryd.func70, Tryd.ntmps70
  go_wp2_with fail
  have hA : Below w.heap.size w ((w.alloc (.cells #[.pointer (some ⟨g, 0, none⟩), .slice a n c] 60)).alloc (.cells #[.pointer none, .slice none 0 0] 60)) := by go_grown
  have c0 : ((w.alloc (.cells #[.pointer (some ⟨g, 0, none⟩), .slice a n c] 60)).alloc (.cells #[.pointer none, .slice none 0 0] 60)).cell? ⟨w.heap.size, 0, none⟩ = some (.pointer (some ⟨g, 0, none⟩)) := by first | (go_cell; done) | (go_simp; done) | (simp; done)
  have r0 : ((w.alloc (.cells #[.pointer (some ⟨g, 0, none⟩), .slice a n c] 60)).alloc (.cells #[.pointer none, .slice none 0 0] 60)).cell? ⟨w.heap.size + 1, 0, none⟩ = some (.pointer none) := by first | (go_cell; done) | (go_simp; done) | (simp; done)
  have r1 : ((w.alloc (.cells #[.pointer (some ⟨g, 0, none⟩), .slice a n c] 60)).alloc (.cells #[.pointer none, .slice none 0 0] 60)).cell? ⟨w.heap.size + 1, 1, none⟩ = some (.slice none 0 0) := by first | (go_cell; done) | (go_simp; done) | (simp; done)
  have rf : ∀ o, ((w.alloc (.cells #[.pointer (some ⟨g, 0, none⟩), .slice a n c] 60)).alloc (.cells #[.pointer none, .slice none 0 0] 60)).frozen? ⟨w.heap.size + 1, o, none⟩ = false := fun o => by first | (go_cell; done) | (go_simp; done) | (simp; done)
  have hz : ((w.alloc (.cells #[.pointer (some ⟨g, 0, none⟩), .slice a n c] 60)).alloc (.cells #[.pointer none, .slice none 0 0] 60)).heap.size = w.heap.size + 1 + 1 := by simp
  generalize ((w.alloc (.cells #[.pointer (some ⟨g, 0, none⟩), .slice a n c] 60)).alloc (.cells #[.pointer none, .slice none 0 0] 60)) = W0 at *
  have R1 := Lib.hid r1
  have R0 := Lib.hid r0
  have RF := Lib.hid rf
  have C0 := Lib.hid c0
  have HZ := Lib.hid hz
  clear r0 r1 rf c0 hz
  go_loopw [5, 11] (fun s5 s11 wr => ∃ k : Nat, k ≤ n ∧ s11 = .int .i64 k ∧ Hid (Ints wr W0.heap.size s5 ((List.range k).map (fun i => gz d i * m))) ∧ Below W0.heap.size W0 wr) (fun _ s11 _ => n - (intOf s11).toNat)
  case atStart => exact ⟨0, Nat.zero_le _, rfl, Ints.nil _ _, Below.refl _ _⟩
  case round =>
    obtain ⟨k, hk, rfl, HI, hB⟩ := hrel
    have i1 : (0 : Int) ≤ (k : Int) := by omega
    by_cases hlt : k < n
    · have i2 : (k : Int) < (n : Int) := by omega
      obtain ⟨bb, off, c', hv, _, hbb, hcs⟩ := HO.out (by have := HN.out; omega)
      rw [← HN.out] at hv
      obtain ⟨rfl, _, rfl⟩ : a = some ⟨bb, off, none⟩ ∧ True ∧ c = c' := by injection hv with h1 h2 h3; exact ⟨h1, trivial, h3⟩
      have c1 : wr.cell? ⟨bb, off + k, none⟩ = some (.int .i64 (gz d k)) := hcs wr (hA.trans (hB.mono hA.size)) k (by have := HN.out; omega)
      have b1 := HMb.out k
      have HMk := Lib.hid (HMs.out k)
      have hkl : ((List.range k).map (fun i => gz d i * m)).length = k := by simp
      have hown := HI.out
      unfold Ints at hown
      rw [hkl] at hown
      have hbs := hB.size
      have HL2 := Lib.hid hkl
      clear hcs hv hkl HO
      generalize gz d k = z at *
      have q1 : IntKind.i64.wrap (z * m) = z * m := by rw [IntKind.wrap_i64]; omega
      go_wp2_with (at_builtin; refine wpList_append_own_at _ rfl _ _ 23 rfl W0.heap.size 3 i0 (.int .i64 0) 1 8 Tryd.underlying23 hi hz0 hz1 hz2 rfl (by decide) _ _ _ rfl (hown.alloc _) ⟨wr.heap.size, 0, none⟩ 1 1 [.int .i64 (z * m)] rfl rfl ?c1 ?c2 ?c3 ?c4 ?c5 ?_)
      case c1 =>
        intro j u hj
        match j, hj with
        | 0, hj => simp at hj; subst hj; simp [Addr.add]
      case c2 => intro u hu; simp at hu; subst hu; rfl
      case c3 => unfold maxLen; omega
      case c4 => omega
      case c5 => simp; omega
      intro v' w3 hown' hgrow _ _
      have hB2 : Below W0.heap.size W0 w3 := (hB.alloc hbs _).grown hgrow (by simp; omega) (fun k hk => (hown.lt k hk).1)
      have HV := Lib.hid (Ints.snoc (l := (List.range k).map (fun i => gz d i * m)) HL2.out.symm hown')
      rw [← HMk.out] at HV
      clear hown' hgrow hown HI
      go_wp2
      go_roundw
      case rel => exact ⟨k + 1, by omega, by go_num, HV, hB2⟩
      case measure => simp [intOf]; omega
    · obtain rfl : k = n := by omega
      have i2 : ¬ (k : Int) < (k : Int) := by omega
      have hz := HZ.out
      have HI1 := HI.out
      rw [← HT.out] at HI1
      have HI2 := Lib.hid HI1
      clear HI1
      have c0 := (hB.cell (p := ⟨w.heap.size, 0, none⟩) (show w.heap.size < _ by omega)).trans C0.out
      have r0 := (hB.cell (p := ⟨w.heap.size + 1, 0, none⟩) (show w.heap.size + 1 < _ by omega)).trans R0.out
      have r1 := (hB.cell (p := ⟨w.heap.size + 1, 1, none⟩) (show w.heap.size + 1 < _ by omega)).trans R1.out
      have f0 := (hB.frozen (p := ⟨w.heap.size + 1, 0, none⟩) (show w.heap.size + 1 < _ by omega)).trans (RF.out 0)
      have f1 := (hB.frozen (p := ⟨w.heap.size + 1, 1, none⟩) (show w.heap.size + 1 < _ by omega)).trans (RF.out 1)
      have hBw := hA.trans (hB.mono hA.size)
      have hbs := hB.size
      obtain ⟨a9, c9, hv9, _⟩ := (HI2.out.reads (show (timesL d m).length ≤ 1152921504606846976 by rw [timesL_len]; have := HN.out; omega)).len
      subst hv9
      clear HI hB
      go_wp2
      refine bodyPost_ret (by simp [results, Tryd.results70, go_sem, *]; try rfl) rfl ?_
      exact ⟨_, rfl, Ints.lower (base := W0.heap.size) (by first | exact HI2.out | exact HI2.out.setLow (by omega) _ | exact (HI2.out.setLow (by omega) _).setLow (by omega) _) (by omega), by go_grown⟩
end Go.Proofs.YtcieihbknfeddabDoor
