/- Divisors: degrees: the program's function values. -/
import Derived.Test.YtmencjdlfeojkaaDoorQb
import Derived.Test.YtmencjdlfeojkaaDoorGn
namespace Go.Proofs.YtmencjdlfeojkaaDoor
open Go.RowKit

theorem aheadD (k n : Nat) (hn : 0 < n) : Int.tmod ((k : Int) + (n : Int) - 1) (n : Int) = (((k + n - 1) % n : Nat) : Int) := by
  rw [show ((k : Int) + (n : Int) - 1) = ((k + n - 1 : Nat) : Int) by omega, Int.ofNat_tmod]
theorem behindD (k n : Nat) : Int.tmod ((k : Int) + 1) (n : Int) = (((k + 1) % n : Nat) : Int) := by
  rw [show ((k : Int) + 1) = ((k + 1 : Nat) : Int) by simp, Int.ofNat_tmod]
/-- the two boxes that a degree is bound to: a divisor, and the numbers of its fan -/
def DegBox (w : World) (B1 B2 : Nat) (l : List V2) (d : List Int) : Prop :=
  ∃ g u v, w.cell? ⟨B1, 0, none⟩ = some (.pointer (some ⟨g, 0, none⟩)) ∧ w.cell? ⟨B1, 1, none⟩ = some u ∧ w.cell? ⟨B2, 0, none⟩ = some v ∧ w.cell? ⟨g, 1, none⟩ = some (.int .i64 (l.length : Int)) ∧ ReadsInts w u d ∧ ReadsInts w v (numsZ l)
theorem cell_lt {w : World} {b o : Nat} {v : Value} (h : w.cell? ⟨b, o, none⟩ = some v) : b < w.heap.size := World.block_lt_of_cell? w _ h
theorem DegBox.below {w w' : World} {B1 B2 : Nat} {l : List V2} {d : List Int} (h : DegBox w B1 B2 l d) (hb : Below w.heap.size w w') : DegBox w' B1 B2 l d := by
  obtain ⟨g, u, v, c0, c1, c2, c3, hu, hv⟩ := h
  exact ⟨g, u, v, (hb.cell (p := ⟨B1, 0, none⟩) (cell_lt c0)).trans c0, (hb.cell (p := ⟨B1, 1, none⟩) (cell_lt c1)).trans c1, (hb.cell (p := ⟨B2, 0, none⟩) (cell_lt c2)).trans c2, (hb.cell (p := ⟨g, 1, none⟩) (cell_lt c3)).trans c3, hu.below hb, hv.below hb⟩
theorem gz_nums {l : List V2} {i : Nat} (h : i < l.length) : gz (numsZ l) i = numZ l i := gz_tab _ h
set_option maxHeartbeats 16000000 in
theorem degree1_any (B1 B2 : Nat) (l : List V2) (d : List Int) (i : Nat) (w : World) (h : DegBox w B1 B2 l d) (hi : i < l.length) (hd : d.length = l.length) (hS : Smooth l) (hb : bnd 101 d) (hm : l.length ≤ 1000) :
    Calls Tryd.prog 100 #[.int .i64 (i : Int), .pointer (some ⟨B1, 0, none⟩), .pointer (some ⟨B2, 0, none⟩)] w fun e w' => e = .returned (.int .i64 (degZ l d i)) ∧ Below w.heap.size w w' := by
  have hn0 : 0 < l.length := by omega
  obtain ⟨g, u, v, c0, c1, c2, c3, hu, hv⟩ := h
  obtain ⟨bb, off, cc, rfl, _, hbb, hcs⟩ := hu.open (by omega)
  obtain ⟨bv, ov, cv, rfl, _, hbv, hvs⟩ := hv.open (by rw [nums_len]; omega)
  have hp1 : (i + l.length - 1) % l.length < l.length := Nat.mod_lt _ hn0
  have hp2 : (i + 1) % l.length < l.length := Nat.mod_lt _ hn0
  have e0 := hcs w (Below.refl _ _) _ (show (i + l.length - 1) % l.length < d.length by omega)
  have e1 := hcs w (Below.refl _ _) i (by omega)
  have e2 := hcs w (Below.refl _ _) _ (show (i + 1) % l.length < d.length by omega)
  have e3 := hvs w (Below.refl _ _) i (by rw [nums_len]; omega)
  rw [gz_nums hi] at e3
  have t1 := aheadD i l.length hn0
  have t2 := behindD i l.length
  have b0 := hb ((i + l.length - 1) % l.length)
  have b1 := hb i
  have b2 := hb ((i + 1) % l.length)
  have bm := deg_mul_bnd hS hb i
  rw [nums_len] at *
  rw [hd] at c1
  unfold degZ
  clear hcs hvs hu hv hS hb
  have i1 : (0 : Int) ≤ (((i + l.length - 1) % l.length : Nat) : Int) := by omega
  have i2 : (((i + l.length - 1) % l.length : Nat) : Int) < (l.length : Int) := by omega
  have i3 : (0 : Int) ≤ (((i + 1) % l.length : Nat) : Int) := by omega
  have i4 : (((i + 1) % l.length : Nat) : Int) < (l.length : Int) := by omega
  generalize gz d ((i + l.length - 1) % l.length) = x0 at *
  generalize gz d ((i + 1) % l.length) = x2 at *
  generalize gz d i = x1 at *
  generalize numZ l i = z at *
  generalize (i + l.length - 1) % l.length = p at *
  generalize (i + 1) % l.length = q at *
  generalize l.length = n at *
  have i5 : (0 : Int) ≤ (i : Int) := by omega
  have i6 : (i : Int) < (n : Int) := by omega
  have j1 : ¬ (n : Int) = 0 := by omega
  have j2 : ((n : Int) == 0) = false := by simpa using j1
  have q1 : IntKind.i64.wrap ((i : Int) + (n : Int)) = (i : Int) + (n : Int) := by rw [IntKind.wrap_i64]; omega
  have q2 : IntKind.i64.wrap ((i : Int) + (n : Int) - 1) = (i : Int) + (n : Int) - 1 := by rw [IntKind.wrap_i64]; omega
  have q3 : IntKind.i64.wrap ((i : Int) + 1) = (i : Int) + 1 := by rw [IntKind.wrap_i64]; omega
  have q4 : IntKind.i64.wrap (x1 * z) = x1 * z := by rw [IntKind.wrap_i64]; omega
  have q5 : IntKind.i64.wrap (x0 + x1 * z) = x0 + x1 * z := by rw [IntKind.wrap_i64]; omega
  have q6 : IntKind.i64.wrap (x0 + x1 * z + x2) = x0 + x1 * z + x2 := by rw [IntKind.wrap_i64]; omega
  have s1 := cell_lt c0
  have s2 := cell_lt c2
  have s3 := cell_lt c3
  clear hp1 hp2 hi hd hm
  go_enter Tryd.func100, Tryd.ntmps100
  go_wp2_with fail
  go_quiet (fail)
  go_wp2_with fail
  go_quiet (fail)
  go_wp2
  go_returns
  exact ⟨rfl, below_drewN (below_drewN (Below.refl _ _) _) _⟩
set_option maxHeartbeats 4000000 in
theorem degree_any (base g : Nat) (ns : List Node) (u : Value) (d : List Int) (w : World) (hF : FanAt w base g ns) (hs : ns.length ≤ 1000) (hv : allVec (rays ns)) (hu : ReadsInts w u d) :
    Calls Tryd.prog 73 #[.agg #[.pointer (some ⟨g, 0, none⟩), u]] w fun e w' => ∃ B1 B2, e = .returned (.func (.func 100) #[] #[.pointer (some ⟨B1, 0, none⟩), .pointer (some ⟨B2, 0, none⟩)]) ∧ DegBox w' B1 B2 (rays ns) d ∧ Below w.heap.size w w' := by
  have HN := Lib.hid (fun w' (hb : Below w.heap.size w w') => callsIn_wide.1 (numbers_in 3 (by omega) base g ns w' (hF.below hb) hs hv))
  have c3 := hF.head.c1
  have hlt := cell_lt c3
  rw [← rays_len] at c3
  have HU := Lib.hid hu
  have C3 := Lib.hid c3
  have hlm : (numsZ (rays ns)).length ≤ 1000 := by rw [nums_len, rays_len]; exact hs
  generalize rays ns = l at *
  clear hF hs hv hu c3
  go_enter Tryd.func73, Tryd.ntmps73
  go_wp2_with fail
  refine Calls.mono (HN.out _ (by go_grown)) ?_
  rintro e w1 ⟨v2, rfl, hI, hb1⟩
  have hA : Below w.heap.size w w1 := belowTo (by go_grown) hb1
  have c0 : w1.cell? ⟨w.heap.size, 0, none⟩ = some (.pointer (some ⟨g, 0, none⟩)) := (hb1.cell (p := ⟨w.heap.size, 0, none⟩) (by simp)).trans (by simp)
  have c1 : w1.cell? ⟨w.heap.size, 1, none⟩ = some u := (hb1.cell (p := ⟨w.heap.size, 1, none⟩) (by simp)).trans (by simp)
  have HA := Lib.hid hA
  obtain ⟨a2, k2, rfl, _⟩ := (hI.reads (show (numsZ l).length ≤ 1152921504606846976 by omega)).len
  have R1 := hI.reads (show (numsZ l).length ≤ 1152921504606846976 by omega)
  obtain ⟨m2, hm2⟩ : ∃ m2, m2 = (numsZ l).length := ⟨_, rfl⟩
  rw [← hm2] at R1 ⊢
  have HR1 := Lib.hid R1
  clear hI hb1 HN hm2 R1 hlm
  go_wp2
  go_returns
  have hB2 : Below w1.heap.size w1 (w1.alloc (.cells #[.slice a2 m2 k2] 23)) := by go_grown
  refine ⟨w.heap.size, w1.heap.size, rfl, ⟨g, u, .slice a2 m2 k2, (hB2.cell (p := ⟨w.heap.size, 0, none⟩) (cell_lt c0)).trans c0, (hB2.cell (p := ⟨w.heap.size, 1, none⟩) (cell_lt c1)).trans c1, by simp, ?_, (HU.out.below HA.out).below hB2, HR1.out.below hB2⟩, belowTo HA.out hB2⟩
  have := (HA.out.cell (p := ⟨g, 1, none⟩) hlt).trans C3.out
  exact (hB2.cell (p := ⟨g, 1, none⟩) (cell_lt this)).trans this
end Go.Proofs.YtmencjdlfeojkaaDoor
