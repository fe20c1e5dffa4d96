/- Divisors that are nef, ample: the program. -/
import Derived.Test.YtcieihbknfeddabDoorBe
namespace Go.Proofs.YtcieihbknfeddabDoor
open Go.RowKit

theorem all_bad {p : Int → Bool} {d : List Int} {k : Nat} (hk : k < d.length) (h : p (gz d k) = false) : d.all p = false := by
  rw [List.all_eq_false]
  exact ⟨_, gz_mem hk, by rw [h]; decide⟩
theorem all_good {p : Int → Bool} {d : List Int} (h : ∀ k, k < d.length → p (gz d k) = true) : d.all p = true := by
  rw [List.all_eq_true]
  intro x hx
  obtain ⟨i, hi, rfl⟩ := List.mem_iff_getElem.1 hx
  have := h i hi
  unfold gz at this
  rwa [List.getElem?_eq_getElem hi] at this
def nefP (n : Int) : Bool := decide (0 ≤ n)
def ampP (n : Int) : Bool := decide (0 < n)
theorem nefL_all (d : List Int) : nefL d = d.all nefP := rfl
theorem ampL_all (d : List Int) : ampL d = d.all ampP := rfl
set_option maxHeartbeats 400000 in
theorem isNef1_any (n : Int) (w : World) :
    Calls Tryd.prog 106 #[.int .i64 n] w fun e w' => e = .returned (.bool (nefP n)) ∧ w' = w := by
  unfold nefP
  go_enter Tryd.func106, Tryd.ntmps106
  go_wp2
  all_goals go_returns
  all_goals (refine ⟨ret_bool ?_, rfl⟩; first | rfl | simp | (rw [Bool.eq_iff_iff]; simp; try omega))
set_option maxHeartbeats 4000000 in
theorem everyNef_any (v : Value) (d : List Int) (w : World) (h : ReadsInts w v d) :
    Calls Tryd.prog 105 #[v, .func (.func 106) #[] #[]] w fun e w' => e = .returned (.bool (nefL d)) ∧ w' = w := by
  obtain ⟨a, c, rfl, hm, hc⟩ := h
  have HC := Lib.hid hc
  rw [nefL_all]
  have HB := Lib.hid (fun k hk h => all_bad (p := nefP) (d := d) (k := k) hk h)
  have HG := Lib.hid (fun h => all_good (p := nefP) (d := d) h)
  obtain ⟨n, hn⟩ : ∃ n, n = d.length := ⟨_, rfl⟩
  have HN := Lib.hid hn
  rw [← hn] at hm ⊢
  clear hc hn
  go_enter Tryd.func105, Tryd.ntmps105
  go_wp2
  go_loop [9] (fun s => ∃ k : Nat, s = .int .i64 k ∧ k ≤ n ∧ Hid (∀ j, j < k → nefP (gz d j) = true)) (fun s => n - (intOf s).toNat)
  case atStart => exact ⟨0, rfl, Nat.zero_le _, fun j hj => absurd hj (Nat.not_lt_zero _)⟩
  case round =>
    obtain ⟨k, rfl, hk, HR⟩ := hrel
    by_cases hlt : k < n
    · have hkl : k < d.length := by have := HN.out; omega
      obtain ⟨bb, off, rfl, hb, hcell⟩ := HC.out (by omega)
      have c1 : w.cell? ⟨bb, off + k, none⟩ = some (.int .i64 (gz d k)) := hcell k hkl
      have j1 : (0 : Int) ≤ (k : Int) := by omega
      have j2 : (k : Int) < (n : Int) := by omega
      have HI := Lib.hid (fun w' => isNef1_any (gz d k) w')
      cases hz : nefP (gz d k)
      · have HB2 := Lib.hid (HB.out k hkl hz)
        rw [hz] at HI
        clear hz hcell HR
        generalize gz d k = z at c1 HI
        go_wp2_with fail
        refine Calls.mono (HI.out _) ?_
        rintro e w1 ⟨rfl, rfl⟩
        go_wp2
        go_returns
        exact ⟨by rw [HB2.out]; rfl, rfl⟩
      · have HR2 : Hid (∀ j, j < k + 1 → nefP (gz d j) = true) := fun j hj => by
          by_cases e : j = k
          · subst e; exact hz
          · exact HR.out j (by omega)
        rw [hz] at HI
        clear hz hcell HR
        generalize gz d k = z at c1 HI
        go_wp2_with fail
        refine Calls.mono (HI.out _) ?_
        rintro e w1 ⟨rfl, rfl⟩
        go_wp2
        go_round
        case rel => exact ⟨k + 1, by go_num, by omega, HR2⟩
        case measure => simp [intOf]; omega
    · have hkn : k = n := by omega
      subst hkn
      have HA := Lib.hid (HG.out (fun j hj => HR.out j (by have := HN.out; omega)))
      clear HR HC
      go_wp2
      go_returns
      exact ⟨by rw [HA.out]; rfl, rfl⟩

set_option maxHeartbeats 4000000 in
theorem isNef_any (base g : Nat) (ns : List Node) (u : Value) (d : List Int) (w : World) (hF : FanAt w base g ns) (hs : ns.length ≤ 1000) (hS : Smooth (rays ns)) (hu : ReadsInts w u d) (hd : d.length = ns.length) (hb : bnd 101 d) :
    Calls Tryd.prog 77 #[.agg #[.pointer (some ⟨g, 0, none⟩), u]] w fun e w' => e = .returned (.bool (nefL (degsZ (rays ns) d))) ∧ Below w.heap.size w w' := by
  have HD := Lib.hid (fun w' (hb' : Below w.heap.size w w') => degrees_any base g ns u d w' (hF.below hb') hs hS (hu.below hb') hd hb)
  have hlen : (degsZ (rays ns) d).length ≤ 1152921504606846976 := by rw [degs_len, rays_len]; omega
  generalize degsZ (rays ns) d = D at *
  have HE := Lib.hid (fun v' b' w' (hI : Ints w' b' v' D) => everyNef_any v' D w' (hI.reads hlen))
  generalize nefL D = K at *
  obtain ⟨a, c, rfl, _⟩ := hu.len
  clear hF hs hS hu hd hb hlen
  go_enter Tryd.func77, Tryd.ntmps77
  go_wp2_with fail
  refine Calls.mono (HD.out _ (by go_grown)) ?_
  rintro e w1 ⟨v1, rfl, hI, hb1⟩
  have hB : Below w.heap.size w w1 := belowTo (by go_grown) hb1
  have HE1 := Lib.hid (HE.out v1 _ w1 hI)
  clear hI hb1
  go_wp2_with fail
  refine Calls.mono HE1.out ?_
  rintro e w2 ⟨rfl, rfl⟩
  go_wp2
  go_returns
  exact ⟨rfl, hB⟩
set_option maxHeartbeats 4000000 in
theorem divisorNef_any (v : Value) (l : List V2) (u : Value) (d : List Int) (w : World) (hl : ReadsVecs w v l) (hd : ReadsInts w u d) (hg : EtOk w) :
    Calls Tryd.prog 39 #[v, u] w fun e w' => e = .returned (.bool (nefDB l d)) ∧ Below w.heap.size w w' := by
  have HO := Lib.hid (divisorOf_any v u l d w hl hd hg)
  have HD := Lib.hid (fun base g (ns : List Node) w' (hF : FanAt w' base g ns) (hn : rays ns = l) (hb : Below w.heap.size w w') (h : divB l d = true) => by
    have h1 := isNef_any base g ns u d w' hF (by have := div_len h; rw [← hn, rays_len] at this; omega) (by rw [hn]; exact div_smooth h) (hd.below hb) (by rw [← rays_len, hn]; exact (div_in h).2.1) (bnd_mono (div_bnd h) (by omega))
    rw [hn] at h1
    exact h1)
  obtain ⟨a, c, rfl, _⟩ := hd.len
  unfold nefDB
  clear hl hd
  cases hb : divB l d
  · rw [hb] at HO
    clear hb HD
    go_enter Tryd.func39, Tryd.ntmps39
    go_wp2_with fail
    refine Calls.mono HO.out ?_
    rintro e w1 ⟨⟨h, _⟩ | ⟨_, rfl⟩, hb1⟩
    · cases h
    have hs1 := hb1.size
    go_wp2
    go_returns
    exact ⟨rfl, by go_grown⟩
  · rw [hb] at HO
    have HD2 := Lib.hid (fun base g ns w' hF hn h => HD.out base g ns w' hF hn h hb)
    clear hb HD
    generalize nefL (degsZ l d) = K at *
    go_enter Tryd.func39, Tryd.ntmps39
    go_wp2_with fail
    refine Calls.mono HO.out ?_
    rintro e w1 ⟨⟨_, g, ns, rfl, hF, hn⟩ | ⟨h, _⟩, hb1⟩
    case inr => cases h
    have HD3 := Lib.hid (fun w2 (h : Below w1.heap.size w1 w2) => HD2.out w.heap.size g ns w2 (hF.below h) hn (belowTo hb1 h))
    have hs1 := hb1.size
    clear hF hn HD2
    go_wp2_with fail
    refine Calls.mono (HD3.out _ (by go_grown)) ?_
    rintro e w2 ⟨rfl, hb2⟩
    have hB : Below w.heap.size w w2 := belowTo (by go_grown) hb2
    clear hb2
    go_wp2
    go_returns
    exact ⟨rfl, hB⟩
set_option maxHeartbeats 400000 in
theorem isAmple1_any (n : Int) (w : World) :
    Calls Tryd.prog 107 #[.int .i64 n] w fun e w' => e = .returned (.bool (ampP n)) ∧ w' = w := by
  unfold ampP
  go_enter Tryd.func107, Tryd.ntmps107
  go_wp2
  all_goals go_returns
  all_goals (refine ⟨ret_bool ?_, rfl⟩; first | rfl | simp | (rw [Bool.eq_iff_iff]; simp; try omega))
set_option maxHeartbeats 4000000 in
theorem everyAmple_any (v : Value) (d : List Int) (w : World) (h : ReadsInts w v d) :
    Calls Tryd.prog 105 #[v, .func (.func 107) #[] #[]] w fun e w' => e = .returned (.bool (ampL d)) ∧ w' = w := by
  obtain ⟨a, c, rfl, hm, hc⟩ := h
  have HC := Lib.hid hc
  rw [ampL_all]
  have HB := Lib.hid (fun k hk h => all_bad (p := ampP) (d := d) (k := k) hk h)
  have HG := Lib.hid (fun h => all_good (p := ampP) (d := d) h)
  obtain ⟨n, hn⟩ : ∃ n, n = d.length := ⟨_, rfl⟩
  have HN := Lib.hid hn
  rw [← hn] at hm ⊢
  clear hc hn
  go_enter Tryd.func105, Tryd.ntmps105
  go_wp2
  go_loop [9] (fun s => ∃ k : Nat, s = .int .i64 k ∧ k ≤ n ∧ Hid (∀ j, j < k → ampP (gz d j) = true)) (fun s => n - (intOf s).toNat)
  case atStart => exact ⟨0, rfl, Nat.zero_le _, fun j hj => absurd hj (Nat.not_lt_zero _)⟩
  case round =>
    obtain ⟨k, rfl, hk, HR⟩ := hrel
    by_cases hlt : k < n
    · have hkl : k < d.length := by have := HN.out; omega
      obtain ⟨bb, off, rfl, hb, hcell⟩ := HC.out (by omega)
      have c1 : w.cell? ⟨bb, off + k, none⟩ = some (.int .i64 (gz d k)) := hcell k hkl
      have j1 : (0 : Int) ≤ (k : Int) := by omega
      have j2 : (k : Int) < (n : Int) := by omega
      have HI := Lib.hid (fun w' => isAmple1_any (gz d k) w')
      cases hz : ampP (gz d k)
      · have HB2 := Lib.hid (HB.out k hkl hz)
        rw [hz] at HI
        clear hz hcell HR
        generalize gz d k = z at c1 HI
        go_wp2_with fail
        refine Calls.mono (HI.out _) ?_
        rintro e w1 ⟨rfl, rfl⟩
        go_wp2
        go_returns
        exact ⟨by rw [HB2.out]; rfl, rfl⟩
      · have HR2 : Hid (∀ j, j < k + 1 → ampP (gz d j) = true) := fun j hj => by
          by_cases e : j = k
          · subst e; exact hz
          · exact HR.out j (by omega)
        rw [hz] at HI
        clear hz hcell HR
        generalize gz d k = z at c1 HI
        go_wp2_with fail
        refine Calls.mono (HI.out _) ?_
        rintro e w1 ⟨rfl, rfl⟩
        go_wp2
        go_round
        case rel => exact ⟨k + 1, by go_num, by omega, HR2⟩
        case measure => simp [intOf]; omega
    · have hkn : k = n := by omega
      subst hkn
      have HA := Lib.hid (HG.out (fun j hj => HR.out j (by have := HN.out; omega)))
      clear HR HC
      go_wp2
      go_returns
      exact ⟨by rw [HA.out]; rfl, rfl⟩

set_option maxHeartbeats 4000000 in
theorem isAmple_any (base g : Nat) (ns : List Node) (u : Value) (d : List Int) (w : World) (hF : FanAt w base g ns) (hs : ns.length ≤ 1000) (hS : Smooth (rays ns)) (hu : ReadsInts w u d) (hd : d.length = ns.length) (hb : bnd 101 d) :
    Calls Tryd.prog 78 #[.agg #[.pointer (some ⟨g, 0, none⟩), u]] w fun e w' => e = .returned (.bool (ampL (degsZ (rays ns) d))) ∧ Below w.heap.size w w' := by
  have HD := Lib.hid (fun w' (hb' : Below w.heap.size w w') => degrees_any base g ns u d w' (hF.below hb') hs hS (hu.below hb') hd hb)
  have hlen : (degsZ (rays ns) d).length ≤ 1152921504606846976 := by rw [degs_len, rays_len]; omega
  generalize degsZ (rays ns) d = D at *
  have HE := Lib.hid (fun v' b' w' (hI : Ints w' b' v' D) => everyAmple_any v' D w' (hI.reads hlen))
  generalize ampL D = K at *
  obtain ⟨a, c, rfl, _⟩ := hu.len
  clear hF hs hS hu hd hb hlen
  go_enter Tryd.func78, Tryd.ntmps78
  go_wp2_with fail
  refine Calls.mono (HD.out _ (by go_grown)) ?_
  rintro e w1 ⟨v1, rfl, hI, hb1⟩
  have hB : Below w.heap.size w w1 := belowTo (by go_grown) hb1
  have HE1 := Lib.hid (HE.out v1 _ w1 hI)
  clear hI hb1
  go_wp2_with fail
  refine Calls.mono HE1.out ?_
  rintro e w2 ⟨rfl, rfl⟩
  go_wp2
  go_returns
  exact ⟨rfl, hB⟩
set_option maxHeartbeats 4000000 in
theorem divisorAmple_any (v : Value) (l : List V2) (u : Value) (d : List Int) (w : World) (hl : ReadsVecs w v l) (hd : ReadsInts w u d) (hg : EtOk w) :
    Calls Tryd.prog 41 #[v, u] w fun e w' => e = .returned (.bool (ampDB l d)) ∧ Below w.heap.size w w' := by
  have HO := Lib.hid (divisorOf_any v u l d w hl hd hg)
  have HD := Lib.hid (fun base g (ns : List Node) w' (hF : FanAt w' base g ns) (hn : rays ns = l) (hb : Below w.heap.size w w') (h : divB l d = true) => by
    have h1 := isAmple_any base g ns u d w' hF (by have := div_len h; rw [← hn, rays_len] at this; omega) (by rw [hn]; exact div_smooth h) (hd.below hb) (by rw [← rays_len, hn]; exact (div_in h).2.1) (bnd_mono (div_bnd h) (by omega))
    rw [hn] at h1
    exact h1)
  obtain ⟨a, c, rfl, _⟩ := hd.len
  unfold ampDB
  clear hl hd
  cases hb : divB l d
  · rw [hb] at HO
    clear hb HD
    go_enter Tryd.func41, Tryd.ntmps41
    go_wp2_with fail
    refine Calls.mono HO.out ?_
    rintro e w1 ⟨⟨h, _⟩ | ⟨_, rfl⟩, hb1⟩
    · cases h
    have hs1 := hb1.size
    go_wp2
    go_returns
    exact ⟨rfl, by go_grown⟩
  · rw [hb] at HO
    have HD2 := Lib.hid (fun base g ns w' hF hn h => HD.out base g ns w' hF hn h hb)
    clear hb HD
    generalize ampL (degsZ l d) = K at *
    go_enter Tryd.func41, Tryd.ntmps41
    go_wp2_with fail
    refine Calls.mono HO.out ?_
    rintro e w1 ⟨⟨_, g, ns, rfl, hF, hn⟩ | ⟨h, _⟩, hb1⟩
    case inr => cases h
    have HD3 := Lib.hid (fun w2 (h : Below w1.heap.size w1 w2) => HD2.out w.heap.size g ns w2 (hF.below h) hn (belowTo hb1 h))
    have hs1 := hb1.size
    clear hF hn HD2
    go_wp2_with fail
    refine Calls.mono (HD3.out _ (by go_grown)) ?_
    rintro e w2 ⟨rfl, hb2⟩
    have hB : Below w.heap.size w w2 := belowTo (by go_grown) hb2
    clear hb2
    go_wp2
    go_returns
    exact ⟨rfl, hB⟩
end Go.Proofs.YtcieihbknfeddabDoor
