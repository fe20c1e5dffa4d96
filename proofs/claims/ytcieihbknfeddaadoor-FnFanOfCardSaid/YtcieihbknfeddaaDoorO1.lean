/- Fans: sorted, tidied, turned: the head of Oa, apart. -/
import Derived.Test.YtcieihbknfeddaaDoorWn
import Derived.Test.YtcieihbknfeddaaDoorB9
import Derived.Test.YtcieihbknfeddaaDoorB6
namespace Go.Proofs.YtcieihbknfeddaaDoor
open Go.RowKit

theorem fan_rnd {l : List V2} (h : fanB l = true) : RndV l.length (cyc l) := by
  have h3 := fan_len h
  refine (round_of (by omega) (fun i _ => ?_) (fan_in h).2.2).rnd
  obtain ⟨_, _, _, _, hp⟩ := cone_in (fan_cone h i)
  exact posB_true hp
theorem fan_prim {l : List V2} (h : fanB l = true) (i : Nat) : primB (cyc l i).1 (cyc l i).2 = true := by
  obtain ⟨h1, h2, _⟩ := cone_in (fan_cone h i)
  unfold primB
  rw [h1, h2]
  rfl
theorem fan_allP {l : List V2} (h : fanB l = true) : AllP l := by
  intro v hv
  obtain ⟨i, hi, rfl⟩ := List.mem_iff_getElem.1 hv
  have := fan_prim h i
  rwa [cyc_lt hi, List.getElem?_eq_getElem hi] at this
theorem cnt_upR (p : Nat → Bool) (k : Nat) : cnt p (List.range (k + 1)) = cnt p (List.range k) + (if p k then 1 else 0) := by
  rw [List.range_succ, cnt_snoc]
/-- directions that go round once are met once again from the start -/
theorem rnd_one {l : List V2} (h0 : 0 < l.length) (hn : ∀ i, NZ (cyc l i)) (hr : RndV l.length (cyc l)) : oneBack l = true := by
  have hmin : ∀ j, ¬ ahdV (cyc l j) (cyc l (tidyK l)) := by
    intro j hj
    have a := tidy_min hn l.length (j % l.length) (Nat.mod_lt _ h0)
    rw [cyc_mod] at a
    have b := ahd_ahead hj
    unfold tidyK at b
    rw [a] at b
    cases b
  have hs := hr.sorted hmin
  generalize tidyK l = K at *
  have e : cnt (bkB l) (List.range l.length) = cnt (fun t => bkB l (K + t)) (List.range l.length) := (cnt_rot (fun i => by unfold bkB; rw [cyc_add, show i + l.length + 1 = i + 1 + l.length by omega, cyc_add]) K).symm
  unfold oneBack
  rw [e]
  have lo : ∀ m, m + 1 ≤ l.length → cnt (fun t => bkB l (K + t)) (List.range m) = 0 := by
    intro m
    induction m with
    | zero => intro _; rfl
    | succ m ih =>
      intro hm
      rw [cnt_upR, ih (by omega)]
      have : bkB l (K + m) = false := ahead_asymm (ahd_ahead (hs (m + 1) m (by omega) (by omega)))
      rw [this]
      rfl
  have h2 : 2 ≤ l.length := by
    rcases Nat.lt_or_ge l.length 2 with q | q
    · have h1 : l.length = 1 := by omega
      have t := hr.turn 0
      have p := hr.per 0
      rw [h1] at p
      rw [p, dt_self] at t
      omega
    · exact q
  obtain ⟨m, hm⟩ : ∃ m, l.length = m + 1 := ⟨l.length - 1, by omega⟩
  have : bkB l (K + m) = true := by
    unfold bkB
    have a := hs m 0 (by omega) (by omega)
    rw [show K + m + 1 = K + 0 + l.length by omega, cyc_add]
    exact ahd_ahead a
  rw [hm, cnt_upR, lo m (by omega), this]
  rfl
theorem fan_mk {l : List V2} (h3 : 3 ≤ l.length) (h20 : l.length ≤ 20) (hp : ∀ i, primB (cyc l i).1 (cyc l i).2 = true) (hr : RndV l.length (cyc l)) : fanB l = true := by
  have h1 := rnd_one (by omega) (fun i => prim_nz (hp i)) hr
  have h2 : allC l = true := List.all_eq_true.2 (fun i _ => by
    have t : 0 < detV (cyc l i) (cyc l (i + 1)) := hr.turn i
    unfold conB coneB
    rw [hp i, hp (i + 1)]
    exact decide_eq_true t)
  unfold fanB rng
  rw [h1, h2, decide_eq_true h3, decide_eq_true h20]
  rfl
theorem tidy_strictF {l : List V2} (h : fanB l = true) : Strict (tidyL l) :=
  tidy_strict (by have := fan_len h; omega) (fun i => prim_nz (fan_prim h i)) (fan_rnd h)
theorem fan_sort {l : List V2} (h : fanB l = true) : sortL l = tidyL l := (sort_is (fan_allP h) (tidy_strictF h) (fun x => rot_mem x)).symm
theorem fan_tidyF {l : List V2} (h : fanB l = true) : fanB (tidyL l) = true := by
  have := fan_len h
  unfold tidyL
  rw [fan_rot (Nat.le_of_lt (tidyK_lt (by omega)))]
  exact h
theorem fan_ofB {l : List V2} (h : fanB l = true) : ofB l = true := by
  rw [of_fan (fun j _ => fan_prim h j), fan_sort h]
  exact fan_tidyF h
theorem tidy_same {l l' : List V2} (h : fanB l = true) (h' : fanB l' = true) (hm : ∀ x, x ∈ l' ↔ x ∈ l) : tidyL l' = tidyL l := by
  rw [← fan_sort h, ← fan_sort h']
  exact strict_unique (strict_sort (fan_allP h')) (strict_sort (fan_allP h)) (fun x => by rw [mem_sort, mem_sort]; exact hm x)
theorem tidy_rot {l : List V2} {k : Nat} (h : fanB l = true) (hk : k ≤ l.length) : tidyL (rot k l) = tidyL l :=
  tidy_same h (by rw [fan_rot hk]; exact h) (fun x => rot_mem x)
end Go.Proofs.YtcieihbknfeddaaDoor
