/- Sections and corners of nef divisors: the mathematics of the promises. -/
import Derived.Test.YtohojjoediibhaaGreatDoorBm
import Derived.Test.YtohojjoediibhaaGreatDoorJk
import Derived.Test.YtohojjoediibhaaGreatDoorBp
namespace Go.Proofs.YtohojjoediibhaaGreatDoor
open Go.RowKit

theorem corn_dot {l : List V2} (hS : Smooth l) (d : List Int) (i : Nat) : dotQ l (cornZ l d i) i = -(gz d i) ∧ dotQ l (cornZ l d i) (i + 1) = -(gz d ((i + 1) % l.length)) := by
  have h := hS.2 i
  unfold dotQ dotZ cornZ vecAt
  unfold detV detZ at h
  dsimp only
  constructor <;> grind
theorem corn_has {l : List V2} {d : List Int} (h : cornDB l d = true) {i : Nat} (hi : i < l.length) : hasZ l d (cornZ l d i) = true := by
  obtain ⟨hd, hn, _⟩ := cornD_in h
  have hs := (div_in hd).1
  have hc := corn_dot (smooth_all hs) d i
  refine sec_good (fun j hj => ?_)
  have hu := supp_up (d := d) (m := cornZ l d i) (s := i) hs (fun k hk => nef_gz hn hk) (by unfold hQ; rw [Nat.mod_eq_of_lt hi, hc.1]; omega) (by unfold hQ; rw [hc.2]; omega) j
  unfold hQ dotQ at hu
  rw [Nat.mod_eq_of_lt hj] at hu
  omega
theorem corn_vec {l : List V2} {d : List Int} (h : cornDB l d = true) {i : Nat} (hi : i < l.length) : vecB (cornZ l d i).1 (cornZ l d i).2 = true := by
  have := allV_at (cornD_in h).2.2 (k := i) (by rw [corn_len]; exact hi)
  rwa [corn_cyc hi] at this
/-- the way from the corner ahead to a corner -/
theorem corn_way {l : List V2} (hS : Smooth l) (d : List Int) {i : Nat} (hi : i < l.length) :
    (cornZ l d i).1 - (cornZ l d ((i + l.length - 1) % l.length)).1 = degZ l d i * (cyc l i).2 ∧ (cornZ l d i).2 - (cornZ l d ((i + l.length - 1) % l.length)).2 = -(degZ l d i * (cyc l i).1) := by
  have h0 : 0 < l.length := by omega
  obtain ⟨n1, n2⟩ := neighbours hS i
  have hp := Nat.mod_lt (i + l.length - 1) h0
  have e1 : ((i + l.length - 1) % l.length + 1) % l.length = i := by
    rw [Nat.mod_add_mod, show i + l.length - 1 + 1 = i + l.length by omega, Nat.add_mod_right, Nat.mod_eq_of_lt hi]
  have e2 : cyc l ((i + l.length - 1) % l.length + 1) = cyc l i := cyc_eq (by rw [e1, Nat.mod_eq_of_lt hi])
  have e3 : cyc l ((i + l.length - 1) % l.length) = cyc l (i + l.length - 1) := cyc_mod l _
  unfold cornZ vecAt degZ
  rw [e2, e3, e1]
  generalize cyc l (i + l.length - 1) = a at *
  generalize cyc l i = b at *
  generalize cyc l (i + 1) = c at *
  generalize numZ l i = t at *
  generalize gz d ((i + l.length - 1) % l.length) = x at *
  generalize gz d i = y at *
  generalize gz d ((i + 1) % l.length) = z at *
  dsimp only
  have m1 : y * (a.2 + c.2) = y * (-t * b.2) := by rw [n2]
  have m2 : y * (a.1 + c.1) = y * (-t * b.1) := by rw [n1]
  constructor <;> grind
theorem corn_step {l : List V2} (hS : Smooth l) (d : List Int) {i : Nat} (hi : i < l.length) : detV (cyc (cornL l d) i) (cyc (cornL l d) (i + 1)) = gz d ((i + 1) % l.length) * degZ l d ((i + 1) % l.length) := by
  have h0 : 0 < l.length := by omega
  have hq := Nat.mod_lt (i + 1) h0
  have e0 : cyc (cornL l d) (i + 1) = cornZ l d ((i + 1) % l.length) := by
    rw [← corn_cyc hq]
    have := cyc_mod (cornL l d) (i + 1)
    rw [corn_len] at this
    exact this.symm
  have d1 := hS.2 i
  have d2 := hS.2 (i + 1)
  have e1 : cyc l ((i + 1) % l.length) = cyc l (i + 1) := cyc_mod l _
  have e2 : cyc l ((i + 1) % l.length + 1) = cyc l (i + 1 + 1) := cyc_eq (by rw [Nat.mod_add_mod])
  have e3 : numZ l ((i + 1) % l.length) = -(detV (cyc l i) (cyc l (i + 1 + 1))) := by
    rw [numZ_mod h0]
    unfold numZ
    rw [show i + 1 + l.length - 1 = i + l.length by omega, cyc_add]
  rw [corn_cyc hi, e0]
  unfold degZ
  rw [mod_back hi, e3]
  unfold cornZ vecAt
  rw [e1, e2]
  generalize cyc l i = a at *
  generalize cyc l (i + 1) = b at *
  generalize cyc l (i + 1 + 1) = c at *
  generalize gz d i = x at *
  generalize gz d ((i + 1) % l.length) = y at *
  generalize gz d (((i + 1) % l.length + 1) % l.length) = z at *
  unfold detV detZ at *
  dsimp only
  have key : -(x * b.2 - y * a.2) * -(z * b.1 - y * c.1) - -(y * a.1 - x * b.1) * -(y * c.2 - z * b.2) = x * y * (b.1 * c.2 - b.2 * c.1) + y * z * (a.1 * b.2 - a.2 * b.1) - y * y * (a.1 * c.2 - a.2 * c.1) := by grind
  rw [key, d1, d2]
  grind
theorem area_prod {l : List V2} {d : List Int} (h : cornDB l d = true) : areaZ (cornL l d) = prodZ l d d := by
  have hd := (cornD_in h).1
  have h3 := (div_len hd).1
  unfold areaZ
  rw [corn_len, sumZ_congr (fun i hi => corn_step (div_smooth hd) d hi), sumZ_turn (fun i => gz d i * degZ l d i) (by omega)]
  rfl
/-- sections and twice sections -/
theorem has_twice {l : List V2} {d : List Int} {x y : Int} (hd : d.length = l.length) (h : hasZ l d (x, y) = true) : hasZ l (timesL d 2) (x * 2, y * 2) = true := by
  refine sec_good (fun j hj => ?_)
  have := sec_in h hj
  rw [gz_timesL (by omega)]
  unfold dotZ at *
  grind
end Go.Proofs.YtohojjoediibhaaGreatDoor
