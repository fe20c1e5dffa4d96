/- Divisors: what the functions say, in plain words. -/
import Derived.Test.YtmencjdlfeojkaaDoorQa
import Derived.Test.YtmencjdlfeojkaaDoorGy
namespace Go.Proofs.YtmencjdlfeojkaaDoor
open Go.RowKit

def addDB (l : List V2) (a b : List Int) : Bool := divB l a && (divB l b && divB l (sumL a 1 b))
def timDB (l : List V2) (a : List Int) (n : Int) : Bool := divB l a && (cfB n && divB l (timesL a n))
def ofDB (l : List V2) (x y : Int) : Bool := smoothB l && (vecB x y && divB l (trivL l (x, y)))
def plnDB (l : List V2) (d : List Int) : Bool := divB l d && divB l (plainL l d)
def nefL (d : List Int) : Bool := d.all (fun n => decide (0 ≤ n))
def ampL (d : List Int) : Bool := d.all (fun n => decide (0 < n))
def nefDB (l : List V2) (d : List Int) : Bool := divB l d && nefL (degsZ l d)
def ampDB (l : List V2) (d : List Int) : Bool := divB l d && ampL (degsZ l d)
def eqvDB (l : List V2) (a b : List Int) : Bool := divB l a && (divB l b && trivB l (sumL a (-1) b))
theorem of_len {l : List V2} {x y : Int} (h : ofDB l x y = true) : l.length ≤ 20 := by
  unfold ofDB at h
  rw [Bool.and_eq_true] at h
  exact (smooth_len h.1).2
theorem div_len {l : List V2} {d : List Int} (h : divB l d = true) : 3 ≤ l.length ∧ l.length ≤ 20 := smooth_len (div_in h).1
theorem div_smooth {l : List V2} {d : List Int} (h : divB l d = true) : Smooth l := smooth_all (div_in h).1
theorem div_fit {l : List V2} {a d : List Int} (h : divB l a = true) : divB l d = (decide (d.length = l.length) && cfsB d) := by
  unfold divB
  rw [(div_in h).1]
  rfl
theorem smooth_fit {l : List V2} {d : List Int} (h : smoothB l = true) : divB l d = (decide (d.length = l.length) && cfsB d) := by
  unfold divB
  rw [h]
  rfl
theorem bnd_big {M : Int} {d : List Int} (h : bnd M d) (hM : M ≤ 1000000000) : bnd 1000000000 d := bnd_mono h hM
end Go.Proofs.YtmencjdlfeojkaaDoor
