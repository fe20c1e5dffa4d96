/- The kind of a fan: the program. -/
import Derived.Test.YtdlofnkimikaiaaDoorKd
import Derived.Test.YtdlofnkimikaiaaDoorB9
namespace Go.Proofs.YtdlofnkimikaiaaDoor
open Go.RowKit Go.Shelf

attribute [local go_sem] Oper.semAt_some

theorem num_rot {l : List V2} {x : Nat} (hx : x ≤ l.length) (h0 : 0 < l.length) (j : Nat) : numZ (rot x l) j = numZ l (x + j) := by
  unfold numZ
  rw [rot_len, cyc_rot hx, cyc_rot hx, show x + (j + l.length - 1) = x + j + l.length - 1 by omega, show x + (j + 1) = x + j + 1 by omega]
theorem nums_get (l : List V2) {j : Nat} (h : j < l.length) : (numsZ l)[j]?.getD 0 = numZ l j := by
  unfold numsZ
  simp [h]
theorem allVec_rot {l : List V2} (h : allVec l) {x : Nat} (hx : x ≤ l.length) : allVec (rot x l) := fun i => by rw [cyc_rot hx]; exact h _
theorem num_bd {l : List V2} (h : allVec l) (i : Nat) : -2000000 ≤ numZ l i ∧ numZ l i ≤ 2000000 := by
  have := det_sz (h (i + l.length - 1)) (h (i + 1))
  unfold numZ detV
  omega
def yNum (k : Int) (j : Nat) : Int := if j = 1 then k else if j = 3 then -k else 0
theorem eq_from {l : List V2} (h4 : l.length = 4) {x : Nat} (hk : 0 ≤ numZ l (x + 1)) : eqB 4 (fun j => numZ l (x + j)) (yNum (numZ l (x + 1))) = fromB l x := by
  rw [eqB_four]
  unfold yNum fromB
  rw [num_two h4 x, show x + 3 = (x + 1) + 2 from rfl, num_two h4 (x + 1)]
  have e1 : decide (l.length = 4) = true := by simpa using h4
  have e2 : decide (0 ≤ numZ l (x + 1)) = true := by simpa using hk
  rw [e1, e2]
  simp
  try (intro h; omega)
theorem from_len {l : List V2} (h : l.length ≠ 4) (x : Nat) : fromB l x = false := by
  unfold fromB
  simp [h]
theorem from_neg {l : List V2} {x : Nat} (h : numZ l (x + 1) < 0) : fromB l x = false := by
  unfold fromB
  have e2 : decide (0 ≤ numZ l (x + 1)) = false := by simpa using h
  rw [e2]
  simp
theorem not_kind {l : List V2} (hS : Smooth l) (h3 : 3 ≤ l.length) (h : l.length ≠ 3) (hn : ∀ i, i < l.length → fromB l i = false) : kindOk l = false := by
  unfold kindOk
  apply decide_eq_false
  intro hle
  have h4 : l.length = 4 := by omega
  obtain ⟨x, hx, hf⟩ := from_some h4 hS
  rw [hn x (by omega)] at hf
  cases hf
theorem num_congr (l : List V2) (x j : Nat) : numZ l (x % l.length + j) = numZ l (x + j) := by
  rcases Nat.eq_zero_or_pos l.length with h0 | h0
  · rw [h0, Nat.mod_zero]
  · unfold numZ
    rw [show cyc l (x % l.length + j + l.length - 1) = cyc l (x + j + l.length - 1) from cyc_congr l (by
        rw [show x % l.length + j + l.length - 1 = x % l.length + (j + l.length - 1) by omega, show x + j + l.length - 1 = x + (j + l.length - 1) by omega, Nat.mod_add_mod]),
      show cyc l (x % l.length + j + 1) = cyc l (x + j + 1) from cyc_congr l (by
        rw [show x % l.length + j + 1 = x % l.length + (j + 1) by omega, show x + j + 1 = x + (j + 1) by omega, Nat.mod_add_mod])]
/-- the fan that begins at another link -/
theorem from_any (ns : List Node) (x : Nat) (w : World) (hR : Ring w ns) (hm : ns.length ≤ 1000) (hv : allVec (rays ns)) :
    Calls Tryd.prog 125 #[.pointer (some ⟨w.heap.size, 0, none⟩)] (w.alloc (fanObj (cyc ns x).1 ns.length)) (GivesInts (w.alloc (fanObj (cyc ns x).1 ns.length)) (numsZ (rot (x % (rays ns).length) (rays ns)))) := by
  have hx : x % ns.length ≤ ns.length := Nat.le_of_lt (Nat.mod_lt _ hR.pos)
  rw [rays_len]
  have hF : FanAt (w.alloc (fanObj (cyc ns x).1 ns.length)) 0 w.heap.size (rot (x % ns.length) ns) := by
    have hR2 := (hR.rot hx).below (show Below w.heap.size w (w.alloc (fanObj (cyc ns x).1 ns.length)) by go_grown)
    refine ⟨hR2, ?_, fun p hp => ?_, fun p _ => Nat.zero_le _, Nat.zero_le _⟩
    · rw [cyc_rot hx, rot_len, Nat.add_zero, cyc_mod]
      exact World.alloc_heap_new _ _
    · have hp' : p ∈ ns := by
        unfold rot at hp
        rcases List.mem_append.1 hp with h | h
        · exact List.mem_of_mem_drop h
        · exact List.mem_of_mem_take h
      exact Nat.ne_of_lt (hR.mem_lt hp')
  have e : rays (rot (x % ns.length) ns) = rot (x % ns.length) (rays ns) := rot_map _ _ _
  have := callsIn_wide.1 (numbers_in 3 (by omega) 0 _ _ _ hF (by rw [rot_len]; exact hm) (by rw [e]; exact allVec_rot hv (by rw [rays_len]; exact hx)))
  rwa [e] at this
/-- the numbers from a link on, held against 0, k, 0, -k -/
theorem equal_from (l : List V2) (x : Nat) (v : Value) (base : Nat) (w : World) (h0 : 0 < l.length) (hm : l.length ≤ 1000) (hk : 0 ≤ numZ l (x + 1)) (hV : Ints w base v (numsZ (rot (x % l.length) l))) :
    Calls Tryd.prog 124 #[v, .slice (some ⟨w.heap.size, 0, none⟩) 4 4] (w.alloc (.cells #[.int .i64 0, .int .i64 (numZ l (x + 1)), .int .i64 0, .int .i64 (-numZ l (x + 1))] 3)) fun e w' => e = .returned (.bool (fromB l x)) ∧ Below w.heap.size w w' := by
  have hlen : (numsZ (rot (x % l.length) l)).length = l.length := by rw [nums_len, rot_len]
  have hx : x % l.length ≤ l.length := Nat.le_of_lt (Nat.mod_lt _ h0)
  obtain ⟨a, c, rfl, _, hcell⟩ := hV.reads (by rw [hlen]; omega)
  rw [hlen] at hcell ⊢
  by_cases h4 : l.length = 4
  · obtain ⟨bb, off, rfl, hbb, hcs⟩ := hcell h0
    have hA : Below w.heap.size w (w.alloc (.cells #[.int .i64 0, .int .i64 (numZ l (x + 1)), .int .i64 0, .int .i64 (-numZ l (x + 1))] 3)) := by go_grown
    have := slEqual_any bb off w.heap.size 0 4 c 4 (fun j => numZ l (x + j)) (yNum (numZ l (x + 1))) (w.alloc (.cells #[.int .i64 0, .int .i64 (numZ l (x + 1)), .int .i64 0, .int .i64 (-numZ l (x + 1))] 3)) (fun j hj => by
        rw [(hA.cell (p := ⟨bb, off + j, none⟩) hbb), hcs j (by omega), nums_get _ (by rw [rot_len]; omega), num_rot hx h0, num_congr]) (fun j hj => by
        rw [Nat.zero_add, World.cell?_alloc_at _ _ _ _ rfl]
        match j, hj with
        | 0, _ => rfl
        | 1, _ => rfl
        | 2, _ => rfl
        | 3, _ => rfl) (by omega) (Nat.lt_of_lt_of_le hbb hA.size) (by simp)
    rw [eq_from h4 hk] at this
    rw [h4]
    refine this.mono ?_
    rintro e w' ⟨rfl, hb⟩
    exact ⟨rfl, belowTo hA hb⟩
  · rw [from_len h4]
    refine (slEqual_ne _ _ _ _ _ _ _ h4).mono ?_
    rintro e w' ⟨rfl, rfl⟩
    exact ⟨rfl, by go_grown⟩

def KindI (w w0 : World) (l : List V2) (pre : List Nat) (W : World) : Prop :=
  ((Boxed W (w.heap.size + 1) 3 (.int .i64 0) ∧ Boxed W (w.heap.size + 1 + 1) 4 (.bool false)) ∧ ∀ i ∈ pre, fromB l i = false) ∧ Below (w.heap.size + 1) w0 W
def KindX (w w0 : World) (l : List V2) (c : Code) (pre : List Nat) (W : World) : Prop :=
  ((c = .ret ∧ ∃ p x, pre = p ++ [x] ∧ fromB l x = true) ∧ ∃ x p, pre = p ++ [x] ∧ (Boxed W (w.heap.size + 1) 3 (.int .i64 (numZ l (x + 1))) ∧ Boxed W (w.heap.size + 1 + 1) 4 (.bool true))) ∧ Below (w.heap.size + 1) w0 W
theorem kindI_own (w w0 : World) (l : List V2) {k : Nat} (h0 : w.heap.size + 1 ≤ w0.heap.size) (h : w.heap.size + 1 ≤ k) : OwnFrom k (KindI w w0 l) :=
  OwnFrom.and (OwnFrom.and (OwnFrom.and (Own.from (ownErr _ _ _) _) (Own.from (ownErr _ _ _) _)) (ownFrom_pure k (fun pre => ∀ i ∈ pre, fromB l i = false))) (ownFrom_below h0 h)
theorem kindX_own (w w0 : World) (l : List V2) (c : Code) {k : Nat} (h0 : w.heap.size + 1 ≤ w0.heap.size) (h : w.heap.size + 1 ≤ k) : OwnFrom k (KindX w w0 l c) := by
  refine OwnFrom.and (OwnFrom.and (ownFrom_pure k (fun pre => c = .ret ∧ ∃ p x, pre = p ++ [x] ∧ fromB l x = true)) ?_) (ownFrom_below h0 h)
  rintro s X Y row ⟨x, p, rfl, hb, hb2⟩ hg hr
  exact ⟨x, p, rfl, ownErr _ _ _ (p ++ [x]) X Y row hb hg (fun r e => (hr r e).2), ownErr _ _ _ (p ++ [x]) X Y row hb2 hg (fun r e => (hr r e).2)⟩
set_option maxHeartbeats 8000000 in
theorem kind_three (base g : Nat) (ns : List Node) (w : World) (hF : FanAt w base g ns) (h3 : ns.length = 3) :
    Calls Tryd.prog 97 #[.pointer (some ⟨g, 0, none⟩)] w fun e w' => e = .returned (.tuple #[.int .i64 (-1), .bool true]) ∧ Below w.heap.size w w' := by
  have q0 := hF.head.c1
  have q1 := hF.head.lt
  rw [h3] at q0
  have hA : Below w.heap.size w (((w.alloc (.cells #[.pointer (some ⟨g, 0, none⟩)] 57)).alloc (.cells #[.int .i64 0] 3)).alloc (.cells #[.bool false] 4)) := by go_grown
  have g0 : (((w.alloc (.cells #[.pointer (some ⟨g, 0, none⟩)] 57)).alloc (.cells #[.int .i64 0] 3)).alloc (.cells #[.bool false] 4)).cell? ⟨g, 1, none⟩ = some (.int .i64 ((3 : Nat) : Int)) := (hA.cell (p := ⟨g, 1, none⟩) q1).trans q0
  have b1 := ((Boxed.new (w.alloc (.cells #[.pointer (some ⟨g, 0, none⟩)] 57)) 3 (.int .i64 0)).alloc (.cells #[.bool false] 4))
  have b2 := Boxed.new ((w.alloc (.cells #[.pointer (some ⟨g, 0, none⟩)] 57)).alloc (.cells #[.int .i64 0] 3)) 4 (.bool false)
  simp only [World.size_alloc] at b1 b2
  have x1 := b1.set (.int .i64 (-1))
  have x2 : Boxed ((((w.alloc (.cells #[.pointer (some ⟨g, 0, none⟩)] 57)).alloc (.cells #[.int .i64 0] 3)).alloc (.cells #[.bool false] 4)).setCell ⟨w.heap.size + 1, 0, none⟩ (.int .i64 (-1))) (w.heap.size + 1 + 1) 4 (.bool false) := (Below.heap_setCell (((w.alloc (.cells #[.pointer (some ⟨g, 0, none⟩)] 57)).alloc (.cells #[.int .i64 0] 3)).alloc (.cells #[.bool false] 4)) ⟨w.heap.size + 1, 0, none⟩ (.int .i64 (-1)) (w.heap.size + 1 + 1) (by simp)).trans b2
  have x3 := (x2.set (.bool true)).cell
  have x4 : (((((w.alloc (.cells #[.pointer (some ⟨g, 0, none⟩)] 57)).alloc (.cells #[.int .i64 0] 3)).alloc (.cells #[.bool false] 4)).setCell ⟨w.heap.size + 1, 0, none⟩ (.int .i64 (-1))).setCell ⟨w.heap.size + 1 + 1, 0, none⟩ (.bool true)).cell? ⟨w.heap.size + 1, 0, none⟩ = some (.int .i64 (-1)) := by
    have : Boxed (((((w.alloc (.cells #[.pointer (some ⟨g, 0, none⟩)] 57)).alloc (.cells #[.int .i64 0] 3)).alloc (.cells #[.bool false] 4)).setCell ⟨w.heap.size + 1, 0, none⟩ (.int .i64 (-1))).setCell ⟨w.heap.size + 1 + 1, 0, none⟩ (.bool true)) (w.heap.size + 1) 3 (.int .i64 (-1)) := (Below.heap_setCell _ ⟨w.heap.size + 1 + 1, 0, none⟩ (.bool true) (w.heap.size + 1) (by simp)).trans x1
    exact this.cell
  have hB2 : Below w.heap.size w (((((w.alloc (.cells #[.pointer (some ⟨g, 0, none⟩)] 57)).alloc (.cells #[.int .i64 0] 3)).alloc (.cells #[.bool false] 4)).setCell ⟨w.heap.size + 1, 0, none⟩ (.int .i64 (-1))).setCell ⟨w.heap.size + 1 + 1, 0, none⟩ (.bool true)) := (hA.setCell (p := ⟨w.heap.size + 1, 0, none⟩) (by simp) _).setCell (p := ⟨w.heap.size + 1 + 1, 0, none⟩) (by simp; omega) _
  have c1 := b1.cell
  have f1 := b1.frozen
  have c2 := x2.cell
  have f2 := x2.frozen
  clear q0 b1 b2 x1 x2
  go_enter Tryd.func97, Tryd.ntmps97
  go_wp2
  go_returns
  first
    | exact ⟨rfl, hB2⟩
    | exact ⟨rfl, by go_grown⟩
set_option maxHeartbeats 8000000 in
theorem kind_more (n : Nat) (hn : 3 ≤ n) (base g : Nat) (ns : List Node) (w : World) (hF : FanAt w base g ns) (hm : ns.length ≤ 1000) (hS : Smooth (rays ns)) (h3 : 3 < ns.length) :
    CallsIn Fence.wide n Tryd.prog 97 #[.pointer (some ⟨g, 0, none⟩)] w fun e w' => e = .returned (.tuple #[.int .i64 (gate (kindOk (rays ns)) (kind4 (rays ns))), .bool (kindOk (rays ns))]) ∧ Below w.heap.size w w' := by
  have h1 : 1 ≤ n := by omega
  have hd : 1 ≤ n - 1 - 1 := by omega
  have hR := hF.ring
  have hp := hR.pos
  have q0 := hF.head.c1
  have q1 := hF.head.lt
  have q2 : ¬ (ns.length : Int) = 3 := by omega
  have q3 : ((ns.length : Int) == 3) = false := by simpa using q2
  have hA0 : Below w.heap.size w (((w.alloc (.cells #[.pointer (some ⟨g, 0, none⟩)] 57)).alloc (.cells #[.int .i64 0] 3)).alloc (.cells #[.bool false] 4)) := by go_grown
  have g0 : (((w.alloc (.cells #[.pointer (some ⟨g, 0, none⟩)] 57)).alloc (.cells #[.int .i64 0] 3)).alloc (.cells #[.bool false] 4)).cell? ⟨g, 1, none⟩ = some (.int .i64 (ns.length : Int)) := (hA0.cell (p := ⟨g, 1, none⟩) q1).trans q0
  have b1 := ((Boxed.new (w.alloc (.cells #[.pointer (some ⟨g, 0, none⟩)] 57)) 3 (.int .i64 0)).alloc (.cells #[.bool false] 4))
  have b2 := Boxed.new ((w.alloc (.cells #[.pointer (some ⟨g, 0, none⟩)] 57)).alloc (.cells #[.int .i64 0] 3)) 4 (.bool false)
  simp only [World.size_alloc] at b1 b2
  have p0 : (((w.alloc (.cells #[.pointer (some ⟨g, 0, none⟩)] 57)).alloc (.cells #[.int .i64 0] 3)).alloc (.cells #[.bool false] 4)).cell? ⟨w.heap.size, 0, none⟩ = some (.pointer (some ⟨g, 0, none⟩)) := (World.cell?_alloc_lt _ _ ⟨_, _, none⟩ (by simp only [World.size_alloc]; omega)).trans ((World.cell?_alloc_lt _ _ ⟨_, _, none⟩ (by simp only [World.size_alloc]; omega)).trans (by simp))
  have w0c : (w.alloc (.cells #[.pointer (some ⟨g, 0, none⟩)] 57)).cell? ⟨w.heap.size, 0, none⟩ = some (.pointer (some ⟨g, 0, none⟩)) := by simp
  have hz : (((w.alloc (.cells #[.pointer (some ⟨g, 0, none⟩)] 57)).alloc (.cells #[.int .i64 0] 3)).alloc (.cells #[.bool false] 4)).heap.size = w.heap.size + 1 + 1 + 1 := by simp
  have hw0 : Below w.heap.size w (w.alloc (.cells #[.pointer (some ⟨g, 0, none⟩)] 57)) := by go_grown
  have hz0 : (w.alloc (.cells #[.pointer (some ⟨g, 0, none⟩)] 57)).heap.size = w.heap.size + 1 := by simp
  have hAw : Below (w.heap.size + 1) (w.alloc (.cells #[.pointer (some ⟨g, 0, none⟩)] 57)) (((w.alloc (.cells #[.pointer (some ⟨g, 0, none⟩)] 57)).alloc (.cells #[.int .i64 0] 3)).alloc (.cells #[.bool false] 4)) := by go_grown
  refine callsIn_of_wp_marks Tryd.func97 rfl trivial ?_ rfl
  simp only [Tryd.ntmps97, List.size_toArray, List.length_cons, List.length_nil, Nat.reduceAdd, Nat.reduceSub, Array.replicate_succ, Array.replicate_zero, List.push_toArray, List.append_toArray, List.nil_append, List.cons_append]
  gi_wp2_with fail
  refine ⟨trivial, ?_⟩
  refine CallsIn.mono (links_in _ g _) ?_
  rintro e w3 ⟨rfl, rfl⟩
  have bF := Boxed.new (((w.alloc (.cells #[.pointer (some ⟨g, 0, none⟩)] 57)).alloc (.cells #[.int .i64 0] 3)).alloc (.cells #[.bool false] 4)) 57 (.pointer (some ⟨g, 0, none⟩))
  have hA5 : Below w.heap.size w ((((w.alloc (.cells #[.pointer (some ⟨g, 0, none⟩)] 57)).alloc (.cells #[.int .i64 0] 3)).alloc (.cells #[.bool false] 4)).alloc (.cells #[.pointer (some ⟨g, 0, none⟩)] 57)) := by go_grown
  have hAw5 : Below (w.heap.size + 1) (w.alloc (.cells #[.pointer (some ⟨g, 0, none⟩)] 57)) ((((w.alloc (.cells #[.pointer (some ⟨g, 0, none⟩)] 57)).alloc (.cells #[.int .i64 0] 3)).alloc (.cells #[.bool false] 4)).alloc (.cells #[.pointer (some ⟨g, 0, none⟩)] 57)) := hAw.alloc (by simp only [World.size_alloc]; omega) _
  have y1 := b1.alloc (.cells #[.pointer (some ⟨g, 0, none⟩)] 57)
  have y2 := b2.alloc (.cells #[.pointer (some ⟨g, 0, none⟩)] 57)
  have hz5 : ((((w.alloc (.cells #[.pointer (some ⟨g, 0, none⟩)] 57)).alloc (.cells #[.int .i64 0] 3)).alloc (.cells #[.bool false] 4)).alloc (.cells #[.pointer (some ⟨g, 0, none⟩)] 57)).heap.size = w.heap.size + 1 + 1 + 1 + 1 := by simp
  simp only [World.size_alloc] at bF
  clear b1 b2 hAw g0 p0 hz
  gi_wp2_with fail
  generalize ((((w.alloc (.cells #[.pointer (some ⟨g, 0, none⟩)] 57)).alloc (.cells #[.int .i64 0] 3)).alloc (.cells #[.bool false] 4)).alloc (.cells #[.pointer (some ⟨g, 0, none⟩)] 57)) = W5 at *
  generalize (w.alloc (.cells #[.pointer (some ⟨g, 0, none⟩)] 57)) = w0 at *
  refine wpIn_links (by omega) rfl bF.cell hA5.size (hF.below hA5) (fun p hp => hR.mem_lt hp) (by omega) rfl (KindI w w0 (rays ns)) (KindX w w0 (rays ns)) (kindI_own w w0 _ (by omega) (by omega)) (fun c => kindX_own w w0 _ c (by omega) (by omega))
    ⟨⟨⟨y1, y2⟩, fun i hi => by cases hi⟩, hAw5⟩ ?a₁ ?assign ?body ?done ?stop
  case assign =>
    intro l x W K hK
    gi_wp2
    exact hK
  case body =>
    rintro l pre x W ⟨⟨⟨hr1, hr2⟩, hq⟩, hb⟩ hlen
    have hbw : Below w.heap.size w W := hw0.trans (hb.mono (by omega))
    have hRW := hR.below hbw
    have k3 := (hRW.link x).c3
    have kl := (hRW.link x).lt
    have HN := Lib.hid (number_any ns (x + 1) W hRW hS.1)
    have HFr := Lib.hid (fun w' (h : Below W.heap.size W w') => from_any ns x w' (hRW.below h) hm hS.1)
    have HEq := Lib.hid (fun v base w' hk hV => equal_from (rays ns) x v base w' (by rw [rays_len]; exact hp) (by rw [rays_len]; exact hm) hk hV)
    obtain ⟨n1, n2⟩ := num_bd hS.1 (x + 1)
    have q5 : IntKind.i64.wrap (-(numZ (rays ns) (x + 1))) = -(numZ (rays ns) (x + 1)) := by rw [IntKind.wrap_i64]; omega
    have c0 : W.cell? ⟨w.heap.size, 0, none⟩ = some (.pointer (some ⟨g, 0, none⟩)) := (hb.cell (p := ⟨w.heap.size, 0, none⟩) (by simp)).trans w0c
    have g1 : W.cell? ⟨g, 1, none⟩ = some (.int .i64 (ns.length : Int)) := (hbw.cell (p := ⟨g, 1, none⟩) q1).trans q0
    have HNg := Lib.hid (fun h => from_neg (l := rays ns) (x := x) h)
    have HQ := Lib.hid hq
    have rl1 := hr1.lt
    have rl2 := hr2.lt
    clear hq
    generalize hkk : numZ (rays ns) (x + 1) = k at *
    have HKK := Lib.hid hkk
    clear hkk
    generalize numsZ (rot (x % (rays ns).length) (rays ns)) = L at *
    generalize (cyc ns x).1 = q at *
    generalize (cyc ns (x + 1)).1 = q' at *
    have HX : Hid (fromB (rays ns) x = false → ∀ i ∈ pre ++ [x], fromB (rays ns) i = false) := fun h i hi => by
      rcases List.mem_append.1 hi with hi | hi
      · exact HQ.out i hi
      · obtain rfl := List.mem_singleton.1 hi
        exact h
    gi_wp2_with fail
    refine ⟨trivial, ?_⟩
    refine CallsIn.mono (CallsIn.inRound l (callsIn_wide.2 HN.out)) ?_
    rintro e w2 ⟨rfl, hb2⟩
    have c0' := (hb2.cell (p := ⟨w.heap.size, 0, none⟩) (by dsimp only; omega)).trans c0
    have g1' := (hb2.cell (p := ⟨g, 1, none⟩) (Nat.lt_of_lt_of_le q1 hbw.size)).trans g1
    have hs2 := hb2.size
    have hsw : w.heap.size < w2.heap.size := by omega
    have hsg : g < w2.heap.size := Nat.lt_of_lt_of_le q1 (Nat.le_trans hbw.size hs2)
    clear c0 g1 k3
    by_cases hk : 0 ≤ k
    · have HFq := Lib.hid (HFr.out w2 hb2)
      unfold fanObj at HFq
      gi_wp2_with fail
      refine ⟨trivial, ?_⟩
      refine CallsIn.mono (CallsIn.inRound l (callsIn_wide.2 HFq.out)) ?_
      rintro e w3 ⟨v, rfl, hV, hb3⟩
      have hb' : Below W.heap.size W w3 := belowTo (hb2.alloc hs2 _) hb3
      have HE := Lib.hid (HEq.out v _ w3 hk hV)
      clear hb2 hb3 hV HEq HFq HFr HN
      gi_wp2_with fail
      refine ⟨trivial, ?_⟩
      refine CallsIn.mono (CallsIn.inRound l (callsIn_wide.2 HE.out)) ?_
      rintro e w4 ⟨rfl, hb4⟩
      replace hb' := belowTo hb' hb4
      have hr1' : Boxed w4 (w.heap.size + 1) 3 (.int .i64 0) := (hb'.block _ rl1).trans hr1
      have hr2' : Boxed w4 (w.heap.size + 1 + 1) 4 (.bool false) := (hb'.block _ rl2).trans hr2
      have KO := Lib.hid (KeepsOthers.of_grownBy (grown_of_below hb' none) (fun _ _ e _ => by cases e))
      have hW2 := hb.trans (hb'.mono (by omega))
      have hbW := hb'.mono (B' := w.heap.size) (by omega)
      clear hb4 hb' HE
      cases hf : fromB (rays ns) x
      · have HF := Lib.hid (HX.out hf)
        clear hf HX
        gi_wp2
        exact ⟨KO.out, hbW, ⟨⟨hr1', hr2'⟩, HF.out⟩, hW2⟩
      · have HF := Lib.hid hf
        have e1 := hr1'.cell
        have f1 := hr1'.frozen
        have z2 : Boxed (w4.setCell ⟨w.heap.size + 1, 0, none⟩ (.int .i64 k)) (w.heap.size + 1 + 1) 4 (.bool false) := (Below.heap_setCell w4 ⟨w.heap.size + 1, 0, none⟩ (.int .i64 k) (w.heap.size + 1 + 1) (by simp)).trans hr2'
        have z3 : Boxed ((w4.setCell ⟨w.heap.size + 1, 0, none⟩ (.int .i64 k)).setCell ⟨w.heap.size + 1 + 1, 0, none⟩ (.bool true)) (w.heap.size + 1) 3 (.int .i64 k) := (Below.heap_setCell _ ⟨w.heap.size + 1 + 1, 0, none⟩ (.bool true) (w.heap.size + 1) (by simp)).trans (hr1'.set _)
        have e2 := z2.cell
        have f2 := z2.frozen
        clear hf HX
        gi_wp2
        refine ⟨(KO.out.trans (KeepsOthers.setCell _ _ _)).trans (KeepsOthers.setCell _ _ _), ⟨⟨rfl, pre, x, rfl, HF.out⟩, x, pre, rfl, ?_, z2.set _⟩, (hW2.setCell (p := ⟨w.heap.size + 1, 0, none⟩) (by simp) _).setCell (p := ⟨w.heap.size + 1 + 1, 0, none⟩) (by simp) _⟩
        rw [HKK.out]
        exact z3
    · have HF := Lib.hid (HX.out (HNg.out (by omega)))
      have hk2 : decide (0 ≤ k) = false := decide_eq_false hk
      have hk3 : k < 0 := by omega
      have hb' : Below W.heap.size W (w2.alloc (.cells #[.pointer (some ⟨q, 0, none⟩), .int .i64 (ns.length : Int)] 99)) := hb2.alloc hs2 _
      have hr1' := (hb'.block _ rl1).trans hr1
      have hr2' := (hb'.block _ rl2).trans hr2
      have KO := Lib.hid (KeepsOthers.of_grownBy (grown_of_below hb' none) (fun _ _ e _ => by cases e))
      have hW2 := hb.trans (hb'.mono (by omega))
      have hbW := hb'.mono (B' := w.heap.size) (by omega)
      clear HX
      gi_wp2_with fail
      refine ⟨trivial, ?_⟩
      gi_wp2_with fail
      refine ⟨trivial, ?_⟩
      gi_wp2
      exact ⟨KO.out, hbW, ⟨⟨hr1', hr2'⟩, HF.out⟩, hW2⟩
  case done =>
    rintro D W hD ⟨⟨⟨hr1, hr2⟩, hq⟩, hb⟩ hK
    have HE : Hid (kindOk (rays ns) = false) := not_kind hS (by rw [rays_len]; omega) (by rw [rays_len]; omega) (fun i hi => hq i (List.mem_range.2 (by rwa [rays_len] at hi)))
    have e1 := hr1.cell
    have f1 := hr1.frozen
    have hK1 : (W.setCell ⟨w.heap.size + 1, 0, none⟩ (.int .i64 0)).heap[D]? = some (.deferred (some [])) := (Below.heap_setCell W ⟨w.heap.size + 1, 0, none⟩ _ D (by simp; omega)).trans hK
    have hK' : ((W.setCell ⟨w.heap.size + 1, 0, none⟩ (.int .i64 0)).setCell ⟨w.heap.size + 1 + 1, 0, none⟩ (.bool false)).heap[D]? = some (.deferred (some [])) := (Below.heap_setCell _ ⟨w.heap.size + 1 + 1, 0, none⟩ _ D (by simp; omega)).trans hK1
    have z2 : Boxed (W.setCell ⟨w.heap.size + 1, 0, none⟩ (.int .i64 0)) (w.heap.size + 1 + 1) 4 (.bool false) := (Below.heap_setCell W ⟨w.heap.size + 1, 0, none⟩ (.int .i64 0) (w.heap.size + 1 + 1) (by simp)).trans hr2
    have e2 := z2.cell
    have f2 := z2.frozen
    have z3 : Boxed ((W.setCell ⟨w.heap.size + 1, 0, none⟩ (.int .i64 0)).setCell ⟨w.heap.size + 1 + 1, 0, none⟩ (.bool false)) (w.heap.size + 1) 3 (.int .i64 0) := (Below.heap_setCell _ ⟨w.heap.size + 1 + 1, 0, none⟩ (.bool false) (w.heap.size + 1) (by simp)).trans (hr1.set _)
    have kk1 := (boxed_putObj z3 (.deferred none) hK' rfl).cell
    have kk2 := (boxed_putObj (z2.set (.bool false)) (.deferred none) hK' rfl).cell
    have hbw : Below w.heap.size w W := hw0.trans (hb.mono (by omega))
    have hB2 : Below w.heap.size w (((W.setCell ⟨w.heap.size + 1, 0, none⟩ (.int .i64 0)).setCell ⟨w.heap.size + 1 + 1, 0, none⟩ (.bool false)).putObj D (.deferred none)) := ((hbw.setCell (p := ⟨w.heap.size + 1, 0, none⟩) (by simp) _).setCell (p := ⟨w.heap.size + 1 + 1, 0, none⟩) (by simp; omega) _).grown (grownBy_putObj' _ D (.deferred none)) (by simpa using hbw.size) (fun k e => by cases e; omega)
    have hKK := Lib.hid hK'
    clear hK hK' hK1 hq
    gi_wp2
    refine ⟨by simp, .inl ⟨_, _, rfl, run_takeDeferred hKK.out, ?_⟩⟩
    exact ⟨.tuple #[.int .i64 0, .bool false], by simp [results, Tryd.f97, go_sem, kk1, kk2], by rw [HE.out]; rfl, hB2⟩
  case stop =>
    rintro D c pre W hD hpre ⟨⟨⟨rfl, p, x, rfl, hx⟩, x', p', hpp, hr1, hr2⟩, hb⟩ hK
    obtain ⟨rfl, hxn⟩ := prefix_range hpre
    obtain ⟨-, e2⟩ := List.append_inj' hpp rfl
    obtain rfl : x = x' := by simpa using e2
    have h4 : (rays ns).length = 4 := by
      unfold fromB at hx
      rw [Bool.and_eq_true] at hx
      exact of_decide_eq_true hx.1
    obtain ⟨t1, t2⟩ := from_kind hS (x := x) (by rw [rays_len] at h4; omega) hx
    have HE := Lib.hid (And.intro t1 t2)
    have kk1 := (boxed_putObj hr1 (.deferred none) hK rfl).cell
    have kk2 := (boxed_putObj hr2 (.deferred none) hK rfl).cell
    have hbw : Below w.heap.size w W := hw0.trans (hb.mono (by omega))
    have hB2 : Below w.heap.size w (W.putObj D (.deferred none)) := hbw.grown (grownBy_putObj' _ D (.deferred none)) hbw.size (fun k e => by cases e; omega)
    have hKK := Lib.hid hK
    clear hK hpp e2 hpre h4 t1 t2 hx
    gi_wp2
    refine ⟨by simp, .inl ⟨_, _, rfl, run_takeDeferred hKK.out, ?_⟩⟩
    exact ⟨.tuple #[.int .i64 (numZ (rays ns) (x + 1)), .bool true], by simp [results, Tryd.f97, go_sem, kk1, kk2], by rw [HE.out.1, HE.out.2]; rfl, hB2⟩
theorem fanKindM_any (base g : Nat) (ns : List Node) (w : World) (hF : FanAt w base g ns) (hm : ns.length ≤ 1000) (hS : Smooth (rays ns)) (h3 : 3 ≤ ns.length) :
    Calls Tryd.prog 97 #[.pointer (some ⟨g, 0, none⟩)] w fun e w' => e = .returned (.tuple #[.int .i64 (gate (kindOk (rays ns)) (kind4 (rays ns))), .bool (kindOk (rays ns))]) ∧ Below w.heap.size w w' := by
  by_cases h : ns.length = 3
  · have e1 : kindOk (rays ns) = true := by unfold kindOk; rw [rays_len, h]; rfl
    have e2 : kind4 (rays ns) = -1 := by unfold kind4; rw [rays_len, if_pos h]
    rw [e1, e2]
    exact kind_three base g ns w hF h
  · exact callsIn_wide.1 (kind_more 3 (by omega) base g ns w hF hm hS (by omega))
end Go.Proofs.YtdlofnkimikaiaaDoor
