/- Polygons, the model's side: vectors are counted. -/
import Derived.Test.YtomadlpdlmbmjaaDoorWh
import Derived.StillTailTactics
namespace Go.Proofs.YtomadlpdlmbmjaaDoor
open Go.RowKit

def mnI (f : Nat → Int) : Nat → Int
  | 0 => 100
  | k + 1 => min (mnI f k) (f k)
def mxI (f : Nat → Int) : Nat → Int
  | 0 => -100
  | k + 1 => max (mxI f k) (f k)
theorem mn_bnd {f : Nat → Int} (h : ∀ i, -100 ≤ f i ∧ f i ≤ 100) : ∀ k, -100 ≤ mnI f k ∧ mnI f k ≤ 100 := by
  intro k
  induction k with
  | zero => exact ⟨by simp [mnI], by simp [mnI]⟩
  | succ k ih => have := h k; unfold mnI; omega
theorem mx_bnd {f : Nat → Int} (h : ∀ i, -100 ≤ f i ∧ f i ≤ 100) : ∀ k, -100 ≤ mxI f k ∧ mxI f k ≤ 100 := by
  intro k
  induction k with
  | zero => exact ⟨by simp [mxI], by simp [mxI]⟩
  | succ k ih => have := h k; unfold mxI; omega
def xsZ (l : List V2) (i : Nat) : Int := (cyc l i).1
def ysZ (l : List V2) (i : Nat) : Int := (cyc l i).2
/-- how many vectors of the box there are whose least determinant is at least s -/
def cntZ (l : List V2) (s : Int) : Int :=
  sumI (fun a => colN (cyc l) l.length s (mnI (xsZ l) l.length + a) (mnI (ysZ l) l.length) (mxI (ysZ l) l.length - mnI (ysZ l) l.length + 1).toNat) (mxI (xsZ l) l.length - mnI (xsZ l) l.length + 1).toNat
theorem col_bnd (p : Nat → P2) (n : Nat) (s x b : Int) (H : Nat) : 0 ≤ colN p n s x b H ∧ colN p n s x b H ≤ H := by
  unfold colN
  induction H with
  | zero => exact ⟨Int.le_refl _, Int.le_refl _⟩
  | succ H ih => rw [sumI_succ]; split <;> omega
theorem cnt_bnd (p : Nat → P2) (n : Nat) (s x b : Int) (H : Nat) (W : Nat) : 0 ≤ sumI (fun a => colN p n s (x + a) b H) W ∧ sumI (fun a => colN p n s (x + a) b H) W ≤ H * W := by
  induction W with
  | zero => exact ⟨Int.le_refl _, by simp [sumI]⟩
  | succ W ih =>
    have := col_bnd p n s (x + W) b H
    rw [sumI_succ]
    have e : (H : Int) * ((W + 1 : Nat) : Int) = H * W + H := by rw [Int.natCast_add, Int.mul_add]; simp
    omega
set_option maxRecDepth 100000 in
set_option maxHeartbeats 32000000 in
theorem l6gCount_any (v : Value) (l : List V2) (s : Int) (w : World) (h : ReadsVecs w v l) (hp : polyB l = true) :
    Calls Tryd.prog 61 #[v, .int .i64 s] w fun e w' => e = .returned (.int .i64 (cntZ l s)) ∧ Below w.heap.size w w' := by
  have h30 := poly_len hp
  have h0 : 0 < l.length := by omega
  have HL := Lib.hid (fun x y w' (hb : Below w.heap.size w w') hv => l6gLeast_any v l x y w' (h.below hb) hp hv)
  obtain ⟨bb, off, vc, rfl, _, _, hbv, hvs⟩ := h.open h0
  have HVS := Lib.hid hvs
  have HIn := Lib.hid (fun z => least_ins (l := l) (z := z) (s := s) h0)
  have hxs : ∀ i, -100 ≤ xsZ l i ∧ xsZ l i ≤ 100 := fun i => (poly_small hp i).1
  have hys : ∀ i, -100 ≤ ysZ l i ∧ ysZ l i ≤ 100 := fun i => (poly_small hp i).2
  have HSx1 : Hid (∀ k, mnI (xsZ l) (k + 1) = min (mnI (xsZ l) k) (cyc l k).1) := fun _ => rfl
  have HSx2 : Hid (∀ k, mxI (xsZ l) (k + 1) = max (mxI (xsZ l) k) (cyc l k).1) := fun _ => rfl
  have HSy1 : Hid (∀ k, mnI (ysZ l) (k + 1) = min (mnI (ysZ l) k) (cyc l k).2) := fun _ => rfl
  have HSy2 : Hid (∀ k, mxI (ysZ l) (k + 1) = max (mxI (ysZ l) k) (cyc l k).2) := fun _ => rfl
  have H01 : Hid (mnI (xsZ l) 0 = 100) := rfl
  have H02 : Hid (mxI (xsZ l) 0 = -100) := rfl
  have H03 : Hid (mnI (ysZ l) 0 = 100) := rfl
  have H04 : Hid (mxI (ysZ l) 0 = -100) := rfl
  unfold cntZ
  have HX1 := Lib.hid (mn_bnd hxs l.length)
  have HX2 := Lib.hid (mx_bnd hxs l.length)
  have HY1 := Lib.hid (mn_bnd hys l.length)
  have HY2 := Lib.hid (mx_bnd hys l.length)
  obtain ⟨X0, hX0⟩ : ∃ X0, X0 = mnI (xsZ l) l.length := ⟨_, rfl⟩
  obtain ⟨X1, hX1⟩ : ∃ X1, X1 = mxI (xsZ l) l.length := ⟨_, rfl⟩
  obtain ⟨Y0, hY0⟩ : ∃ Y0, Y0 = mnI (ysZ l) l.length := ⟨_, rfl⟩
  obtain ⟨Y1, hY1⟩ : ∃ Y1, Y1 = mxI (ysZ l) l.length := ⟨_, rfl⟩
  rw [← hX0] at HX1
  rw [← hX1] at HX2
  rw [← hY0] at HY1
  rw [← hY1] at HY2
  rw [← hX0, ← hX1, ← hY0, ← hY1]
  obtain ⟨W, hW⟩ : ∃ W, W = (X1 - X0 + 1).toNat := ⟨_, rfl⟩
  obtain ⟨H, hH⟩ : ∃ H, H = (Y1 - Y0 + 1).toNat := ⟨_, rfl⟩
  rw [← hW, ← hH]
  have HCB := Lib.hid (fun x u => col_bnd (cyc l) l.length s x Y0 u)
  have HTB := Lib.hid (fun t => cnt_bnd (cyc l) l.length s X0 Y0 H t)
  have HCs : Hid (∀ x (u : Nat), colN (cyc l) l.length s x Y0 (u + 1) = colN (cyc l) l.length s x Y0 u + (if insB (cyc l) l.length s (x, Y0 + (u : Int)) then 1 else 0)) := fun _ _ => rfl
  have HC0 : Hid (∀ x, colN (cyc l) l.length s x Y0 0 = 0) := fun _ => rfl
  have HTs : Hid (∀ t : Nat, sumI (fun a => colN (cyc l) l.length s (X0 + a) Y0 H) (t + 1) = sumI (fun a => colN (cyc l) l.length s (X0 + a) Y0 H) t + colN (cyc l) l.length s (X0 + (t : Int)) Y0 H) := fun _ => rfl
  have HT0 : Hid (sumI (fun a => colN (cyc l) l.length s (X0 + a) Y0 H) 0 = 0) := rfl
  generalize (sumI fun a : Nat => colN (cyc l) l.length s (X0 + a) Y0 H) = T at *
  generalize (colN (cyc l) l.length s) = C at *
  have HX0 := Lib.hid hX0
  have HX1' := Lib.hid hX1
  have HY0 := Lib.hid hY0
  have HY1' := Lib.hid hY1
  have hsz : (H : Int) ≤ 1000 ∧ (W : Int) ≤ 1000 := by
    have a1 := HX1.out
    have a2 := HX2.out
    have a3 := HY1.out
    have a4 := HY2.out
    omega
  have HW := Lib.hid hW
  have HH := Lib.hid hH
  clear hW hH hX0 hX1 hY0 hY1
  generalize mnI (xsZ l) = A1 at *
  generalize mxI (xsZ l) = A2 at *
  generalize mnI (ysZ l) = A3 at *
  generalize mxI (ysZ l) = A4 at *
  clear hxs hys h hvs hp
  go_enter Tryd.func61, Tryd.ntmps61
  go_wp2
  go_loopw [6] (fun s6 wr => ∃ k : Nat, k ≤ l.length ∧ s6 = .int .i64 (k : Int) ∧ (wr.cell? ⟨w.heap.size, 0, none⟩ = some (.int .i64 (A1 k)) ∧ wr.cell? ⟨w.heap.size, 1, none⟩ = some (.int .i64 (A2 k)) ∧ wr.cell? ⟨w.heap.size, 2, none⟩ = some (.int .i64 (A3 k)) ∧ wr.cell? ⟨w.heap.size, 3, none⟩ = some (.int .i64 (A4 k))) ∧ (∀ o, wr.frozen? ⟨w.heap.size, o, none⟩ = false) ∧ Below w.heap.size w wr) (fun s6 _ => l.length - (intOf s6).toNat)
  case atStart => exact ⟨0, Nat.zero_le _, rfl, by rw [H01.out, H02.out, H03.out, H04.out]; simp, fun o => by simp, by go_grown⟩
  case round =>
    obtain ⟨k, hk, rfl, ⟨a1, a2, a3, a4⟩, hfz, hB⟩ := hrel
    have i1 : (0 : Int) ≤ (k : Int) := by omega
    by_cases hlt : k < l.length
    · have i2 : (k : Int) < (l.length : Int) := by omega
      obtain ⟨d0, d1⟩ := HVS.out wr hB k hlt
      have f0 := hfz 0
      have f1 := hfz 1
      have f2 := hfz 2
      have f3 := hfz 3
      have K1 := Lib.hid (HSx1.out k)
      have K2 := Lib.hid (HSx2.out k)
      have K3 := Lib.hid (HSy1.out k)
      have K4 := Lib.hid (HSy2.out k)
      generalize cyc l k = V at *
      obtain ⟨x1, y1⟩ := V
      dsimp only at d0 d1 K1 K2 K3 K4
      have tt := cell_lt a1
      have HF := Lib.hid hfz
      clear HL HIn HX1 HX2 HY1 HY2 HSx1 HSx2 HSy1 HSy2 H01 H02 H03 H04 HCB HTB HCs HC0 HTs HT0 HVS hfz HX0 HX1' HY0 HY1' HW HH hsz
      go_wp2
      go_still_tail 33, (by kernel_rfl)
      change wpList _ _ _ _ _ (World.drew wr)
      have b1 : (World.drew wr).cell? ⟨w.heap.size, 0, none⟩ = some (.int .i64 (A1 k)) := a1
      have b2 : (World.drew wr).cell? ⟨w.heap.size, 1, none⟩ = some (.int .i64 (A2 k)) := a2
      have b3 : (World.drew wr).cell? ⟨w.heap.size, 2, none⟩ = some (.int .i64 (A3 k)) := a3
      have b4 : (World.drew wr).cell? ⟨w.heap.size, 3, none⟩ = some (.int .i64 (A4 k)) := a4
      have g0 : (World.drew wr).frozen? ⟨w.heap.size, 0, none⟩ = false := f0
      have g1 : (World.drew wr).frozen? ⟨w.heap.size, 1, none⟩ = false := f1
      have g2 : (World.drew wr).frozen? ⟨w.heap.size, 2, none⟩ = false := f2
      have g3 : (World.drew wr).frozen? ⟨w.heap.size, 3, none⟩ = false := f3
      have GF : Hid (∀ o, (World.drew wr).frozen? ⟨w.heap.size, o, none⟩ = false) := HF.out
      have hBd : Below w.heap.size w (World.drew wr) := by go_grown
      generalize World.drew wr = W2 at *
      clear a1 a2 a3 a4 f0 f1 f2 f3 HF hB d0 d1 tt
      go_wp2
      go_roundw
      case rel =>
        refine ⟨k + 1, by omega, by go_num, ⟨?_, ?_, ?_, ?_⟩, fun o => ?_, ?_⟩
        · rw [K1.out]
          have e : min (A1 k) x1 = if x1 < A1 k then x1 else A1 k := by split <;> omega
          rw [e]
          first | (go_cell; done) | (go_simp; done) | (simp; done)
        · rw [K2.out]
          have e : max (A2 k) x1 = if A2 k < x1 then x1 else A2 k := by split <;> omega
          rw [e]
          first | (go_cell; done) | (go_simp; done) | (simp; done)
        · rw [K3.out]
          have e : min (A3 k) y1 = if y1 < A3 k then y1 else A3 k := by split <;> omega
          rw [e]
          first | (go_cell; done) | (go_simp; done) | (simp; done)
        · rw [K4.out]
          have e : max (A4 k) y1 = if A4 k < y1 then y1 else A4 k := by split <;> omega
          rw [e]
          first | (go_cell; done) | (go_simp; done) | (simp; done)
        · have := GF.out o
          simp [this]
        · go_grown
      case measure => simp [intOf]; omega
    · obtain rfl : k = l.length := by omega
      have i2 : ¬ ((l.length : Nat) : Int) < (l.length : Int) := by omega
      rw [← HX0.out] at a1
      rw [← HX1'.out] at a2
      rw [← HY0.out] at a3
      rw [← HY1'.out] at a4
      obtain ⟨x1, x1'⟩ := HX1.out
      obtain ⟨x2, x2'⟩ := HX2.out
      obtain ⟨y1, y1'⟩ := HY1.out
      obtain ⟨y2, y2'⟩ := HY2.out
      have tt := cell_lt a1
      have hB1 := hB
      clear HX1 HX2 HY1 HY2 HSx1 HSx2 HSy1 HSy2 H01 H02 H03 H04 hfz HVS HX0 HX1' HY0 HY1' hB
      generalize hWr : wr = W1 at *
      clear hWr
      have HA1 := Lib.hid a1
      have HA2 := Lib.hid a2
      have HA3 := Lib.hid a3
      have HA4 := Lib.hid a4
      have hs1 := hB1.size
      go_wp2
      go_loopw [7, 8] (fun s7 s8 wr => ∃ t : Nat, t ≤ W ∧ s7 = .int .i64 (T t) ∧ s8 = .int .i64 (X0 + (t : Int)) ∧ Below W1.heap.size W1 wr) (fun _ s8 _ => (X1 + 1 - intOf s8).toNat)
      case atStart => exact ⟨0, Nat.zero_le _, by rw [HT0.out], by simp, Below.refl _ _⟩
      case round =>
        obtain ⟨t, ht, rfl, rfl, hB⟩ := hrel
        have a2 := (hB.cell (p := ⟨w.heap.size, 1, none⟩) tt).trans HA2.out
        by_cases hlt : t < W
        · have hle : X0 + (t : Int) ≤ X1 := by have := HW.out; omega
          have a3 := (hB.cell (p := ⟨w.heap.size, 2, none⟩) tt).trans HA3.out
          have tb := HTB.out t
          have HTk := Lib.hid (HTs.out t)
          have tk := HTs.out t
          have ck := fun u => HCB.out (X0 + (t : Int)) u
          have HCk := Lib.hid (fun u => HCs.out (X0 + (t : Int)) u)
          have HC0k := Lib.hid (HC0.out (X0 + (t : Int)))
          have hW2 : (H : Int) * (t : Int) ≤ 1000 * 1000 := Int.mul_le_mul (by omega) (by omega) (by omega) (by omega)
          have HCB2 : Hid (∀ u, 0 ≤ C (X0 + (t : Int)) Y0 u ∧ C (X0 + (t : Int)) Y0 u ≤ (u : Int)) := ck
          have hTb : 0 ≤ T t ∧ T t ≤ 1000000 := by omega
          generalize hTq : T t = TT at *
          have HTq := Lib.hid hTq
          clear tb ck hTq hW2 tk HTB HTs HCB HCs HC0 HT0
          go_wp2
          go_loopw [7, 9] (fun s7 s9 wr => ∃ u : Nat, u ≤ H ∧ s7 = .int .i64 (TT + C (X0 + (t : Int)) Y0 u) ∧ s9 = .int .i64 (Y0 + (u : Int)) ∧ Below W1.heap.size W1 wr) (fun _ s9 _ => (Y1 + 1 - intOf s9).toNat)
          case atStart => exact ⟨0, Nat.zero_le _, by rw [HC0k.out]; simp, by simp, hB⟩
          case round =>
            clear hB a2 a3
            obtain ⟨u, hu, rfl, rfl, hB⟩ := hrel
            have a4 := (hB.cell (p := ⟨w.heap.size, 3, none⟩) tt).trans HA4.out
            have cu := HCB2.out u
            by_cases hlu : u < H
            · have hle2 : Y0 + (u : Int) ≤ Y1 := by have := HH.out; omega
              have HLk := Lib.hid (HL.out (X0 + (t : Int)) (Y0 + (u : Int)) _ (hB1.trans (hB.mono hs1)) (vec_of (by omega)))
              have HIk := Lib.hid (HIn.out (X0 + (t : Int), Y0 + (u : Int)))
              have HCu := Lib.hid (HCk.out u)
              generalize hz : insB (cyc l) l.length s (X0 + (t : Int), Y0 + (u : Int)) = z at HIk HCu
              generalize leastZ l (X0 + (t : Int), Y0 + (u : Int)) (l.length - 1) = D at HLk HIk
              clear hz
              have q1 : IntKind.i64.wrap (Y0 + (u : Int) + 1) = Y0 + ((u + 1 : Nat) : Int) := by rw [IntKind.wrap_i64]; omega
              have q2 : IntKind.i64.wrap (TT + C (X0 + (t : Int)) Y0 u + 1) = TT + C (X0 + (t : Int)) Y0 u + 1 := by rw [IntKind.wrap_i64]; omega
              clear cu HL HIn HCk HC0k HCB2
              go_wp2_with fail
              refine Calls.mono HLk.out ?_
              rintro e w2 ⟨rfl, hb2⟩
              have hB2 := belowTo hB hb2
              clear hb2 hB HLk a4
              cases z
              · have hD : ¬ s ≤ D := by have := HIk.out; simpa using this
                have hD' : decide (s ≤ D) = false := by simpa using hD
                clear HIk
                go_wp2
                go_roundw
                case rel => exact ⟨u + 1, by omega, by rw [HCu.out]; simp, by first | rfl | (congr 1; omega), hB2⟩
                case measure => simp [intOf]; omega
              · have hD : s ≤ D := by have := HIk.out; simpa using this
                clear HIk
                go_wp2
                go_roundw
                case rel => exact ⟨u + 1, by omega, by rw [HCu.out]; simp; omega, by first | rfl | (congr 1; omega), hB2⟩
                case measure => simp [intOf]; omega
            · obtain rfl : u = H := by omega
              have hle2 : ¬ Y0 + (u : Int) ≤ Y1 := by have := HH.out; omega
              have q1 : IntKind.i64.wrap (X0 + (t : Int) + 1) = X0 + ((t + 1 : Nat) : Int) := by rw [IntKind.wrap_i64]; omega
              clear cu HL HIn HCk HC0k HCB2
              go_wp2
              go_roundw
              case rel => exact ⟨t + 1, by omega, by rw [HTk.out], by first | rfl | (congr 1; omega), hB⟩
              case measure => simp [intOf]; omega
        · obtain rfl : t = W := by omega
          have hle : ¬ X0 + (t : Int) ≤ X1 := by have := HW.out; omega
          go_wp2
          go_returns
          exact ⟨rfl, hB1.trans (hB.mono hs1)⟩
end Go.Proofs.YtomadlpdlmbmjaaDoor
