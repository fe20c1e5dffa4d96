/- Tables: how many rows a table has; its determinant; the program. -/
import Derived.Test.YtohojjoediibhaaDoorEk
import Derived.Laws.StructEq
import Derived.DeepKeys
namespace Go.Proofs.YtohojjoediibhaaDoor
open Go.RowKit Go.Maps

/-! rows -/
def rowZ (l : List V2) (i k : Nat) : Int := if k < l.length - 2 ∧ i < l.length - 2 then tabZ l i k else 0
def rowV (f : Nat → Int) : List Value := (List.range 18).map fun k => .int .i64 (f k)
theorem rowV_len (f : Nat → Int) : (rowV f).length = 18 := by simp [rowV]
theorem rowV_get (f : Nat → Int) {k : Nat} (h : k < 18) : (rowV f)[k]? = some (.int .i64 (f k)) := by simp [rowV, h]
theorem tabL_row {l : List V2} {i k : Nat} (hi : i < 18) (hk : k < 18) : (tabL l)[i * 18 + k]? = some (.int .i64 (rowZ l i k)) := tabL_get hi hk
theorem tabZ_bd {l : List V2} (hS : Smooth l) (i k : Nat) : -2000000 ≤ tabZ l i k ∧ tabZ l i k ≤ 2000000 := by
  have := num_bnd hS (i + 2)
  unfold tabZ
  split
  · exact this
  · split <;> omega
theorem rowZ_bd {l : List V2} (hS : Smooth l) (i k : Nat) : -2000000 ≤ rowZ l i k ∧ rowZ l i k ≤ 2000000 := by
  have := tabZ_bd hS i k
  unfold rowZ
  split <;> omega
theorem num_three {l : List V2} (hS : smoothB l = true) (h3 : l.length = 3) : numZ l 2 = 1 := by
  have h := (smooth_all hS).2 0
  unfold numZ
  rw [h3, show cyc l (2 + 3 - 1) = cyc l 1 from by rw [← cyc_mod l (2 + 3 - 1), h3], show cyc l (2 + 1) = cyc l 0 from by rw [← cyc_mod l (2 + 1), h3]]
  rw [show 0 + 1 = 1 from rfl] at h
  unfold detV detZ at *
  rw [Int.mul_comm (cyc l 1).1, Int.mul_comm (cyc l 1).2]
  omega
/-- there is 0 everywhere where there is no ray, and only there -/
theorem row_zero {l : List V2} (hS : smoothB l = true) {i : Nat} (hi : i < 18) : (∀ k, k < 18 → rowZ l i k = 0) ↔ l.length - 2 ≤ i := by
  have hl := smooth_len hS
  constructor
  · intro h
    by_cases hn : l.length - 2 ≤ i
    · exact hn
    · exfalso
      by_cases h1 : l.length = 3
      · have e0 : i = 0 := by omega
        subst e0
        have := h 0 (by omega)
        unfold rowZ tabZ at this
        rw [if_pos (by omega), if_pos rfl, num_three hS h1] at this
        omega
      · by_cases h2 : i + 1 < l.length - 2
        · have := h (i + 1) (by omega)
          unfold rowZ tabZ at this
          rw [if_pos (by omega), if_neg (by omega), if_pos (.inl rfl)] at this
          omega
        · have := h (i - 1) (by omega)
          unfold rowZ tabZ at this
          rw [if_pos (by omega), if_neg (by omega), if_pos (.inr (by omega))] at this
          omega
  · intro h k _
    unfold rowZ
    rw [if_neg (by omega)]
theorem mapM_some {α β : Type} (g : α → Option β) (f : α → β) : ∀ is : List α, (∀ i ∈ is, g i = some (f i)) → is.mapM g = some (is.map f)
  | [], _ => rfl
  | i :: is, h => by
    rw [List.mapM_cons, h i (by simp), mapM_some g f is (fun j hj => h j (by simp [hj]))]
    rfl
theorem lits_row (d : Nat) (f : Nat → Int) (h : ∀ k, k < 18 → (Lit.int .i64 (f k)).wf = true) : Tryd.prog.keyLits (d + 1 + 1) 123 (rowV f) = some ((List.range 18).map fun k => Lit.int .i64 (f k)) := by
  have hc : Tryd.prog.cellsOf 123 = 18 := by kernel_rfl
  have hi : Tryd.prog.cellsOf 3 = 1 := by kernel_rfl
  have hm : (List.range 18).mapM (fun i => Tryd.prog.keyLits (d + 1) 3 (((rowV f).drop (i * 1)).take 1)) = some ((List.range 18).map fun i => [Lit.int .i64 (f i)]) := by
    refine mapM_some _ _ _ (fun i hi => ?_)
    have hi18 := List.mem_range.1 hi
    have e : ((rowV f).drop (i * 1)).take 1 = [.int .i64 (f i)] := by
      rw [Nat.mul_one, List.drop_eq_getElem_cons (by rw [rowV_len]; exact hi18)]
      simp [rowV]
    rw [e]
    exact lits_int d (h i hi18)
  rw [Program.keyLits]
  case heq => exact Tryd.underlying123
  rw [if_pos (by rw [rowV_len, hc]), hi, hm]
  rfl
theorem row_formed (f : Nat → Int) : (Value.agg (rowV f).toArray).formed Tryd.prog 123 = true := by
  have hc : Tryd.prog.cellsOf 123 = 18 := by kernel_rfl
  simp [Value.formed, Tryd.underlying123, hc, rowV_len]
theorem rowDeep : Tryd.prog.keyTypeAt 2 123 = true := by kernel_rfl
set_option maxRecDepth 100000 in
theorem row_same (f : Nat → Int) (hf : ∀ k, k < 18 → (Lit.int .i64 (f k)).wf = true) (K : Bool) (hK : K = true ↔ ∀ k, k < 18 → f k = 0) (w : World) :
    (Op.equalIn 10000 123 (.agg (rowV f).toArray) (.agg #[.int .i64 0, .int .i64 0, .int .i64 0, .int .i64 0, .int .i64 0, .int .i64 0, .int .i64 0, .int .i64 0, .int .i64 0, .int .i64 0, .int .i64 0, .int .i64 0, .int .i64 0, .int .i64 0, .int .i64 0, .int .i64 0, .int .i64 0, .int .i64 0])).run Tryd.prog w = .ok K w := by
  have h1 := lits_row 0 f hf
  have h2 := lits_row 0 (fun _ => 0) (fun _ _ => by decide)
  obtain ⟨r, hr, hiff⟩ := run_equalIn_deep (P := Tryd.prog) 9998 2 123 rowDeep w _ _ _ _ _ _ (row_formed f) (row_formed (fun _ => 0)) h1 h2
  have e : r = K := by
    rw [Bool.eq_iff_iff, hiff, hK]
    constructor
    · intro h k hk
      have := congrArg (fun L => L[k]?) h
      simp only [List.getElem?_map, List.getElem?_range hk, Option.map_some] at this
      injection this with this
      injection this
    · intro h
      refine List.map_congr_left (fun k hk => ?_)
      rw [h k (List.mem_range.1 hk)]
  rw [← e]
  exact hr
set_option maxRecDepth 100000 in
set_option maxHeartbeats 16000000 in
theorem size_any (l : List V2) (w : World) (hS : smoothB l = true) :
    Calls Tryd.prog 168 #[.agg (tabL l).toArray] w fun e w' => e = .returned (.int .i64 ((l.length - 2 : Nat) : Int)) ∧ Below w.heap.size w w' := by
  have h3 := smooth_len hS
  have HRz := Lib.hid (fun i (hi : i < 18) => row_zero hS hi)
  have HWf := Lib.hid (fun i k => wf_i64 (x := rowZ l i k) (by have := rowZ_bd (smooth_all hS) i k; omega))
  have HTr := Lib.hid (fun i k (hi : i < 18) (hk : k < 18) => tabL_row (l := l) hi hk)
  have HInf : Hid ((Tryd.prog.info? 123).map (·.size) = some 18) := by show _ = _; kernel_rfl
  clear hS
  obtain ⟨N, hN⟩ : ∃ N, N = l.length - 2 := ⟨_, rfl⟩
  rw [← hN] at HRz ⊢
  have h1 : N ≤ 18 := by omega
  clear hN h3
  have hRB : RowAt (w.alloc (.cells (tabL l).toArray 125)) w.heap.size 125 (tabL l) := RowAt.made w _ _
  have HRB := Lib.hid hRB
  clear hRB
  go_enter Tryd.func168, Tryd.ntmps168
  go_wp2
  have hA : Below w.heap.size w (w.alloc (.cells (tabL l).toArray 125)) := by go_grown
  generalize w.alloc (.cells (tabL l).toArray 125) = W0 at *
  go_loop [3] (fun s3 => ∃ k : Nat, s3 = .int .i64 k ∧ k ≤ N) (fun s3 => N - (intOf s3).toNat)
  case atStart => exact ⟨0, rfl, Nat.zero_le _⟩
  case round =>
    obtain ⟨k, rfl, hk⟩ := hrel
    have i0 : (0 : Int) ≤ (k : Int) := by omega
    by_cases hlt : k < 18
    · have i1 : (k : Int) < 18 := by omega
      have HRg : Hid (W0.rangeAt w.heap.size (k * 18) (rowV (rowZ l k))) := by
        intro j v hv
        have hj : j < 18 := by have := (List.getElem?_eq_some_iff.1 hv).1; rwa [rowV_len] at this
        rw [rowV_get _ hj] at hv
        rw [HRB.out.val, HTr.out k j hlt hj]
        exact hv
      have HNe := Lib.hid (fun K hK w' => row_same (rowZ l k) (fun j _ => HWf.out k j) K hK w')
      have HSz : Hid ((Tryd.prog.info? 123).map (·.size) = some (rowV (rowZ l k)).length) := by show _ = _; rw [rowV_len]; exact HInf.out
      by_cases hkN : k < N
      · have hne := HNe.out false (by rw [HRz.out k hlt]; simp; omega)
        clear HNe
        go_wp2_with (refine BigFrame.wpList_want (by rfl) (fun K hK => wp_load_mid 123 _ rfl w.heap.size (k * 18) rfl (rowV (rowZ l k)) _ HRg.out Tryd.underlying123 rfl HSz.out (hK _ _ ?_)); clear hK K)
        go_round
        case rel => exact ⟨k + 1, by go_num, by omega⟩
        case measure => simp [intOf]; omega
      · have hkn : k = N := by omega
        subst hkn
        have hne := HNe.out true (by rw [HRz.out k hlt]; simp)
        clear HNe
        go_wp2_with (refine BigFrame.wpList_want (by rfl) (fun K hK => wp_load_mid 123 _ rfl w.heap.size (k * 18) rfl (rowV (rowZ l k)) _ HRg.out Tryd.underlying123 rfl HSz.out (hK _ _ ?_)); clear hK K)
        go_returns
        exact ⟨rfl, hA⟩
    · have hkn : k = N := by omega
      subst hkn
      have i1 : ¬ (k : Int) < 18 := by omega
      have i2 : decide ((k : Int) < 18) = false := by simpa using i1
      go_wp2
      go_returns
      exact ⟨rfl, hA⟩
theorem rowZ_diag {l : List V2} {k : Nat} (h : k < l.length - 2) : rowZ l k k = numZ l (k + 2) := by
  unfold rowZ tabZ
  rw [if_pos ⟨h, h⟩, if_pos rfl]
theorem tabL_size (l : List V2) : (Tryd.prog.info? 125).map (·.size) = some (tabL l).toArray.size := by
  rw [infoTable]
  unfold tabL
  rw [List.size_toArray, tabP_len]
end Go.Proofs.YtohojjoediibhaaDoor
