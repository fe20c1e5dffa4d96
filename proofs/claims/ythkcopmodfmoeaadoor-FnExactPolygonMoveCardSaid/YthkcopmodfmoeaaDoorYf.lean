/- impl.hull: the hull of some vectors. -/
import Derived.Test.YthkcopmodfmoeaaDoorYd
import Derived.Test.YthkcopmodfmoeaaDoorYe
namespace Go.Proofs.YthkcopmodfmoeaaDoor
open Go.RowKit

def HullE (l : List V2) (w : World) (e : Ending) (w' : World) : Prop := ∃ S v', S.Perm l ∧ Wk S ∧ e = .returned v' ∧ VecsR w' w.heap.size v' (hullZ S) ∧ Below w.heap.size w w'
set_option maxRecDepth 100000 in
set_option maxHeartbeats 8000000 in
theorem hull_any (v : Value) (l : List V2) (w : World) (h : ReadsVecs w v l) (hm : l.length ≤ 1000) (hbig : ∀ x ∈ l, big 400000 x.1 x.2) :
    Calls Tryd.prog 71 #[v, .func (.func 72) #[] #[], .func (.func 66) #[] #[]] w (HullE l w) := by
  obtain ⟨a, vc, hv, hvc, _⟩ := id h
  subst hv
  have HRd : Hid (∀ W, Below w.heap.size w W → ReadsVecs W (.slice a l.length vc) l) := fun W hW => h.below hW
  have HBig : Hid (∀ x ∈ l, big 400000 x.1 x.2) := hbig
  obtain ⟨n, hn⟩ : ∃ n, n = l.length := ⟨_, rfl⟩
  obtain ⟨N, hN⟩ : ∃ N, N = 2 * n := ⟨_, rfl⟩
  have HN : Hid (n = l.length ∧ N = n + n ∧ n ≤ 1000) := ⟨hn, by omega, by omega⟩
  have HOw := Lib.hid (made_own w N (by omega))
  rw [← hn] at hvc HRd ⊢
  have j1 : IntKind.i64.wrap (2 * (n : Int)) = (N : Int) := by rw [IntKind.wrap_i64]; omega
  have j2 : (0 : Int) ≤ (n : Int) := by omega
  have j3 : (n : Int) ≤ (N : Int) := by omega
  have j4 : ((N : Int) - (n : Int)).toNat = n := by omega
  have j5 : N - n = n := by omega
  have j6 : n ≤ N := by omega
  have j7 : (if N = n then some (⟨w.heap.size, 0, none⟩ : Addr) else some ⟨w.heap.size, n * 2, none⟩) = some ⟨w.heap.size, n * 2, none⟩ := by
    split
    · rw [show n * 2 = 0 by omega]
    · rfl
  have hmk := run_makeV N (by omega)
  clear h hbig hn hN hm
  obtain ⟨W3, hW3⟩ : ∃ W3, W3 = (w.alloc (.cells (madeCells #[.int .i64 0, .int .i64 0] (N * 2)) 38)).setCells w.heap.size (0 * 2) (intsV (flat l)) := ⟨_, rfl⟩
  have hcp : (Builtin.copy_ #[24, 24] 3 #[.slice (some ⟨w.heap.size, 0, none⟩) N N, .slice a n vc]).run Tryd.prog (w.alloc (.cells (madeCells #[.int .i64 0, .int .i64 0] (N * 2)) 38)) = .ok (.int .i64 (n : Int)) W3 := by
    rw [hW3, HN.out.1]
    rw [HN.out.1] at HRd
    refine run_copyV _ _ w.heap.size 0 N N _ l (HRd.out _ (by go_grown)) (by have := HN.out; omega) fun j hj => ?_
    obtain ⟨⟨u1, u2⟩, u3, u4⟩ := HOw.out.row (j / 2) (by have := HN.out; omega)
    rw [Nat.zero_add]
    rcases Nat.mod_two_eq_zero_or_one j with q | q
    · rw [show j / 2 * 2 = j by omega] at u1 u3
      exact ⟨by rw [u1]; rfl, u3⟩
    · rw [show j / 2 * 2 + 1 = j by omega] at u2 u4
      exact ⟨by rw [u2]; rfl, u4⟩
  have HO3 := Lib.hid (OwnC.cells l 0 _ _ HOw.out (by have := HN.out; omega))
  rw [← hW3] at HO3
  have hB3 : Below w.heap.size w W3 := by
    rw [hW3]
    exact ((Below.refl _ _).alloc (Nat.le_refl _) _).trans (below_setCells w.heap.size w.heap.size (Nat.le_refl _) _ _ _)
  clear hW3
  have HSt : Hid (Calls Tryd.prog 89 #[.slice (some ⟨w.heap.size, 0, none⟩) n N, .func (.func 72) #[] #[]] W3 fun e W4 =>
      e = .returned (.tuple #[]) ∧ ∃ S, S.Perm l ∧ Wk S ∧ (∃ c4, OwnC W4 w.heap.size w.heap.size N c4 ∧ ∀ j, j < n → c4 j = cyc S j) ∧ Below w.heap.size W3 W4) := by
    have q := sortC_any w.heap.size w.heap.size N N _ l W3 HO3.out (by have := HN.out; omega) (fun j hj => by rw [if_pos (by omega), Nat.sub_zero])
    rw [← HN.out.1] at q
    refine q.mono ?_
    rintro e W4 ⟨rfl, S, hP, hW, hO, hB⟩
    exact ⟨rfl, S, hP, hW, ⟨_, hO, fun j hj => by rw [if_pos hj]⟩, hB⟩
  clear HO3 HOw HRd
  go_enter Tryd.func71, Tryd.ntmps71
  go_wp2_with fail
  refine Calls.mono HSt.out ?_
  rintro e W4 ⟨rfl, S, hP, hW, ⟨c4, hO4, hC4⟩, hB4⟩
  have hSn : S.length = n := by rw [HN.out.1]; exact hP.length_eq
  have HB4 := Lib.hid (hB3.trans hB4)
  have HP : Hid (S.Perm l ∧ Wk S) := ⟨hP, hW⟩
  have HSn : Hid (S.length = n) := hSn
  have HO4 := Lib.hid hO4
  have HC4 := Lib.hid hC4
  have hg4 := hO4.lt
  clear HSt hcp hmk hB3 hB4 hP hW hO4 hC4 hSn hvc
  have HR4 : Hid (ReadsVecs W4.drew (.slice (some ⟨w.heap.size, 0, none⟩) n N) S) := by
    have q := RowC.reads (o := S) (cap := N) HO4.out.drew.row hg4 (by rw [HSn.out]; exact j6) (by have := HN.out; omega) (Nat.le_refl _) (fun j hj => HC4.out j (by rw [← HSn.out]; exact hj))
    rwa [HSn.out] at q
  have HCp : Hid (∀ j, j < S.length * 2 → (W4.drew.cell? ⟨w.heap.size, n * 2 + j, none⟩).isSome = true ∧ W4.drew.frozen? ⟨w.heap.size, n * 2 + j, none⟩ = false) := fun j hj => by
    have := HSn.out
    obtain ⟨⟨u1, u2⟩, u3, u4⟩ := HO4.out.drew.row (n + j / 2) (by have := HN.out; omega)
    rcases Nat.mod_two_eq_zero_or_one j with q | q
    · rw [show (n + j / 2) * 2 = n * 2 + j by omega] at u1 u3
      exact ⟨by rw [u1]; rfl, u3⟩
    · rw [show (n + j / 2) * 2 + 1 = n * 2 + j by omega] at u2 u4
      exact ⟨by rw [u2]; rfl, u4⟩
  have HO5 : Hid (∃ c5, OwnC (W4.drew.setCells w.heap.size (n * 2) (intsV (flat S))) w.heap.size w.heap.size N c5 ∧ (∀ j, j < n → c5 j = cyc S j) ∧ ∀ j, j < n → c5 (n + j) = cyc S j) := by
    have q := OwnC.cells S n _ _ HO4.out.drew (by have := HN.out; have := HSn.out; omega)
    have hs := HSn.out
    refine ⟨_, q, fun j hj => ?_, fun j hj => ?_⟩
    · rw [if_neg (by omega)]
      exact HC4.out j hj
    · rw [if_pos (by omega), Nat.add_sub_cancel_left]
  have HB5 : Hid (Below w.heap.size w (W4.drew.setCells w.heap.size (n * 2) (intsV (flat S)))) := HB4.out.drew.trans (below_setCells w.heap.size w.heap.size (Nat.le_refl _) _ _ _)
  clear HO4 HC4 HB4
  go_wp2_with fail
  refine wp_region_any (by kernel_rfl) ?_
  try (change wpAny _ _ _ _ _ _ _ (World.drew _))
  refine wpAny_take (i := 0) (v := ?_) rfl (by kernel_rfl) (by kernel_rfl) (by kernel_rfl) (fun _ _ _ h => h) (Or.inl ⟨by rfl, ?_⟩) ?_
  rotate_left
  focus (intro w0; go_simp; try with_reducible rfl)
  refine wpAny_take (i := 1) (v := ?_) rfl (by kernel_rfl) (by kernel_rfl) (by kernel_rfl) (fun _ _ _ h => h) (Or.inl ⟨by rfl, ?_⟩) ?_
  rotate_left
  focus (intro w0; go_simp; try with_reducible rfl)
  refine wpAny_take (i := 2) (v := ?_) rfl (by kernel_rfl) (by kernel_rfl) (by kernel_rfl) (fun _ _ _ h => h) (Or.inl ⟨by rfl, ?_⟩) ?_
  rotate_left
  focus (intro w0; go_simp; try with_reducible rfl)
  refine wpAny_take (i := 3) (v := ?_) rfl (by kernel_rfl) (by kernel_rfl) (by kernel_rfl) (fun _ _ _ h => h) (Or.inl ⟨by rfl, ?_⟩) ?_
  rotate_left
  focus (intro w0; go_simp; try with_reducible rfl)
  refine wpAny_take (i := 4) (v := ?_) rfl (by kernel_rfl) (by kernel_rfl) (by kernel_rfl) (fun _ _ _ h => h) (Or.inl ⟨by rfl, ?_⟩) ?_
  rotate_left
  focus (intro w0; go_simp; try with_reducible rfl)
  refine wpAny_take (i := 5) (v := ?_) rfl (by kernel_rfl) (by kernel_rfl) (by kernel_rfl) (fun _ _ _ h => h) (Or.inl ⟨by rfl, ?_⟩) ?_
  rotate_left
  focus (intro w0; go_simp; try with_reducible rfl)
  refine wpAny_ready (rs := [6]) (by kernel_rfl) (by simp) (AllReady.cons rfl (fun K hK => ?_) (AllReady.nil))
  (refine step_copyV rfl _ _ rfl w.heap.size (n * 2) n n rfl _ rfl S HR4.out (by rw [HSn.out]; exact Nat.le_refl _) HCp.out ?_)
  refine hK _ _ ?_
  clear hK K
  refine wpAny_seq 7 rfl (by kernel_rfl) ?_
  simp only [List.drop_succ_cons, List.drop_zero]
  clear HR4 HCp hg4
  generalize W4.drew.setCells w.heap.size (n * 2) (intsV (flat S)) = W5 at *
  have HRv : Hid (Calls Tryd.prog 90 #[.slice (some ⟨w.heap.size, n * 2, none⟩) n n] W5 fun e W6 =>
      e = .returned (.tuple #[]) ∧ (∃ c6, OwnC W6 w.heap.size w.heap.size N c6 ∧ (∀ j, j < n → c6 j = cyc S j) ∧ ∀ j, j < n → c6 (n + j) = cyc S.reverse j) ∧ Below w.heap.size W5 W6) := by
    obtain ⟨c5, h5, k1, k2⟩ := HO5.out
    have hs := HSn.out
    have q := revC_any w.heap.size w.heap.size N n (n * 2) n c5 S W5 rfl h5 (by have := HN.out; omega) (fun j hj => k2 j (by omega))
    rw [hs] at q
    refine q.mono ?_
    rintro e W6 ⟨rfl, h6, hB⟩
    refine ⟨rfl, ⟨_, h6, fun j hj => ?_, fun j hj => ?_⟩, hB⟩
    · rw [if_neg (by omega)]
      exact k1 j hj
    · rw [if_pos (by omega), Nat.add_sub_cancel_left]
  clear HO5
  go_wp2_with fail
  refine Calls.mono HRv.out ?_
  rintro e W6 ⟨rfl, h6, hB6⟩
  have HB6 := Lib.hid ((HB5.out.trans hB6).drew)
  have HH1 : Hid (Calls Tryd.prog 91 #[.slice (some ⟨w.heap.size, 0, none⟩) n n, .func (.func 66) #[] #[]] W6.drew fun e W7 =>
      e = .returned (.slice (some ⟨w.heap.size, 0, none⟩) ((halfH S).tail.reverse).length n) ∧ (∃ c7, OwnC W7 w.heap.size w.heap.size N c7 ∧ (∀ j, j < ((halfH S).tail.reverse).length → c7 j = cyc (halfH S).tail.reverse j) ∧ ∀ j, j < n → c7 (n + j) = cyc S.reverse j) ∧ Below w.heap.size W6.drew W7) := by
    obtain ⟨c6, h6, k1, k2⟩ := h6
    have hs := HSn.out
    have q := half_any w.heap.size w.heap.size N 0 0 n c6 S W6.drew rfl h6.drew (by have := HN.out; omega) (by omega) (fun j hj => by rw [Nat.zero_add]; exact k1 j (by omega)) (fun v hv => HBig.out v (HP.out.1.mem_iff.1 hv))
    rw [hs] at q
    refine q.mono ?_
    rintro e W7 ⟨rfl, ⟨c7, h7, k3, k4⟩, hB⟩
    refine ⟨rfl, ⟨c7, h7, fun j hj => ?_, fun j hj => ?_⟩, hB⟩
    · have := k3 j hj
      rwa [Nat.zero_add] at this
    · rw [k4 _ (by omega)]
      exact k2 j hj
  have HH2 : Hid (∀ W7 c7, OwnC W7 w.heap.size w.heap.size N c7 → (∀ j, j < ((halfH S).tail.reverse).length → c7 j = cyc (halfH S).tail.reverse j) → (∀ j, j < n → c7 (n + j) = cyc S.reverse j) → Calls Tryd.prog 91 #[.slice (some ⟨w.heap.size, n * 2, none⟩) n n, .func (.func 66) #[] #[]] W7 fun e W8 =>
      e = .returned (.slice (some ⟨w.heap.size, n * 2, none⟩) ((halfH S.reverse).tail.reverse).length n) ∧ (∃ c8, OwnC W8 w.heap.size w.heap.size N c8 ∧ (∀ j, j < ((halfH S).tail.reverse).length → c8 j = cyc (halfH S).tail.reverse j) ∧ ∀ j, j < ((halfH S.reverse).tail.reverse).length → c8 (n + j) = cyc (halfH S.reverse).tail.reverse j) ∧ Below w.heap.size W7 W8) := by
    intro W7 c7 h7 k3 k4
    have hs := HSn.out
    have hs2 : S.reverse.length = n := by simp [hs]
    have hl := half_len S
    have q := half_any w.heap.size w.heap.size N n (n * 2) n c7 S.reverse W7 rfl h7 (by have := HN.out; omega) (by omega) (fun j hj => k4 j (by omega)) (fun v hv => HBig.out v (HP.out.1.mem_iff.1 (List.mem_reverse.1 hv)))
    rw [hs2] at q
    refine q.mono ?_
    rintro e W8 ⟨rfl, ⟨c8, h8, k5, k6⟩, hB⟩
    refine ⟨rfl, ⟨c8, h8, fun j hj => ?_, k5⟩, hB⟩
    rw [k6 _ (by omega)]
    exact k3 j hj
  have HL1 : Hid (((halfH S).tail.reverse).length ≤ n) := by show _ ≤ _; rw [← HSn.out]; exact half_len S
  have HL2 : Hid (((halfH S.reverse).tail.reverse).length ≤ n) := by
    have e0 : S.reverse.length = S.length := by simp
    have q := half_len S.reverse
    rw [e0] at q
    show _ ≤ _
    rw [← HSn.out]
    exact q
  have HU : Hid (hullZ S = (halfH S).tail.reverse ++ (halfH S.reverse).tail.reverse) := rfl
  generalize (halfH S).tail.reverse = R1 at *
  generalize (halfH S.reverse).tail.reverse = R2 at *
  clear HRv HB5 h6 hB6
  go_wp2_with fail
  refine wp_region_any (by kernel_rfl) ?_
  try (change wpAny _ _ _ _ _ _ _ (World.drew _))
  refine wpAny_take (i := 0) (v := ?_) rfl (by kernel_rfl) (by kernel_rfl) (by kernel_rfl) (fun _ _ _ h => h) (Or.inl ⟨by rfl, ?_⟩) ?_
  rotate_left
  focus (intro w0; go_simp; try with_reducible rfl)
  refine wpAny_take (i := 1) (v := ?_) rfl (by kernel_rfl) (by kernel_rfl) (by kernel_rfl) (fun _ _ _ h => h) (Or.inl ⟨by rfl, ?_⟩) ?_
  rotate_left
  focus (intro w0; go_simp; try with_reducible rfl)
  refine wpAny_take (i := 2) (v := ?_) rfl (by kernel_rfl) (by kernel_rfl) (by kernel_rfl) (fun _ _ _ h => h) (Or.inl ⟨by rfl, ?_⟩) ?_
  rotate_left
  focus (intro w0; go_simp; try with_reducible rfl)
  refine wpAny_take (i := 3) (v := ?_) rfl (by kernel_rfl) (by kernel_rfl) (by kernel_rfl) (fun _ _ _ h => h) (Or.inl ⟨by rfl, ?_⟩) ?_
  rotate_left
  focus (intro w0; go_simp; try with_reducible rfl)
  refine wpAny_take (i := 4) (v := ?_) rfl (by kernel_rfl) (by kernel_rfl) (by kernel_rfl) (fun _ _ _ h => h) (Or.inl ⟨by rfl, ?_⟩) ?_
  rotate_left
  focus (intro w0; go_simp; try with_reducible rfl)
  refine wpAny_take (i := 6) (v := ?_) rfl (by kernel_rfl) (by kernel_rfl) (by kernel_rfl) (fun _ _ _ h => h) (Or.inl ⟨by rfl, ?_⟩) ?_
  rotate_left
  focus (intro w0; go_simp; try with_reducible rfl)
  refine wpAny_take (i := 7) (v := ?_) rfl (by kernel_rfl) (by kernel_rfl) (by kernel_rfl) (fun _ _ _ h => h) (Or.inl ⟨by rfl, ?_⟩) ?_
  rotate_left
  focus (intro w0; go_simp; try with_reducible rfl)
  refine wpAny_take (i := 8) (v := ?_) rfl (by kernel_rfl) (by kernel_rfl) (by kernel_rfl) (fun _ _ _ h => h) (Or.inl ⟨by rfl, ?_⟩) ?_
  rotate_left
  focus (intro w0; go_simp; try with_reducible rfl)
  refine wpAny_take (i := 9) (v := ?_) rfl (by kernel_rfl) (by kernel_rfl) (by kernel_rfl) (fun _ _ _ h => h) (Or.inl ⟨by rfl, ?_⟩) ?_
  rotate_left
  focus (intro w0; go_simp; try with_reducible rfl)
  refine wpAny_take (i := 10) (v := ?_) rfl (by kernel_rfl) (by kernel_rfl) (by kernel_rfl) (fun _ _ _ h => h) (Or.inl ⟨by rfl, ?_⟩) ?_
  rotate_left
  focus (intro w0; go_simp; try with_reducible rfl)
  refine wpAny_take (i := 11) (v := ?_) rfl (by kernel_rfl) (by kernel_rfl) (by kernel_rfl) (fun _ _ _ h => h) (Or.inl ⟨by rfl, ?_⟩) ?_
  rotate_left
  focus (intro w0; go_simp; try with_reducible rfl)
  refine wpAny_take (i := 12) (v := ?_) rfl (by kernel_rfl) (by kernel_rfl) (by kernel_rfl) (fun _ _ _ h => h) (Or.inl ⟨by rfl, ?_⟩) ?_
  rotate_left
  focus (intro w0; go_simp; try with_reducible rfl)
  refine wpAny_take (i := 13) (v := ?_) rfl (by kernel_rfl) (by kernel_rfl) (by kernel_rfl) (fun _ _ _ h => h) (Or.inl ⟨by rfl, ?_⟩) ?_
  rotate_left
  focus (intro w0; go_simp; try with_reducible rfl)
  refine wpAny_ready (rs := [5]) (by kernel_rfl) (by simp) (AllReady.cons rfl (fun K hK => ?_) (AllReady.nil))
  go_simp
  (refine Calls.mono HH1.out ?_; rintro e W7 ⟨rfl, ⟨c7, h7, k3, k4⟩, hB7⟩; have HH3 := Lib.hid (HH2.out W7 c7 h7 k3 k4); have HB7 := Lib.hid (HB6.out.trans hB7); clear h7 k3 k4 hB7 HH1 HH2)
  refine hK _ _ ?_
  clear hK K
  refine wpAny_ready (rs := [14]) (by kernel_rfl) (by simp) (AllReady.cons rfl (fun K hK => ?_) (AllReady.nil))
  go_simp
  (refine Calls.mono HH3.out ?_; rintro e W8 ⟨rfl, ⟨c8, h8, k5, k6⟩, hB8⟩; have HO8 := Lib.hid h8; have HK5 := Lib.hid k5; have HK6 := Lib.hid k6; have HB8 := Lib.hid (HB7.out.trans hB8); clear h8 k5 k6 hB8 HH3)
  refine hK _ _ ?_
  clear hK K
  refine wpAny_ready (rs := [15]) (by kernel_rfl) (by simp) (AllReady.cons rfl (fun K hK => ?_) (AllReady.nil))
  (refine step_joinV rfl _ _ rfl w.heap.size w.heap.size N n n _ _ c8 R1 R2 rfl rfl rfl rfl HO8.out (by have := HN.out; omega) HL1.out HL2.out HK5.out HK6.out ?_; intro v9 W9 hV9 hB9; have HV9 := Lib.hid hV9; have HB9 := Lib.hid (HB8.out.trans hB9); clear hV9 hB9)
  refine hK _ _ ?_
  clear hK K
  refine wpAny_seq 16 rfl (by kernel_rfl) ?_
  simp only [List.drop_succ_cons, List.drop_zero]
  go_wp2
  go_returns
  exact ⟨S, v9, HP.out.1, HP.out.2, rfl, by rw [HU.out]; exact HV9.out, HB9.out⟩
end Go.Proofs.YthkcopmodfmoeaaDoor
