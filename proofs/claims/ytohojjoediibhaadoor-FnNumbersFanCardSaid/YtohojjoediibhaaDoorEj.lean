/- NumbersFan: the model. -/
import Derived.Test.YtohojjoediibhaaDoorEd
import Derived.Test.YtohojjoediibhaaDoorEi
import Derived.Test.YtohojjoediibhaaDoorBa
import Derived.Test.YtohojjoediibhaaDoorBe
import Derived.Test.YtohojjoediibhaaDoorSe
import Derived.Test.YtohojjoediibhaaDoorQx
namespace Go.Proofs.YtohojjoediibhaaDoor
open Go.RowKit

theorem in_len3 (n : Nat) : (decide ((3 : Int) ≤ (n : Int)) && decide ((n : Int) ≤ 20)) = (decide (3 ≤ n) && decide (n ≤ 20)) := by
  congr 1 <;> exact decide_eq_decide.2 (by omega)
theorem nf_bad_num {d : List Int} {q : Nat} (hq : q < d.length) (h : (decide (-100 ≤ gz d q) && decide (gz d q ≤ 100)) = false) : nfB d = false := by
  have : areN d 0 = false := by
    unfold areN
    rw [all_bad (p := numP 0) hq (by simpa [numP] using h)]
    simp
  simp [nfB, this]
theorem nf_bad_ray {d : List Int} {k : Nat} (hk : k < d.length) (h : okN d k = false) : nfB d = false := by
  simp [nfB, in_bad hk h]
theorem nf_good {d : List Int} (h3 : 3 ≤ d.length) (h20 : d.length ≤ 20) (hn : ∀ q, q < d.length → (decide (-100 ≤ gz d q) && decide (gz d q ≤ 100)) = true) (hr : ∀ k, k < d.length → okN d k = true) :
    nfB d = (decide (rayN d d.length = (1, 0)) && (decide (rayN d (d.length + 1) = (0, 1)) && fanB (raysN d d.length))) := by
  have e1 : areN d 0 = true := by
    unfold areN
    rw [all_good (p := numP 0) (fun k hk => by simpa [numP] using hn k hk)]
    simp
    omega
  unfold nfB closeN
  rw [e1, in_good hr, Bool.true_and, Bool.true_and, Bool.and_assoc]
/-- the numbers asked in the order 1, 2, .., 0 are all of them -/
theorem asked_all {n : Nat} {p : Nat → Prop} (h : ∀ i, 1 ≤ i → i < n + 1 → p (i % n)) : ∀ q, q < n → p q := by
  intro q hq
  by_cases h0 : q = 0
  · subst h0
    have := h n (by omega) (by omega)
    rwa [Nat.mod_self] at this
  · have := h q (by omega) (by omega)
    rwa [Nat.mod_eq_of_lt hq] at this
theorem next_flip (x2 a x1 : Int) : 0 - a * x2 - x1 = x2 * -a - x1 := by
  rw [Int.mul_neg, Int.mul_comm x2 a]
  omega
set_option maxRecDepth 100000 in
set_option maxHeartbeats 16000000 in
theorem specNumbersFan_any (v : Value) (d : List Int) (w : World) (h : ReadsInts w v d) :
    Calls Tryd.prog 56 #[v] w (GivesVecsOk w (gV (nfB d) (raysN d d.length)) (nfB d)) := by
  have HI := Lib.hid (fun w' => l6In_any (d.length : Int) 3 20 w')
  rw [in_len3] at HI
  have hE := Lib.hid (fun w' => Vecs.empty w')
  obtain ⟨i0, hi, hz0, hz1, hz2⟩ := info_parts infoVec
  cases hl : (decide (3 ≤ d.length) && decide (d.length ≤ 20))
  · have e0 : nfB d = false := by
      have : areN d 0 = false := by
        rcases Bool.and_eq_false_iff.1 hl with q | q
        · unfold areN; rw [q]; rfl
        · unfold areN
          have : decide ((d.length : Int) ≤ 20 - 0) = false := by
            have q' : ¬ d.length ≤ 20 := by simpa using q
            exact decide_eq_false (by omega)
          rw [this]
          simp
      simp [nfB, this]
    rw [e0]
    rw [hl] at HI
    obtain ⟨a, c, rfl, _⟩ := h.len
    clear h hl e0
    go_enter Tryd.func56, Tryd.ntmps56
    go_wp2_with fail
    refine Calls.mono (HI.out _) ?_
    rintro e w1 ⟨rfl, rfl⟩
    have HE := Lib.hid (hE.out w)
    go_wp2
    go_returns
    exact ⟨_, rfl, HE.out, by go_grown⟩
  · obtain ⟨h3, h20⟩ : 3 ≤ d.length ∧ d.length ≤ 20 := by simpa using hl
    rw [hl] at HI
    obtain ⟨bb, off, c, rfl, _, hbb, hcs⟩ := h.open (by omega)
    have HCs := Lib.hid hcs
    have HBn := Lib.hid (fun q hq h => nf_bad_num (d := d) (q := q) hq h)
    have HBr := Lib.hid (fun k hk h => nf_bad_ray (d := d) (k := k) hk h)
    have HGd := Lib.hid (fun hn hr => nf_good (d := d) h3 h20 hn hr)
    have HRay := Lib.hid (fun k h => ok_ray (d := d) (k := k) h)
    have HSn := Lib.hid (fun k => raysN_succ d k)
    have HNx := Lib.hid (fun i => ray_next d i)
    have HRl := Lib.hid (fun k => raysN_len d k)
    have HRc := Lib.hid (fun k i (hi : i < k) => raysN_cyc (d := d) hi)
    have HB := Lib.hid (fun a w' => l6In_any a (-100) 100 w')
    have HVi := Lib.hid (fun x y w' => specVecIn_any x y w')
    have HFi := Lib.hid (fun v' w' hl => specFanIn_any v' (raysN d d.length) w' hl)
    obtain ⟨n, hn⟩ : ∃ n, n = d.length := ⟨_, rfl⟩
    have HN := Lib.hid hn
    rw [← hn] at h3 h20 HCs HI HFi ⊢
    clear h hl hcs hn
    go_enter Tryd.func56, Tryd.ntmps56
    go_wp2_with fail
    refine Calls.mono (HI.out _) ?_
    rintro e w1 ⟨rfl, rfl⟩
    have HV0 : Hid (Vecs (w.alloc (.cells #[.int .i64 1, .int .i64 0, .int .i64 0, .int .i64 1] 43)) w.heap.size (.slice (some ⟨w.heap.size, 0, none⟩) 2 2) (raysN d (1 + 1))) :=
      ⟨rfl, .inr ⟨w.heap.size, 2, #[.int .i64 1, .int .i64 0, .int .i64 0, .int .i64 1], rfl, Nat.le_refl _, heap_alloc_new w _, Nat.le_refl _, by decide, rfl, rfl⟩⟩
    go_wp2
    go_loopw [4, 6] (fun s4 s6 wr => ∃ i : Nat, s6 = .int .i64 i ∧ 1 ≤ i ∧ i ≤ n + 1 ∧ Hid (Vecs wr w.heap.size s4 (raysN d (i + 1))) ∧ Hid (∀ k, k + 1 < i → okN d k = true) ∧ Hid (∀ j, 1 ≤ j → j < i → (decide (-100 ≤ gz d (j % n)) && decide (gz d (j % n) ≤ 100)) = true) ∧ Below w.heap.size w wr) (fun _ s6 _ => n + 1 - (intOf s6).toNat)
    case atStart => exact ⟨1, rfl, Nat.le_refl _, by omega, HV0, fun k hk => absurd hk (by omega), fun j h1 h2 => absurd h2 (by omega), by go_grown⟩
    case round =>
      obtain ⟨i, rfl, hi1, hin, HV, HOk, HNm, hB⟩ := hrel
      clear HV0
      by_cases hlt : i ≤ n
      · have j1 : (i : Int) ≤ (n : Int) := by omega
        have j0 : (1 : Int) ≤ (i : Int) := by omega
        have hvu := HRay.out (i - 1) (fun k hk => HOk.out k (by omega)) (i - 1) (by omega)
        have hvv := HRay.out (i - 1) (fun k hk => HOk.out k (by omega)) i (by omega)
        have hq := Nat.mod_lt i (show 0 < n by omega)
        have c1 : wr.cell? ⟨bb, off + i % n, none⟩ = some (.int .i64 (gz d (i % n))) := HCs.out wr hB _ hq
        have t2 : Int.tmod (i : Int) (n : Int) = ((i % n : Nat) : Int) := Int.ofNat_tmod i n
        have hnx := HNx.out (i - 1)
        rw [show i - 1 + 2 = i + 1 by omega, show i - 1 + 1 = i by omega, ← HN.out] at hnx
        have HBk := Lib.hid (fun h => HBn.out (i % n) (by have := HN.out; omega) h)
        have HNm2 : Hid ((decide (-100 ≤ gz d (i % n)) && decide (gz d (i % n) ≤ 100)) = true → ∀ j, 1 ≤ j → j < i + 1 → (decide (-100 ≤ gz d (j % n)) && decide (gz d (j % n) ≤ 100)) = true) := by
          intro h j hj1 hj2
          by_cases e : j = i
          · subst e; exact h
          · exact HNm.out j hj1 (by omega)
        generalize i % n = q at *
        have HBq := Lib.hid (fun w' => HB.out (gz d q) w')
        cases hk : (decide (-100 ≤ gz d q) && decide (gz d q ≤ 100))
        · have e0 := HBk.out hk
          rw [hk] at HBq
          have HF := Lib.hid e0
          generalize gz d q = a at *
          have n0 : ¬ n = 0 := by omega
          have n1 : 0 < n := by omega
          have j3 : ¬ (n : Int) = 0 := by omega
          have j4 : ((n : Int) == 0) = false := by simpa using j3
          have j5 : (0 : Int) ≤ (q : Int) := by omega
          have j6 : (q : Int) < (n : Int) := by omega
          have hs := hB.size
          clear hk e0 hvu hvv hnx
          go_wp2_with fail
          refine Calls.mono (HBq.out _) ?_
          rintro e w2 ⟨rfl, rfl⟩
          have HE := Lib.hid ((hE.out wr).lower hs)
          go_wp2
          go_returns
          exact ⟨.slice (some ⟨wr.heap.size, 0, none⟩) 0 0, by rw [HF.out]; rfl, by rw [HF.out]; exact HE.out, by go_grown⟩
        · obtain ⟨hab1, hab2⟩ : -100 ≤ gz d q ∧ gz d q ≤ 100 := by simpa using hk
          rw [hk] at HBq HNm2
          have HNm3 := Lib.hid (HNm2.out rfl)
          clear hk HNm2 HBk
          have HX1 : Hid (∃ p : V2, p = rayN d (i - 1)) := ⟨_, rfl⟩
          obtain ⟨⟨x1, y1⟩, hX1⟩ := HX1.out
          obtain ⟨⟨x2, y2⟩, hX2⟩ : ∃ p : V2, p = rayN d i := ⟨_, rfl⟩
          obtain ⟨⟨x3, y3⟩, hX3⟩ : ∃ p : V2, p = rayN d (i + 1) := ⟨_, rfl⟩
          have HX := Lib.hid hX1
          have HX2 := Lib.hid hX2
          have HX3 := Lib.hid hX3
          rw [← hX1] at hvu hnx
          rw [← hX2] at hvv hnx
          rw [← hX3] at hnx
          obtain ⟨bg, og, cg, hv, hcap, _, hbg, hcg⟩ := (HV.out.reads (by rw [HRl.out]; omega)).open (by rw [HRl.out]; omega)
          subst hv
          have hml : (raysN d (i + 1)).length = i + 1 := HRl.out _
          obtain ⟨g0, g1⟩ := hcg wr (Below.refl _ _) (i - 1) (by rw [hml]; omega)
          obtain ⟨g2, g3⟩ := hcg wr (Below.refl _ _) i (by rw [hml]; omega)
          rw [HRc.out (i + 1) (i - 1) (by omega), ← hX1] at g0 g1
          rw [HRc.out (i + 1) i (by omega), ← hX2] at g2 g3
          obtain ⟨m, hm⟩ : ∃ m, m = i + 1 := ⟨_, rfl⟩
          rw [show i - 1 = m - 2 by omega] at g0 g1
          rw [show i = m - 1 by omega] at g2 g3
          rw [hml, ← hm] at HV hcap ⊢
          obtain ⟨⟨x1l, x1h⟩, y1l, y1h⟩ := szs hvu
          have sv := szs hvv
          have m1 := mul_le (A := 100) (B := 1000) ⟨by omega, hab2⟩ sv.1
          have m2 := mul_le (A := 100) (B := 1000) ⟨by omega, hab2⟩ sv.2
          dsimp only at g0 g1 g2 g3 x1l x1h y1l y1h m1 m2
          obtain ⟨a, ha⟩ : ∃ a, a = gz d q := ⟨_, rfl⟩
          rw [← ha] at c1 HBq hab1 hab2 m1 m2 hnx
          have hn3 : Hid (x3 = x2 * -a - x1 ∧ y3 = y2 * -a - y1) := ⟨congrArg Prod.fst hnx, congrArg Prod.snd hnx⟩
          obtain ⟨m1l, m1h⟩ := m1
          obtain ⟨m2l, m2h⟩ := m2
          have HM := Lib.hid hm
          have k0 : 2 ≤ m := by omega
          have k1 : (2 : Int) ≤ (m : Int) := by omega
          have k2 : m ≤ 1000 := by omega
          have p2 : IntKind.i64.wrap ((m : Int) - 2) = (m : Int) - 2 := by rw [IntKind.wrap_i64]; omega
          have p3 : (0 : Int) ≤ (m : Int) - 2 := by omega
          have p4 : (m : Int) - 2 < (m : Int) := by omega
          have p5 : ((m : Int) - 2).toNat = m - 2 := by omega
          have r2 : IntKind.i64.wrap ((m : Int) - 1) = (m : Int) - 1 := by rw [IntKind.wrap_i64]; omega
          have r3 : (0 : Int) ≤ (m : Int) - 1 := by omega
          have r4 : (m : Int) - 1 < (m : Int) := by omega
          have r5 : ((m : Int) - 1).toNat = m - 1 := by omega
          have n0 : ¬ n = 0 := by omega
          have n1 : 0 < n := by omega
          have j3 : ¬ (n : Int) = 0 := by omega
          have j4 : ((n : Int) == 0) = false := by simpa using j3
          have j5 : (0 : Int) ≤ (q : Int) := by omega
          have j6 : (q : Int) < (n : Int) := by omega
          have hs := hB.size
          clear hvu hvv hnx hX1 hX2 hX3 HX1 hcg hml hm ha sv
          go_wp2_with fail
          refine Calls.mono (HBq.out _) ?_
          rintro e w2 ⟨rfl, rfl⟩
          go_wp2_with fail
          have z1 : -(a * x2) - x1 = x3 := by rw [hn3.out.1, Int.mul_neg, Int.mul_comm]
          have z2 : -(a * y2) - y1 = y3 := by rw [hn3.out.2, Int.mul_neg, Int.mul_comm]
          rw [z1, z2]
          clear z1 z2 hn3 m1l m1h m2l m2h g0 g1 g2 g3 c1 x1l x1h y1l y1h p2 p3 p4 p5 r2 r3 r4 r5
          refine Calls.mono (HVi.out _ _ _) ?_
          rintro e w3 ⟨rfl, hb3⟩
          have hbr : Below wr.heap.size wr w3 := belowTo (by go_grown) hb3
          have hB3 := belowTo hB hbr
          have e0 : w3.cell? ⟨wr.heap.size + 1 + 1, 0, none⟩ = some (.int .i64 x3) := (hb3.cell (p := ⟨wr.heap.size + 1 + 1, 0, none⟩) (by simp)).trans (by first | (go_cell; done) | (go_simp; done) | (simp; done))
          have e1 : w3.cell? ⟨wr.heap.size + 1 + 1, 1, none⟩ = some (.int .i64 y3) := (hb3.cell (p := ⟨wr.heap.size + 1 + 1, 1, none⟩) (by simp)).trans (by first | (go_cell; done) | (go_simp; done) | (simp; done))
          have HV3 := Lib.hid (HV.out.below hbr)
          have hok : okN d (i - 1) = vecB x3 y3 := by
            unfold okN
            rw [show i - 1 + 2 = i + 1 by omega, ← HX3.out]
          have hs3 := hB3.size
          clear hb3 hbr
          cases hk3 : vecB x3 y3
          · have HF := Lib.hid (HBr.out (i - 1) (by have := HN.out; omega) (hok.trans hk3))
            clear hok hk3
            have HE := Lib.hid ((hE.out w3).lower hs3)
            go_wp2
            go_returns
            exact ⟨.slice (some ⟨w3.heap.size, 0, none⟩) 0 0, by rw [HF.out]; rfl, by rw [HF.out]; exact HE.out, by go_grown⟩
          · have HOk2 : Hid (∀ k, k + 1 < i + 1 → okN d k = true) := fun k hk => by
              by_cases e : k = i - 1
              · subst e; exact hok.trans hk3
              · exact HOk.out k (by omega)
            clear hok hk3
            have hown := HV3.out
            have hml : (raysN d m).length = m := HRl.out m
            unfold Vecs VRow at hown
            rw [hml] at hown
            have HSk : raysN d (i + 1 + 1) = raysN d m ++ [(x3, y3)] := by rw [HSn.out (i + 1), ← HX3.out, HM.out]
            have HSi := Lib.hid HSk
            have HMl := Lib.hid hml
            clear HSk hml HV HV3 hB
            go_wp2_with (at_builtin; refine wpList_append_own_at _ rfl _ _ 23 rfl w.heap.size 43 i0 (.agg #[.int .i64 (0), .int .i64 (0)]) 2 16 Tryd.underlying23 hi hz0 hz1 hz2 rfl (by decide) _ _ _ rfl (hown.alloc _) ⟨w3.heap.size, 0, none⟩ 1 1 [.int .i64 x3, .int .i64 y3] rfl rfl ?c1 ?c2 ?c3 ?c4 ?c5 ?_)
            case c1 =>
              intro j u hj
              match j, hj with
              | 0, hj => simp at hj; subst hj; simp [Addr.add]
              | 1, hj => simp at hj; subst hj; simp [Addr.add]
            case c2 => intro u hu; simp at hu; rcases hu with rfl | rfl <;> rfl
            case c3 => unfold maxLen; omega
            case c4 => omega
            case c5 => simp; omega
            intro v' w4 hown' hgrow _ _
            have hB4 : Below w.heap.size w w4 := (hB3.alloc hs3 _).grown hgrow (by simp; omega) (fun k hk => (hown.lt k hk).1)
            have HV4 := Lib.hid (Vecs.snoc (l := raysN d m) HMl.out.symm hown')
            rw [← HSi.out] at HV4
            clear hown' hgrow hown HMl HSi HX HX2 HX3 e0 e1 hB3 hs3 HM k0 k1 k2 hcap hbg
            go_wp2
            go_roundw
            case rel => exact ⟨i + 1, by go_num, by omega, by omega, HV4, HOk2, HNm3, hB4⟩
            case measure => simp [intOf]; omega
      · obtain rfl : i = n + 1 := by omega
        have j1 : ¬ ((n + 1 : Nat) : Int) ≤ (n : Int) := by omega
        have hgd := HGd.out (by rw [← HN.out]; exact asked_all HNm.out) (fun k hk => HOk.out k (by have := HN.out; omega))
        rw [← HN.out] at hgd
        have HR := Lib.hid hgd
        obtain ⟨⟨x1, y1⟩, hX1⟩ : ∃ p : V2, p = rayN d n := ⟨_, rfl⟩
        obtain ⟨⟨x2, y2⟩, hX2⟩ : ∃ p : V2, p = rayN d (n + 1) := ⟨_, rfl⟩
        obtain ⟨bg, og, cg, hv, hcap, _, hbg, hcg⟩ := (HV.out.reads (by rw [HRl.out]; omega)).open (by rw [HRl.out]; omega)
        subst hv
        have hml : (raysN d (n + 1 + 1)).length = n + 1 + 1 := HRl.out _
        have HCg := Lib.hid hcg
        obtain ⟨g0, g1⟩ := hcg wr (Below.refl _ _) n (by rw [hml]; omega)
        obtain ⟨g2, g3⟩ := hcg wr (Below.refl _ _) 0 (by rw [hml]; omega)
        obtain ⟨g4, g5⟩ := hcg wr (Below.refl _ _) (n + 1) (by rw [hml]; omega)
        obtain ⟨g6, g7⟩ := hcg wr (Below.refl _ _) 1 (by rw [hml]; omega)
        rw [HRc.out _ n (by omega), ← hX1] at g0 g1
        rw [HRc.out _ 0 (by omega)] at g2 g3
        rw [HRc.out _ (n + 1) (by omega), ← hX2] at g4 g5
        rw [HRc.out _ 1 (by omega)] at g6 g7
        have z0 : wr.cell? ⟨bg, og, none⟩ = some (.int .i64 1) := g2
        have z1 : wr.cell? ⟨bg, og + 1, none⟩ = some (.int .i64 0) := g3
        have z2 : wr.cell? ⟨bg, og + 1 * 2, none⟩ = some (.int .i64 0) := g6
        have z3 : wr.cell? ⟨bg, og + 1 * 2 + 1, none⟩ = some (.int .i64 1) := g7
        dsimp only at g0 g1 g4 g5
        have HP : Hid (decide ((x1, y1) = ((1, 0) : V2)) = (decide (x1 = 1) && decide (y1 = 0))) := by
          show _ = _
          rw [Bool.eq_iff_iff]
          simp
        have HQ : Hid (decide ((x2, y2) = ((0, 1) : V2)) = (decide (x2 = 0) && decide (y2 = 1))) := by
          show _ = _
          rw [Bool.eq_iff_iff]
          simp
        rw [← hX1, ← hX2] at HR
        rw [HP.out, HQ.out] at HR
        have N1 := fun w' => run_neV x1 y1 1 0 w'
        have N2 := fun w' => run_neV x2 y2 0 1 w'
        generalize (decide (x1 = 1) && decide (y1 = 0)) = P at N1 HR
        generalize (decide (x2 = 0) && decide (y2 = 1)) = Q at N2 HR
        have hpc : (raysN d (n + 1 + 1)).take n = raysN d n := by
          refine List.ext_getElem (by simp [raysN_len]; omega) (fun j h1 h2 => ?_)
          rw [raysN_len] at h2
          simp [raysN]
        have HPc := Lib.hid hpc
        rw [hml] at hcap ⊢
        have i1 : (0 : Int) ≤ (n : Int) := by omega
        have i2 : (n : Int) < ((n + 1 + 1 : Nat) : Int) := by omega
        have i3 : (n : Int) + 1 < ((n + 1 + 1 : Nat) : Int) := by omega
        have i4 : (0 : Int) < ((n + 1 + 1 : Nat) : Int) := by omega
        have i5 : (1 : Int) < ((n + 1 + 1 : Nat) : Int) := by omega
        have i6 : n ≤ cg := by omega
        have i7 : (n : Int) ≤ (cg : Int) := by omega
        have q1 : IntKind.i64.wrap ((n : Int) + 1) = (n : Int) + 1 := by rw [IntKind.wrap_i64]; omega
        have q2 : ((n : Int) + 1).toNat = n + 1 := by omega
        have hs := hB.size
        have HML := Lib.hid hml
        have HEw := Lib.hid (fun w' (h : w.heap.size ≤ (w' : World).heap.size) => (hE.out w').lower h)
        clear hgd hX1 hX2 hcg hpc hml g2 g3 g6 g7 HOk HNm
        generalize hMM : n + 1 + 1 = M at *
        have HMM := Lib.hid hMM
        have i8 : 0 < M := by omega
        have i9 : 1 < M := by omega
        have i10 : (0 : Int) ≤ (n : Int) + 1 := by omega
        clear hMM
        cases P
        · have HF : Hid (nfB d = false) := by show _ = _; rw [HR.out]; rfl
          clear HR N2
          go_wp2
          go_quiet (fail)
          go_wp2
          go_returns
          exact ⟨_, by rw [HF.out]; rfl, by rw [HF.out]; exact HEw.out _ (by first | (simp; omega) | (simpa using hs)), by first | exact (below_drewN hB _).alloc (by simpa using hs) _ | (go_grown; done)⟩
        · cases Q
          · have HF : Hid (nfB d = false) := by show _ = _; rw [HR.out]; rfl
            clear HR
            go_wp2
            go_quiet (fail)
            go_wp2
            go_returns
            exact ⟨_, by rw [HF.out]; rfl, by rw [HF.out]; exact HEw.out _ (by first | (simp; omega) | (simpa using hs)), by first | exact (below_drewN hB _).alloc (by simpa using hs) _ | (go_grown; done)⟩
          · have hrd : ReadsVecs wr (.slice (some ⟨bg, og, none⟩) n cg) (raysN d n) := by
              refine ⟨_, cg, by rw [HRl.out], by rw [HRl.out]; exact i6, by rw [HRl.out]; omega, fun _ => ⟨bg, og, rfl, hbg, fun j hj => ?_⟩⟩
              rw [HRl.out] at hj
              have := HCg.out wr (Below.refl _ _) j (by rw [HML.out]; omega)
              rw [HRc.out _ j (by have := HMM.out; omega)] at this
              rw [HRc.out n j hj]
              exact this
            have HFn := Lib.hid (fun w' (h : Below wr.heap.size wr w') => HFi.out _ w' (hrd.below h))
            have hK : nfB d = fanB (raysN d n) := by rw [HR.out]; rfl
            obtain ⟨KK, hKK⟩ : ∃ K, K = fanB (raysN d n) := ⟨_, rfl⟩
            rw [← hKK] at HFn hK
            have HK := Lib.hid hK
            clear HR hrd hK hKK
            go_wp2
            refine wp_region_any (by kernel_rfl) ?_
            try (change wpAny _ _ _ _ _ _ _ (World.drew _))
            refine wpAny_of_held (S := fun w' => Below (wr.heap.size) wr w') _ _ _ _ ?_
            have hSw : Below (wr.heap.size) wr (World.drew wr) := by go_grown
            generalize World.drew wr = wd at hSw ⊢
            refine wpAnyH_take (i := 0) (v := ?_) rfl (by kernel_rfl) (by kernel_rfl) (by kernel_rfl) (fun _ _ _ h => h) (Or.inl ⟨by rfl, ?_⟩) hSw ?_
            rotate_left
            focus (intro w0 hS0; clear hS0; go_simp; try with_reducible rfl)
            refine wpAnyH_take (i := 1) (v := ?_) rfl (by kernel_rfl) (by kernel_rfl) (by kernel_rfl) (fun _ _ _ h => h) (Or.inl ⟨by rfl, ?_⟩) hSw ?_
            rotate_left
            focus (intro w0 hS0; clear hS0; go_simp; try with_reducible rfl)
            refine wpAnyH_take (i := 2) (v := ?_) rfl (by kernel_rfl) (by kernel_rfl) (by kernel_rfl) (fun _ _ _ h => h) (Or.inl ⟨by rfl, ?_⟩) hSw ?_
            rotate_left
            focus (intro w0 hS0; clear hS0; go_simp; try with_reducible rfl)
            refine wpAnyH_take (i := 3) (v := ?_) rfl (by kernel_rfl) (by kernel_rfl) (by kernel_rfl) (fun _ _ _ h => h) (Or.inl ⟨by rfl, ?_⟩) hSw ?_
            rotate_left
            focus (intro w0 hS0; have d0 := (hS0.cell (p := ⟨bg, og + n * 2, none⟩) hbg).trans g0; have d1 := (hS0.cell (p := ⟨bg, og + n * 2 + 1, none⟩) hbg).trans g1; have d2 := (hS0.cell (p := ⟨bg, og, none⟩) hbg).trans z0; have d3 := (hS0.cell (p := ⟨bg, og + 1, none⟩) hbg).trans z1; have d4 := (hS0.cell (p := ⟨bg, og + (n + 1) * 2, none⟩) hbg).trans g4; have d5 := (hS0.cell (p := ⟨bg, og + (n + 1) * 2 + 1, none⟩) hbg).trans g5; have d6 := (hS0.cell (p := ⟨bg, og + 1 * 2, none⟩) hbg).trans z2; have d7 := (hS0.cell (p := ⟨bg, og + 1 * 2 + 1, none⟩) hbg).trans z3; clear hS0; go_simp; try with_reducible rfl)
            refine wpAnyH_take (i := 4) (v := ?_) rfl (by kernel_rfl) (by kernel_rfl) (by kernel_rfl) (fun _ _ _ h => h) (Or.inl ⟨by rfl, ?_⟩) hSw ?_
            rotate_left
            focus (intro w0 hS0; clear hS0; go_simp; try with_reducible rfl)
            refine wpAnyH_take (i := 5) (v := ?_) rfl (by kernel_rfl) (by kernel_rfl) (by kernel_rfl) (fun _ _ _ h => h) (Or.inl ⟨by rfl, ?_⟩) hSw ?_
            rotate_left
            focus (intro w0 hS0; clear hS0; go_simp; try with_reducible rfl)
            refine wpAnyH_take (i := 6) (v := ?_) rfl (by kernel_rfl) (by kernel_rfl) (by kernel_rfl) (fun _ _ _ h => h) (Or.inl ⟨by rfl, ?_⟩) hSw ?_
            rotate_left
            focus (intro w0 hS0; have d0 := (hS0.cell (p := ⟨bg, og + n * 2, none⟩) hbg).trans g0; have d1 := (hS0.cell (p := ⟨bg, og + n * 2 + 1, none⟩) hbg).trans g1; have d2 := (hS0.cell (p := ⟨bg, og, none⟩) hbg).trans z0; have d3 := (hS0.cell (p := ⟨bg, og + 1, none⟩) hbg).trans z1; have d4 := (hS0.cell (p := ⟨bg, og + (n + 1) * 2, none⟩) hbg).trans g4; have d5 := (hS0.cell (p := ⟨bg, og + (n + 1) * 2 + 1, none⟩) hbg).trans g5; have d6 := (hS0.cell (p := ⟨bg, og + 1 * 2, none⟩) hbg).trans z2; have d7 := (hS0.cell (p := ⟨bg, og + 1 * 2 + 1, none⟩) hbg).trans z3; clear hS0; go_simp; try with_reducible rfl)
            refine wpAnyH_take (i := 7) (v := ?_) rfl (by kernel_rfl) (by kernel_rfl) (by kernel_rfl) (fun _ _ _ h => h) (Or.inl ⟨by rfl, ?_⟩) hSw ?_
            rotate_left
            focus (intro w0 hS0; clear hS0; go_simp; try with_reducible rfl)
            refine wpAnyH_take (i := 8) (v := ?_) rfl (by kernel_rfl) (by kernel_rfl) (by kernel_rfl) (fun _ _ _ h => h) (Or.inl ⟨by rfl, ?_⟩) hSw ?_
            rotate_left
            focus (intro w0 hS0; clear hS0; go_simp; try with_reducible rfl)
            refine wpAnyH_take (i := 9) (v := ?_) rfl (by kernel_rfl) (by kernel_rfl) (by kernel_rfl) (fun _ _ _ h => h) (Or.inl ⟨by kernel_rfl, ?_⟩) hSw ?_
            rotate_left
            focus (intro w0 hS0; clear hS0; go_simp; try with_reducible rfl)
            refine wpAnyH_take (i := 10) (v := ?_) rfl (by kernel_rfl) (by kernel_rfl) (by kernel_rfl) (fun _ _ _ h => h) (Or.inl ⟨by kernel_rfl, ?_⟩) hSw ?_
            rotate_left
            focus (intro w0 hS0; clear hS0; go_simp; try with_reducible rfl)
            refine wpAnyH_take (i := 11) (v := ?_) rfl (by kernel_rfl) (by kernel_rfl) (by kernel_rfl) (fun _ _ _ h => h) (Or.inl ⟨by kernel_rfl, ?_⟩) hSw ?_
            rotate_left
            focus (intro w0 hS0; clear hS0; go_simp; try with_reducible rfl)
            refine wpAnyH_take (i := 12) (v := ?_) rfl (by kernel_rfl) (by kernel_rfl) (by kernel_rfl) (fun _ _ _ h => h) (Or.inl ⟨by kernel_rfl, ?_⟩) hSw ?_
            rotate_left
            focus (intro w0 hS0; clear hS0; go_simp; try with_reducible rfl)
            refine wpAnyH_take (i := 13) (v := ?_) rfl (by kernel_rfl) (by kernel_rfl) (by kernel_rfl) (fun _ _ _ h => h) (Or.inl ⟨by kernel_rfl, ?_⟩) hSw ?_
            rotate_left
            focus (intro w0 hS0; have d0 := (hS0.cell (p := ⟨bg, og + n * 2, none⟩) hbg).trans g0; have d1 := (hS0.cell (p := ⟨bg, og + n * 2 + 1, none⟩) hbg).trans g1; have d2 := (hS0.cell (p := ⟨bg, og, none⟩) hbg).trans z0; have d3 := (hS0.cell (p := ⟨bg, og + 1, none⟩) hbg).trans z1; have d4 := (hS0.cell (p := ⟨bg, og + (n + 1) * 2, none⟩) hbg).trans g4; have d5 := (hS0.cell (p := ⟨bg, og + (n + 1) * 2 + 1, none⟩) hbg).trans g5; have d6 := (hS0.cell (p := ⟨bg, og + 1 * 2, none⟩) hbg).trans z2; have d7 := (hS0.cell (p := ⟨bg, og + 1 * 2 + 1, none⟩) hbg).trans z3; clear hS0; go_simp; try with_reducible rfl)
            refine wpAnyH_take (i := 14) (v := ?_) rfl (by kernel_rfl) (by kernel_rfl) (by kernel_rfl) (fun _ _ _ h => h) (Or.inl ⟨by kernel_rfl, ?_⟩) hSw ?_
            rotate_left
            focus (intro w0 hS0; clear hS0; go_simp; try with_reducible rfl)
            refine wpAnyH_take (i := 15) (v := ?_) rfl (by kernel_rfl) (by kernel_rfl) (by kernel_rfl) (fun _ _ _ h => h) (Or.inl ⟨by kernel_rfl, ?_⟩) hSw ?_
            rotate_left
            focus (intro w0 hS0; clear hS0; go_simp; try with_reducible rfl)
            refine wpAnyH_take (i := 16) (v := ?_) rfl (by kernel_rfl) (by kernel_rfl) (by kernel_rfl) (fun _ _ _ h => h) (Or.inl ⟨by kernel_rfl, ?_⟩) hSw ?_
            rotate_left
            focus (intro w0 hS0; have d0 := (hS0.cell (p := ⟨bg, og + n * 2, none⟩) hbg).trans g0; have d1 := (hS0.cell (p := ⟨bg, og + n * 2 + 1, none⟩) hbg).trans g1; have d2 := (hS0.cell (p := ⟨bg, og, none⟩) hbg).trans z0; have d3 := (hS0.cell (p := ⟨bg, og + 1, none⟩) hbg).trans z1; have d4 := (hS0.cell (p := ⟨bg, og + (n + 1) * 2, none⟩) hbg).trans g4; have d5 := (hS0.cell (p := ⟨bg, og + (n + 1) * 2 + 1, none⟩) hbg).trans g5; have d6 := (hS0.cell (p := ⟨bg, og + 1 * 2, none⟩) hbg).trans z2; have d7 := (hS0.cell (p := ⟨bg, og + 1 * 2 + 1, none⟩) hbg).trans z3; clear hS0; go_simp; try with_reducible rfl)
            refine wpAnyH_take (i := 17) (v := ?_) rfl (by kernel_rfl) (by kernel_rfl) (by kernel_rfl) (fun _ _ _ h => h) (Or.inl ⟨by kernel_rfl, ?_⟩) hSw ?_
            rotate_left
            focus (intro w0 hS0; clear hS0; go_simp; try with_reducible rfl)
            refine wpAnyH_take (i := 18) (v := ?_) rfl (by kernel_rfl) (by kernel_rfl) (by kernel_rfl) (fun _ _ _ h => h) (Or.inl ⟨by rfl, ?_⟩) hSw ?_
            rotate_left
            focus (intro w0 hS0; clear hS0; go_simp; try with_reducible rfl)
            refine wpAnyH_take (i := 19) (v := ?_) rfl (by kernel_rfl) (by kernel_rfl) (by kernel_rfl) (fun _ _ _ h => h) (Or.inl ⟨by rfl, ?_⟩) hSw ?_
            rotate_left
            focus (intro w0 hS0; clear hS0; go_simp; try with_reducible rfl)
            refine wpAnyH_take (i := 20) (v := ?_) rfl (by kernel_rfl) (by kernel_rfl) (by kernel_rfl) (fun _ _ _ h => h) (Or.inl ⟨by kernel_rfl, ?_⟩) hSw ?_
            rotate_left
            focus (intro w0 hS0; clear hS0; go_simp; try with_reducible rfl)
            refine wpAnyH_take (i := 21) (v := ?_) rfl (by kernel_rfl) (by kernel_rfl) (by kernel_rfl) (fun _ _ _ h => h) (Or.inl ⟨by kernel_rfl, ?_⟩) hSw ?_
            rotate_left
            focus (intro w0 hS0; clear hS0; go_simp; try with_reducible rfl)
            refine wpAnyH_take (i := 22) (v := ?_) rfl (by kernel_rfl) (by kernel_rfl) (by kernel_rfl) (fun _ _ _ h => h) (Or.inl ⟨by kernel_rfl, ?_⟩) hSw ?_
            rotate_left
            focus (intro w0 hS0; clear hS0; go_simp; try with_reducible rfl)
            refine wpAnyH_ready (rs := [23]) (by kernel_rfl) (by simp) (AllReadyH.cons rfl (fun K hK => ?_) (AllReadyH.nil))
            go_simp
            (refine Calls.mono (HFn.out _ hSw) ?_; rintro e wb ⟨rfl, hbX⟩; replace hSw := belowTo hSw hbX; refine hK.out _ _ hSw (fun _ => ?_); clear hbX hK K)
            refine wpAnyH_take (i := 24) (v := ?_) rfl (by kernel_rfl) (by kernel_rfl) (by kernel_rfl) (fun _ _ _ h => h) (Or.inl ⟨by kernel_rfl, ?_⟩) hSw ?_
            rotate_left
            focus (intro w0 hS0; clear hS0; go_simp; try with_reducible rfl)
            refine wpAnyH_take (i := 25) (v := ?_) rfl (by kernel_rfl) (by kernel_rfl) (by kernel_rfl) (fun _ _ _ h => h) (Or.inl ⟨by rfl, ?_⟩) hSw ?_
            rotate_left
            focus (intro w0 hS0; clear hS0; go_simp; try with_reducible rfl)
            refine wpAnyH_done (by kernel_rfl) ?_ _
            have hBb := belowTo hB hSw
            have hsb := hBb.size
            cases KK
            · have HF : Hid (nfB d = false) := HK
              clear HK
              go_wp2
              go_returns
              exact ⟨_, by rw [HF.out]; rfl, by rw [HF.out]; exact HEw.out _ hsb, hBb.alloc hsb _⟩
            · have HOw := Lib.hid (HEw.out _ hsb)
              have hBe : Below w.heap.size w (wb.alloc (.cells #[] 43)) := hBb.alloc hsb _
              have HPl : Hid (0 + n ≤ (raysN d M).length) := by show 0 + n ≤ _; rw [HRl.out]; have := HMM.out; omega
              have HCe := Lib.hid (fun j hj => HCg.out (wb.alloc (.cells #[] 43)) (belowTo hSw (by go_grown)) j hj)
              clear HCg
              go_wp2_with (at_builtin; refine wpList_append_own_at _ rfl _ _ 23 rfl w.heap.size 43 i0 (.agg #[.int .i64 (0), .int .i64 (0)]) 2 16 Tryd.underlying23 hi hz0 hz1 hz2 rfl (by decide) _ _ _ rfl HOw.out _ _ _ _ rfl (piece_len HPl.out) (piece_cells (off := og) HCe.out HPl.out) (piece_one _) (by unfold maxLen; simp; omega) (by simp; omega) hBe.size ?_)
              intro v2 w2 hown2 hgrow2 _ _
              have hB2 := hBe.grown hgrow2 hBe.size (fun q hq => (World.ownsRow.lt HOw.out q hq).1)
              have HO2 := Lib.hid (Vecs.join (l := []) hown2 (by rw [List.length_take, HRl.out]; have := HMM.out; simp; omega))
              have HT : Hid (nfB d = true) := HK
              clear hown2 hgrow2 HK
              go_wp2
              go_returns
              refine ⟨v2, by rw [HT.out]; rfl, ?_, hB2⟩
              rw [HT.out]
              have h2 := HO2.out
              rw [HPc.out] at h2
              exact h2
end Go.Proofs.YtohojjoediibhaaDoor
