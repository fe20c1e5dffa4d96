/- impl.half: one half of a hull, in place. -/
import Derived.Test.YthkcopmodfmoeaaDoorYc
import Derived.Deep.RegionLaw
namespace Go.Proofs.YthkcopmodfmoeaaDoor
open Go.RowKit

theorem cyc_app_low {a b : List V2} {j : Nat} (h : j < a.length) : cyc (a ++ b) j = cyc a j := by
  rw [cyc_lt (by simp; omega), cyc_lt h, List.getElem?_append_left h]
theorem cyc_app_top {a : List V2} {x : V2} {j : Nat} (h : j = a.length) : cyc (a ++ [x]) j = x := by
  subst h
  rw [cyc_lt (by simp), List.getElem?_append_right (Nat.le_refl _)]
  simp
/-- what holds ahead of the k-th vector: the stack lies at the beginning of the way -/
structure HalfI (l : List V2) (o k : Nat) (c cc : Nat → V2) (st : List V2) : Prop where
  eq : st = (l.take k).foldl pushH []
  le : st.length ≤ k
  low : ∀ j, j < st.length → cc (o + j) = cyc st.reverse j
  high : ∀ j, k ≤ j → j < l.length → cc (o + j) = cyc l j
  out : ∀ j, ¬ (o ≤ j ∧ j < o + l.length) → cc j = c j
theorem HalfI.zero {l : List V2} {o : Nat} {c : Nat → V2} (e : ∀ j, j < l.length → c (o + j) = cyc l j) : HalfI l o 0 c c [] :=
  ⟨by simp, Nat.le_refl _, fun j h => by simp at h, fun j _ h => e j h, fun _ _ => rfl⟩
theorem HalfI.push {l : List V2} {o k : Nat} {c cc : Nat → V2} {st st' pre : List V2} (h : HalfI l o k c cc st) (hk : k < l.length) (hs : st = pre ++ st') (hp : pushH st (cyc l k) = cyc l k :: st') :
    HalfI l o (k + 1) c (fun j => if j = o + st'.length then cyc l k else cc j) (cyc l k :: st') := by
  have hle : st'.length ≤ st.length := by rw [hs]; simp
  have h0 := h.le
  refine ⟨?_, by simp; omega, fun j hj => ?_, fun j h1 h2 => ?_, fun j hj => ?_⟩
  · rw [take_cyc hk, List.foldl_append, ← h.eq]
    exact hp.symm
  · rw [List.length_cons] at hj
    rw [List.reverse_cons]
    by_cases e : j = st'.length
    · rw [if_pos (by omega), cyc_app_top (by simp [e])]
    · rw [if_neg (by omega), h.low j (by omega), cyc_app_low (by simp; omega), hs, List.reverse_append, cyc_app_low (by simp; omega)]
  · rw [if_neg (by omega)]
    exact h.high j (by omega) h2
  · rw [if_neg (by omega)]
    exact h.out j hj
theorem push_bend (b a : V2) (st : List V2) (c : V2) : pushH (b :: a :: st) c = if bendV a b c = true then c :: b :: a :: st else pushH (a :: st) c := by
  have hb : bendV a b c = decide (0 < dtV (subV b a) (subV c b)) := rfl
  rw [pushH, hb]
  by_cases h : 0 < dtV (subV b a) (subV c b) <;> simp [h]
theorem push_mem' : ∀ (st : List V2) (c v : V2), v ∈ pushH st c → v = c ∨ v ∈ st
  | [], c, v, h => by simp [pushH] at h; exact .inl h
  | [a], c, v, h => by simp [pushH] at h; rcases h with h | h <;> simp [h]
  | b :: a :: st, c, v, h => by
    rw [push_bend] at h
    split at h
    · simpa using h
    · rcases push_mem' (a :: st) c v h with h | h
      · exact .inl h
      · exact .inr (List.mem_cons_of_mem _ h)
theorem fold_mem : ∀ (l st : List V2) (v : V2), v ∈ l.foldl pushH st → v ∈ st ∨ v ∈ l
  | [], _, _, h => .inl h
  | c :: l, st, v, h => by
    rcases fold_mem l (pushH st c) v h with h | h
    · rcases push_mem' st c v h with rfl | h
      · exact .inr (by simp)
      · exact .inl h
    · exact .inr (List.mem_cons_of_mem _ h)
theorem HalfI.mem {l : List V2} {o k : Nat} {c cc : Nat → V2} {st : List V2} (h : HalfI l o k c cc st) {i : Nat} (hi : i < st.length) : cc (o + i) ∈ l := by
  rw [h.low i hi]
  have h1 : cyc st.reverse i ∈ st := List.mem_reverse.1 (cyc_mem (by simp; omega) i)
  rw [h.eq] at h1
  rcases fold_mem _ _ _ h1 with h2 | h2
  · cases h2
  · rw [← h.eq] at h2
    exact List.mem_of_mem_take h2
theorem suf_two {st pre r : List V2} {a b : V2} (e : st = pre ++ b :: a :: r) : cyc st.reverse r.length = a ∧ cyc st.reverse (r.length + 1) = b := by
  have h : st.reverse = ((r.reverse ++ [a]) ++ [b]) ++ pre.reverse := by rw [e]; simp
  constructor
  · rw [h, cyc_app_low (by simp <;> omega), cyc_app_low (by simp), cyc_app_top (by simp)]
  · rw [h, cyc_app_low (by simp), cyc_app_top (by simp)]
theorem push_one {st : List V2} (h : ¬ 1 < st.length) (c : V2) : pushH st c = c :: st := by
  match st, h with
  | [], _ => rfl
  | [a], _ => rfl
  | a :: b :: r, h => simp at h
theorem halfI_done {l : List V2} {o : Nat} {c cc : Nat → V2} {st : List V2} (h : HalfI l o l.length c cc st) : st = halfH l ∧ ∀ j, j < ((halfH l).tail.reverse).length → cc (o + j) = cyc (halfH l).tail.reverse j := by
  have e : st = halfH l := by rw [h.eq, List.take_of_length_le (Nat.le_refl _)]; rfl
  refine ⟨e, fun j hj => ?_⟩
  rw [← e] at hj ⊢
  rw [h.low j (by simp at hj; omega)]
  cases st with
  | nil => simp at hj
  | cons q r =>
    rw [List.reverse_cons, cyc_app_low (by simpa using hj)]
    rfl
theorem step_app {P : Program} {ops : Array Oper} {o : Oper} {a : Act} {w : World} {K : Act → World → Prop} {Q : Exit → Act → World → Prop} {E : Prop}
    (hg : o.guard = none) (s x : Operand) (t : TypeId) (hop : o.op = Op.call { callee := Callee.builtin Builtin.append, args := #[s, x], argTypes := #[t, t] })
    (e : TypeId) (i : TypeInfo) (h1 : P.underlying t = some (.slice e)) (h2 : P.info? e = some i) (h4 : i.size = 2)
    (b off n cap : Nat) (hs : a.eval s = .slice (some ⟨b, off, none⟩) n cap)
    (ad : Addr) (c : Nat) (u v : Int) (hx : a.eval x = .slice (some ad) 1 c) (hc0 : w.cell? ad = some (.int .i64 u)) (hc1 : w.cell? (ad.add 1) = some (.int .i64 v))
    (hroom : n + 1 ≤ cap) (hspare : ∀ j, j < 2 → (w.cell? ⟨b, off + n * 2 + j, none⟩).isSome = true ∧ w.frozen? ⟨b, off + n * 2 + j, none⟩ = false)
    (hK : K (a.put o.dst (.slice (some ⟨b, off, none⟩) (n + 1) cap)) ((w.setCell ⟨b, off + n * 2, none⟩ (.int .i64 u)).setCell ⟨b, off + n * 2 + 1, none⟩ (.int .i64 v))) :
    if Region.wanted o (yielded ops a.tmps) = true then Oper.wp P o a w K Q else E := by
  refine step_append_room hg s x t hop e i 2 h1 h2 h4 b off n cap hs ad 1 c [.int .i64 u, .int .i64 v] hx rfl ?_ (by simp [Value.oneCell']) hroom hspare hK
  intro j y hy
  match j, hy with
  | 0, hy => obtain rfl := Option.some.inj hy; exact hc0
  | 1, hy => obtain rfl := Option.some.inj hy; exact hc1
  | j + 2, hy => simp at hy
def HalfE (b g M o off cap : Nat) (c : Nat → V2) (l : List V2) (w : World) (e : Ending) (w' : World) : Prop :=
  e = .returned (.slice (some ⟨g, off, none⟩) ((halfH l).tail.reverse).length cap) ∧ (∃ c', OwnC w' b g M c' ∧ (∀ j, j < ((halfH l).tail.reverse).length → c' (o + j) = cyc (halfH l).tail.reverse j) ∧ ∀ j, ¬ (o ≤ j ∧ j < o + l.length) → c' j = c j) ∧ Below b w w'
set_option maxRecDepth 100000 in
set_option maxHeartbeats 8000000 in
theorem half_any (b g M o off cap : Nat) (c : Nat → V2) (l : List V2) (w : World) (ho : off = o * 2) (h : OwnC w b g M c) (hl : o + l.length ≤ M) (hcap : l.length ≤ cap) (e : ∀ j, j < l.length → c (o + j) = cyc l j) (hbig : ∀ v ∈ l, big 400000 v.1 v.2) :
    Calls Tryd.prog 91 #[.slice (some ⟨g, off, none⟩) l.length cap, .func (.func 66) #[] #[]] w (HalfE b g M o off cap c l w) := by
  have HY : Hid (∀ w' e, e = .returned (.slice (some ⟨g, off, none⟩) ((halfH l).tail.reverse).length cap) → (∃ c', OwnC w' b g M c' ∧ (∀ j, j < ((halfH l).tail.reverse).length → c' (o + j) = cyc (halfH l).tail.reverse j) ∧ ∀ j, ¬ (o ≤ j ∧ j < o + l.length) → c' j = c j) → Below b w w' → HalfE b g M o off cap c l w e w') := fun w' e h1 h2 h3 => ⟨h1, h2, h3⟩
  obtain ⟨R, hR⟩ : ∃ R, R = ((halfH l).tail.reverse).length := ⟨_, rfl⟩
  have HRr : Hid (R = ((halfH l).tail.reverse).length) := hR
  rw [← hR] at HY
  clear hR
  obtain ⟨i0, hi, hz0, hz1, hz2⟩ := info_parts infoVec
  have HOf : Hid (off = o * 2) := ho
  have HZ := Lib.hid (HalfI.zero e)
  have HO := Lib.hid h
  have HD := Lib.hid (fun st cc (q : HalfI l o l.length c cc st) => halfI_done q)
  have HBL : Hid (∀ v ∈ l, big 400000 v.1 v.2) := hbig
  have HBg := Lib.hid (fun k (hk : k < l.length) => hbig _ (cyc_mem (by omega) k))
  obtain ⟨m, hm⟩ : ∃ m, m = l.length := ⟨_, rfl⟩
  have HM : Hid (m = l.length ∧ o + m ≤ M ∧ m ≤ cap ∧ M ≤ 1048576) := ⟨hm, by omega, by omega, h.2.1⟩
  rw [← hm]
  have hgw := h.lt
  have hbg := h.1
  have hm20 : m ≤ 1048576 := by have := HM.out; omega
  clear ho h hl hcap e hbig hm
  go_enter Tryd.func91, Tryd.ntmps91
  go_wp2
  go_loopw [5, 13] (fun s5 s13 wr => ∃ (k : Nat) (st : List V2) (cc : Nat → V2), s5 = .slice (some ⟨g, off, none⟩) st.length cap ∧ s13 = .int .i64 k ∧ k ≤ m ∧ Hid (HalfI l o k c cc st) ∧ Hid (OwnC wr b g M cc) ∧ Below b w wr) (fun _ s13 _ => m - (intOf s13).toNat)
  case atStart => exact ⟨0, [], c, rfl, rfl, Nat.zero_le _, HZ, HO, Below.refl _ _⟩
  case round =>
    clear HZ HO
    obtain ⟨k, st, cc, rfl, rfl, hk, HI, HOw, hB⟩ := hrel
    have j1 : (0 : Int) ≤ (k : Int) := by omega
    by_cases hlt : k < m
    · have j2 : (k : Int) < (m : Int) := by omega
      have hkl : k < l.length := by have := HM.out; omega
      have hgr := HOw.out.lt
      obtain ⟨⟨c1, c2⟩, _⟩ := HOw.out.row (o + k) (by have := HM.out; omega)
      rw [HI.out.high k (Nat.le_refl _) hkl] at c1 c2
      have HQB := HBg.out k hkl
      have HIq : Hid (∀ st' pre, st = pre ++ st' → pushH st (cyc l k) = cyc l k :: st' → HalfI l o (k + 1) c (fun j => if j = o + st'.length then cyc l k else cc j) (cyc l k :: st')) := fun st' pre q1 q2 => HI.out.push hkl q1 q2
      have hbigL := HBL.out
      have HSb : Hid (∀ i, i < st.length → cc (o + i) = cyc st.reverse i ∧ big 400000 (cc (o + i)).1 (cc (o + i)).2) := fun i hi => ⟨HI.out.low i hi, hbigL _ (HI.out.mem hi)⟩
      have hoo := HOf.out
      have e0 : (o + k) * 2 = off + k * 2 := by omega
      rw [e0] at c1 c2
      clear hoo e0
      generalize cyc l k = z at *
      obtain ⟨x, y⟩ := z
      dsimp only at c1 c2
      have HSl : Hid (st.length ≤ k) := HI.out.le
      obtain ⟨W1, hW1⟩ : ∃ W1, W1 = wr.alloc (.cells #[.int .i64 x, .int .i64 y] 38) := ⟨_, rfl⟩
      have x0 : W1.cell? ⟨wr.heap.size, 0, none⟩ = some (.int .i64 x) := by rw [hW1]; simp
      have x1 : W1.cell? ⟨wr.heap.size, 1, none⟩ = some (.int .i64 y) := by rw [hW1]; simp
      have HO1 : Hid (OwnC W1 b g M cc) := by rw [hW1]; exact HOw.out.kept (Below.heap_alloc _ _ _ hgr)
      have hB1 : Below b w W1 := by rw [hW1]; exact hB.alloc (by omega) _
      have hgW := HO1.out.lt
      have hpW := World.block_lt_of_cell? W1 _ x0
      go_wp2
      rw [← hW1]
      clear hW1 HOw hB hgr c1 c2 HI hbigL
      generalize hS : st.length = S at *
      have HS := Lib.hid hS
      have hSk : S ≤ k := HSl.out
      generalize wr.heap.size = p at *
      clear hS HSl
      go_loopw [8] (fun s8 wi => ∃ (st' pre : List V2), s8 = .int .i64 (st'.length : Nat) ∧ Hid (st = pre ++ st' ∧ pushH st (x, y) = pushH st' (x, y)) ∧ Below W1.heap.size W1 wi) (fun s8 _ => (intOf s8).toNat)
      case atStart => exact ⟨st, [], by rw [HS.out], ⟨rfl, rfl⟩, Below.refl _ _⟩
      case round =>
        obtain ⟨st', pre, rfl, HP, hBi⟩ := hrel
        have hle : st'.length ≤ st.length := by rw [HP.out.1]; simp
        rw [HS.out] at hle
        generalize hn : st'.length = n at *
        have HN := Lib.hid hn
        clear hn
        have hgi := Nat.lt_of_lt_of_le hgW hBi.size
        have hpi := Nat.lt_of_lt_of_le hpW hBi.size
        have y0 : wr.cell? ⟨p, 0, none⟩ = some (.int .i64 x) := (hBi.cell (p := ⟨p, 0, none⟩) hpW).trans x0
        have y1 : wr.cell? ⟨p, 1, none⟩ = some (.int .i64 y) := (hBi.cell (p := ⟨p, 1, none⟩) hpW).trans x1
        have HO8 : Hid (∀ W8, Below W1.heap.size W1 W8 → OwnC ((W8.setCell ⟨g, off + n * 2, none⟩ (.int .i64 x)).setCell ⟨g, off + n * 2 + 1, none⟩ (.int .i64 y)) b g M (fun j => if j = o + n then (x, y) else cc j)) := fun W8 hq => by
          have q := (HO1.out.below hq hgW).set (k := o + n) (by have := HM.out; omega) (x, y)
          have hoo := HOf.out
          rwa [show (o + n) * 2 = off + n * 2 by omega] at q
        have HSp : Hid (∀ W8, Below W1.heap.size W1 W8 → ∀ j, j < 2 → (W8.cell? ⟨g, off + n * 2 + j, none⟩).isSome = true ∧ W8.frozen? ⟨g, off + n * 2 + j, none⟩ = false) := fun W8 hq j hj => by
          obtain ⟨⟨u1, u2⟩, u3, u4⟩ := (HO1.out.below hq hgW).row (o + n) (by have := HM.out; omega)
          have hoo := HOf.out
          have e0 : (o + n) * 2 = off + n * 2 := by omega
          rw [e0] at u1 u2 u3 u4
          have : j = 0 ∨ j = 1 := by omega
          rcases this with rfl | rfl
          · exact ⟨by rw [Nat.add_zero, u1]; rfl, u3⟩
          · exact ⟨by rw [u2]; rfl, u4⟩
        have HB8 : Hid (∀ W8, Below W1.heap.size W1 W8 → Below b w ((W8.setCell ⟨g, off + n * 2, none⟩ (.int .i64 x)).setCell ⟨g, off + n * 2 + 1, none⟩ (.int .i64 y))) := fun W8 hq => ((hB1.trans (hq.mono (by omega))).setCell (p := ⟨g, off + n * 2, none⟩) hbg _).setCell (p := ⟨g, off + n * 2 + 1, none⟩) hbg _
        have HF8 : Hid (∀ W8 ob, Below W1.heap.size W1 W8 → OwnC (((W8.setCell ⟨g, off + n * 2, none⟩ (.int .i64 x)).setCell ⟨g, off + n * 2 + 1, none⟩ (.int .i64 y)).alloc ob) b g M (fun j => if j = o + n then (x, y) else cc j) ∧ Below b w (((W8.setCell ⟨g, off + n * 2, none⟩ (.int .i64 x)).setCell ⟨g, off + n * 2 + 1, none⟩ (.int .i64 y)).alloc ob)) := fun W8 ob hq => ⟨(HO8.out W8 hq).kept (Below.heap_alloc _ _ _ (HO8.out W8 hq).lt), (HB8.out W8 hq).alloc (Nat.le_trans hbg (Nat.le_of_lt (HO8.out W8 hq).lt)) ob⟩
        have hsi := hBi.size
        have HR8 : Hid (n + 1 ≤ cap) := by have := HM.out; show _ ≤ _; omega
        have HIn : Hid (pushH st' (x, y) = (x, y) :: st' → HalfI l o (k + 1) c (fun j => if j = o + n then (x, y) else cc j) ((x, y) :: st')) := fun q => by
          have := HIq.out st' pre HP.out.1 (by rw [HP.out.2, q])
          rwa [HN.out] at this
        have n0 : (0 : Int) ≤ (n : Int) := by omega
        have nS : (n : Int) ≤ (S : Int) := by omega
        have nC : (n : Int) ≤ (cap : Int) := by have := HM.out; omega
        by_cases h2 : 1 < n
        · have t1 : (1 : Int) < (n : Int) := by omega
          have t2 : IntKind.i64.wrap ((n : Int) - 2) = (n : Int) - 2 := by rw [IntKind.wrap_i64]; omega
          have t3 : (0 : Int) ≤ (n : Int) - 2 := by omega
          have t7 : (2 : Int) ≤ (n : Int) := by omega
          have u7 : (1 : Int) ≤ (n : Int) := by omega
          have t4 : (n : Int) - 2 < (S : Int) := by omega
          have t5 : ((n : Int) - 2).toNat = n - 2 := by omega
          have t6 : n - 2 < S := by omega
          have u2 : IntKind.i64.wrap ((n : Int) - 1) = (n : Int) - 1 := by rw [IntKind.wrap_i64]; omega
          have u3 : (0 : Int) ≤ (n : Int) - 1 := by omega
          have u4 : (n : Int) - 1 < (S : Int) := by omega
          have u5 : ((n : Int) - 1).toNat = n - 1 := by omega
          have u6 : n - 1 < S := by omega
          obtain ⟨vb, va, r, hr⟩ : ∃ vb va r, st' = vb :: va :: r := by
            match st', HN.out with
            | [], q => simp at q; omega
            | [_], q => simp at q; omega
            | vb :: va :: r, _ => exact ⟨vb, va, r, rfl⟩
          have hrn : r.length + 2 = n := by rw [← HN.out, hr]; simp
          have e2 := suf_two (by rw [← hr]; exact HP.out.1 : st = pre ++ vb :: va :: r)
          obtain ⟨v1, v2⟩ := HSb.out (n - 2) (by omega)
          obtain ⟨v3, v4⟩ := HSb.out (n - 1) (by omega)
          rw [show n - 2 = r.length by omega, e2.1] at v1
          rw [show n - 1 = r.length + 1 by omega, e2.2] at v3
          rw [show o + (n - 2) = o + r.length by omega, v1] at v2
          rw [show o + (n - 1) = o + (r.length + 1) by omega, v3] at v4
          obtain ⟨⟨a1, a2⟩, _⟩ := (HO1.out.below hBi hgW).row (o + (n - 2)) (by have := HM.out; omega)
          obtain ⟨⟨a3, a4⟩, _⟩ := (HO1.out.below hBi hgW).row (o + (n - 1)) (by have := HM.out; omega)
          rw [show o + (n - 2) = o + r.length by omega, v1] at a1 a2
          rw [show o + (n - 1) = o + (r.length + 1) by omega, v3] at a3 a4
          have hoo := HOf.out
          rw [show (o + r.length) * 2 = off + (n - 2) * 2 by omega] at a1 a2
          rw [show (o + (r.length + 1)) * 2 = off + (n - 1) * 2 by omega] at a3 a4
          obtain ⟨ax, ay⟩ := va
          obtain ⟨bx, bY⟩ := vb
          dsimp only at a1 a2 a3 a4 v2 v4
          have HBd := Lib.hid (fun w' => bends_any ax ay bx bY x y w' v2 v4 HQB)
          have HPb : Hid (pushH st' (x, y) = if bendV (ax, ay) (bx, bY) (x, y) = true then (x, y) :: st' else pushH ((ax, ay) :: r) (x, y)) := by rw [hr]; exact push_bend _ _ _ _
          have HrN : Hid (((ax, ay) :: r).length = n - 1) := by show _ = _; simp; omega
          have Hst : Hid (st = (pre ++ [(bx, bY)]) ++ (ax, ay) :: r) := by show _ = _; rw [HP.out.1, hr]; simp
          generalize bendV (ax, ay) (bx, bY) (x, y) = K at *
          clear hoo v1 v2 v3 v4 e2 hrn hr
          cases K
          · go_upto_region 6 with fail
            refine wp_region_any (by kernel_rfl) ?_
            try (change wpAny _ _ _ _ _ _ _ (World.drew _))
            refine wpAny_of_held (S := fun w' => Below (wr.heap.size) wr w') _ _ _ _ ?_
            have hSw : Below (wr.heap.size) wr (World.drew wr) := by go_grown
            generalize World.drew wr = wd at hSw ⊢
            refine wpAnyH_take (i := 0) (v := ?_) rfl (by kernel_rfl) (by kernel_rfl) (by kernel_rfl) (fun _ _ _ h => h) (Or.inl ⟨by rfl, ?_⟩) hSw ?_
            rotate_left
            focus (intro w0 hS0; clear hS0; go_simp; try with_reducible rfl)
            refine wpAnyH_take (i := 1) (v := ?_) rfl (by kernel_rfl) (by kernel_rfl) (by kernel_rfl) (fun _ _ _ h => h) (Or.inl ⟨by rfl, ?_⟩) hSw ?_
            rotate_left
            focus (intro w0 hS0; clear hS0; go_simp; try with_reducible rfl)
            refine wpAnyH_take (i := 2) (v := ?_) rfl (by kernel_rfl) (by kernel_rfl) (by kernel_rfl) (fun _ _ _ h => h) (Or.inl ⟨by rfl, ?_⟩) hSw ?_
            rotate_left
            focus (intro w0 hS0; clear hS0; go_simp; try with_reducible rfl)
            refine wpAnyH_take (i := 3) (v := ?_) rfl (by kernel_rfl) (by kernel_rfl) (by kernel_rfl) (fun _ _ _ h => h) (Or.inl ⟨by kernel_rfl, ?_⟩) hSw ?_
            rotate_left
            focus (intro w0 hS0; clear hS0; go_simp; try with_reducible rfl)
            refine wpAnyH_take (i := 4) (v := ?_) rfl (by kernel_rfl) (by kernel_rfl) (by kernel_rfl) (fun _ _ _ h => h) (Or.inl ⟨by kernel_rfl, ?_⟩) hSw ?_
            rotate_left
            focus (intro w0 hS0; clear hS0; go_simp; try with_reducible rfl)
            refine wpAnyH_take (i := 5) (v := ?_) rfl (by kernel_rfl) (by kernel_rfl) (by kernel_rfl) (fun _ _ _ h => h) (Or.inl ⟨by kernel_rfl, ?_⟩) hSw ?_
            rotate_left
            focus (intro w0 hS0; clear hS0; go_simp; try with_reducible rfl)
            refine wpAnyH_take (i := 6) (v := ?_) rfl (by kernel_rfl) (by kernel_rfl) (by kernel_rfl) (fun _ _ _ h => h) (Or.inl ⟨by kernel_rfl, ?_⟩) hSw ?_
            rotate_left
            focus (intro w0 hS0; clear hS0; go_simp; try with_reducible rfl)
            refine wpAnyH_take (i := 7) (v := ?_) rfl (by kernel_rfl) (by kernel_rfl) (by kernel_rfl) (fun _ _ _ h => h) (Or.inl ⟨by kernel_rfl, ?_⟩) hSw ?_
            rotate_left
            focus (intro w0 hS0; clear hS0; go_simp; try with_reducible rfl)
            refine wpAnyH_take (i := 8) (v := ?_) rfl (by kernel_rfl) (by kernel_rfl) (by kernel_rfl) (fun _ _ _ h => h) (Or.inl ⟨by kernel_rfl, ?_⟩) hSw ?_
            rotate_left
            focus (intro w0 hS0; have c0 := (hS0.cell (p := ⟨g, off + (n - 2) * 2, none⟩) hgi).trans a1; have c1 := (hS0.cell (p := ⟨g, off + (n - 2) * 2 + 1, none⟩) hgi).trans a2; have c2 := (hS0.cell (p := ⟨g, off + (n - 1) * 2, none⟩) hgi).trans a3; have c3 := (hS0.cell (p := ⟨g, off + (n - 1) * 2 + 1, none⟩) hgi).trans a4; have c4 := (hS0.cell (p := ⟨p, 0, none⟩) hpi).trans y0; have c5 := (hS0.cell (p := ⟨p, 1, none⟩) hpi).trans y1; clear hS0; go_simp; try with_reducible rfl)
            refine wpAnyH_take (i := 9) (v := ?_) rfl (by kernel_rfl) (by kernel_rfl) (by kernel_rfl) (fun _ _ _ h => h) (Or.inl ⟨by kernel_rfl, ?_⟩) hSw ?_
            rotate_left
            focus (intro w0 hS0; clear hS0; go_simp; try with_reducible rfl)
            refine wpAnyH_take (i := 10) (v := ?_) rfl (by kernel_rfl) (by kernel_rfl) (by kernel_rfl) (fun _ _ _ h => h) (Or.inl ⟨by kernel_rfl, ?_⟩) hSw ?_
            rotate_left
            focus (intro w0 hS0; clear hS0; go_simp; try with_reducible rfl)
            refine wpAnyH_take (i := 11) (v := ?_) rfl (by kernel_rfl) (by kernel_rfl) (by kernel_rfl) (fun _ _ _ h => h) (Or.inl ⟨by kernel_rfl, ?_⟩) hSw ?_
            rotate_left
            focus (intro w0 hS0; clear hS0; go_simp; try with_reducible rfl)
            refine wpAnyH_take (i := 12) (v := ?_) rfl (by kernel_rfl) (by kernel_rfl) (by kernel_rfl) (fun _ _ _ h => h) (Or.inl ⟨by kernel_rfl, ?_⟩) hSw ?_
            rotate_left
            focus (intro w0 hS0; clear hS0; go_simp; try with_reducible rfl)
            refine wpAnyH_take (i := 13) (v := ?_) rfl (by kernel_rfl) (by kernel_rfl) (by kernel_rfl) (fun _ _ _ h => h) (Or.inl ⟨by kernel_rfl, ?_⟩) hSw ?_
            rotate_left
            focus (intro w0 hS0; have c0 := (hS0.cell (p := ⟨g, off + (n - 2) * 2, none⟩) hgi).trans a1; have c1 := (hS0.cell (p := ⟨g, off + (n - 2) * 2 + 1, none⟩) hgi).trans a2; have c2 := (hS0.cell (p := ⟨g, off + (n - 1) * 2, none⟩) hgi).trans a3; have c3 := (hS0.cell (p := ⟨g, off + (n - 1) * 2 + 1, none⟩) hgi).trans a4; have c4 := (hS0.cell (p := ⟨p, 0, none⟩) hpi).trans y0; have c5 := (hS0.cell (p := ⟨p, 1, none⟩) hpi).trans y1; clear hS0; go_simp; try with_reducible rfl)
            refine wpAnyH_take (i := 14) (v := ?_) rfl (by kernel_rfl) (by kernel_rfl) (by kernel_rfl) (fun _ _ _ h => h) (Or.inl ⟨by kernel_rfl, ?_⟩) hSw ?_
            rotate_left
            focus (intro w0 hS0; have c0 := (hS0.cell (p := ⟨g, off + (n - 2) * 2, none⟩) hgi).trans a1; have c1 := (hS0.cell (p := ⟨g, off + (n - 2) * 2 + 1, none⟩) hgi).trans a2; have c2 := (hS0.cell (p := ⟨g, off + (n - 1) * 2, none⟩) hgi).trans a3; have c3 := (hS0.cell (p := ⟨g, off + (n - 1) * 2 + 1, none⟩) hgi).trans a4; have c4 := (hS0.cell (p := ⟨p, 0, none⟩) hpi).trans y0; have c5 := (hS0.cell (p := ⟨p, 1, none⟩) hpi).trans y1; clear hS0; go_simp; try with_reducible rfl)
            refine wpAnyH_ready (rs := [15]) (by kernel_rfl) (by simp) (AllReadyH.cons rfl (fun K hK => ?_) (AllReadyH.nil))
            go_simp
            (refine Calls.mono (HBd.out _) ?_; rintro e w4 ⟨rfl, hbX⟩; replace hSw := belowTo hSw hbX; refine hK.out _ _ hSw (fun _ => ?_); clear hK K hbX)
            refine wpAnyH_take (i := 16) (v := ?_) rfl (by kernel_rfl) (by kernel_rfl) (by kernel_rfl) (fun _ _ _ h => h) (Or.inl ⟨by kernel_rfl, ?_⟩) hSw ?_
            rotate_left
            focus (intro w0 hS0; clear hS0; go_simp; try with_reducible rfl)
            refine wpAnyH_take (i := 17) (v := ?_) rfl (by kernel_rfl) (by kernel_rfl) (by kernel_rfl) (fun _ _ _ h => h) (Or.inl ⟨by rfl, ?_⟩) hSw ?_
            rotate_left
            focus (intro w0 hS0; clear hS0; go_simp; try with_reducible rfl)
            refine wpAnyH_done (by kernel_rfl) ?_ _
            have hq4 : Below W1.heap.size W1 w4 := belowTo hBi hSw
            clear hSw y0 y1 a1 a2 a3 a4
            go_wp2
            go_roundw
            case rel => exact ⟨(ax, ay) :: r, pre ++ [(bx, bY)], by rw [HrN.out]; go_num, ⟨Hst.out, by rw [HP.out.2, HPb.out]; rfl⟩, hq4⟩
            case measure => simp [intOf]; omega
          · go_upto_region 6 with fail
            refine wp_region_any (by kernel_rfl) ?_
            try (change wpAny _ _ _ _ _ _ _ (World.drew _))
            refine wpAny_of_held (S := fun w' => Below (wr.heap.size) wr w') _ _ _ _ ?_
            have hSw : Below (wr.heap.size) wr (World.drew wr) := by go_grown
            generalize World.drew wr = wd at hSw ⊢
            refine wpAnyH_take (i := 0) (v := ?_) rfl (by kernel_rfl) (by kernel_rfl) (by kernel_rfl) (fun _ _ _ h => h) (Or.inl ⟨by rfl, ?_⟩) hSw ?_
            rotate_left
            focus (intro w0 hS0; clear hS0; go_simp; try with_reducible rfl)
            refine wpAnyH_take (i := 1) (v := ?_) rfl (by kernel_rfl) (by kernel_rfl) (by kernel_rfl) (fun _ _ _ h => h) (Or.inl ⟨by rfl, ?_⟩) hSw ?_
            rotate_left
            focus (intro w0 hS0; clear hS0; go_simp; try with_reducible rfl)
            refine wpAnyH_take (i := 2) (v := ?_) rfl (by kernel_rfl) (by kernel_rfl) (by kernel_rfl) (fun _ _ _ h => h) (Or.inl ⟨by rfl, ?_⟩) hSw ?_
            rotate_left
            focus (intro w0 hS0; clear hS0; go_simp; try with_reducible rfl)
            refine wpAnyH_take (i := 3) (v := ?_) rfl (by kernel_rfl) (by kernel_rfl) (by kernel_rfl) (fun _ _ _ h => h) (Or.inl ⟨by kernel_rfl, ?_⟩) hSw ?_
            rotate_left
            focus (intro w0 hS0; clear hS0; go_simp; try with_reducible rfl)
            refine wpAnyH_take (i := 4) (v := ?_) rfl (by kernel_rfl) (by kernel_rfl) (by kernel_rfl) (fun _ _ _ h => h) (Or.inl ⟨by kernel_rfl, ?_⟩) hSw ?_
            rotate_left
            focus (intro w0 hS0; clear hS0; go_simp; try with_reducible rfl)
            refine wpAnyH_take (i := 5) (v := ?_) rfl (by kernel_rfl) (by kernel_rfl) (by kernel_rfl) (fun _ _ _ h => h) (Or.inl ⟨by kernel_rfl, ?_⟩) hSw ?_
            rotate_left
            focus (intro w0 hS0; clear hS0; go_simp; try with_reducible rfl)
            refine wpAnyH_take (i := 6) (v := ?_) rfl (by kernel_rfl) (by kernel_rfl) (by kernel_rfl) (fun _ _ _ h => h) (Or.inl ⟨by kernel_rfl, ?_⟩) hSw ?_
            rotate_left
            focus (intro w0 hS0; clear hS0; go_simp; try with_reducible rfl)
            refine wpAnyH_take (i := 7) (v := ?_) rfl (by kernel_rfl) (by kernel_rfl) (by kernel_rfl) (fun _ _ _ h => h) (Or.inl ⟨by kernel_rfl, ?_⟩) hSw ?_
            rotate_left
            focus (intro w0 hS0; clear hS0; go_simp; try with_reducible rfl)
            refine wpAnyH_take (i := 8) (v := ?_) rfl (by kernel_rfl) (by kernel_rfl) (by kernel_rfl) (fun _ _ _ h => h) (Or.inl ⟨by kernel_rfl, ?_⟩) hSw ?_
            rotate_left
            focus (intro w0 hS0; have c0 := (hS0.cell (p := ⟨g, off + (n - 2) * 2, none⟩) hgi).trans a1; have c1 := (hS0.cell (p := ⟨g, off + (n - 2) * 2 + 1, none⟩) hgi).trans a2; have c2 := (hS0.cell (p := ⟨g, off + (n - 1) * 2, none⟩) hgi).trans a3; have c3 := (hS0.cell (p := ⟨g, off + (n - 1) * 2 + 1, none⟩) hgi).trans a4; have c4 := (hS0.cell (p := ⟨p, 0, none⟩) hpi).trans y0; have c5 := (hS0.cell (p := ⟨p, 1, none⟩) hpi).trans y1; clear hS0; go_simp; try with_reducible rfl)
            refine wpAnyH_take (i := 9) (v := ?_) rfl (by kernel_rfl) (by kernel_rfl) (by kernel_rfl) (fun _ _ _ h => h) (Or.inl ⟨by kernel_rfl, ?_⟩) hSw ?_
            rotate_left
            focus (intro w0 hS0; clear hS0; go_simp; try with_reducible rfl)
            refine wpAnyH_take (i := 10) (v := ?_) rfl (by kernel_rfl) (by kernel_rfl) (by kernel_rfl) (fun _ _ _ h => h) (Or.inl ⟨by kernel_rfl, ?_⟩) hSw ?_
            rotate_left
            focus (intro w0 hS0; clear hS0; go_simp; try with_reducible rfl)
            refine wpAnyH_take (i := 11) (v := ?_) rfl (by kernel_rfl) (by kernel_rfl) (by kernel_rfl) (fun _ _ _ h => h) (Or.inl ⟨by kernel_rfl, ?_⟩) hSw ?_
            rotate_left
            focus (intro w0 hS0; clear hS0; go_simp; try with_reducible rfl)
            refine wpAnyH_take (i := 12) (v := ?_) rfl (by kernel_rfl) (by kernel_rfl) (by kernel_rfl) (fun _ _ _ h => h) (Or.inl ⟨by kernel_rfl, ?_⟩) hSw ?_
            rotate_left
            focus (intro w0 hS0; clear hS0; go_simp; try with_reducible rfl)
            refine wpAnyH_take (i := 13) (v := ?_) rfl (by kernel_rfl) (by kernel_rfl) (by kernel_rfl) (fun _ _ _ h => h) (Or.inl ⟨by kernel_rfl, ?_⟩) hSw ?_
            rotate_left
            focus (intro w0 hS0; have c0 := (hS0.cell (p := ⟨g, off + (n - 2) * 2, none⟩) hgi).trans a1; have c1 := (hS0.cell (p := ⟨g, off + (n - 2) * 2 + 1, none⟩) hgi).trans a2; have c2 := (hS0.cell (p := ⟨g, off + (n - 1) * 2, none⟩) hgi).trans a3; have c3 := (hS0.cell (p := ⟨g, off + (n - 1) * 2 + 1, none⟩) hgi).trans a4; have c4 := (hS0.cell (p := ⟨p, 0, none⟩) hpi).trans y0; have c5 := (hS0.cell (p := ⟨p, 1, none⟩) hpi).trans y1; clear hS0; go_simp; try with_reducible rfl)
            refine wpAnyH_take (i := 14) (v := ?_) rfl (by kernel_rfl) (by kernel_rfl) (by kernel_rfl) (fun _ _ _ h => h) (Or.inl ⟨by kernel_rfl, ?_⟩) hSw ?_
            rotate_left
            focus (intro w0 hS0; have c0 := (hS0.cell (p := ⟨g, off + (n - 2) * 2, none⟩) hgi).trans a1; have c1 := (hS0.cell (p := ⟨g, off + (n - 2) * 2 + 1, none⟩) hgi).trans a2; have c2 := (hS0.cell (p := ⟨g, off + (n - 1) * 2, none⟩) hgi).trans a3; have c3 := (hS0.cell (p := ⟨g, off + (n - 1) * 2 + 1, none⟩) hgi).trans a4; have c4 := (hS0.cell (p := ⟨p, 0, none⟩) hpi).trans y0; have c5 := (hS0.cell (p := ⟨p, 1, none⟩) hpi).trans y1; clear hS0; go_simp; try with_reducible rfl)
            refine wpAnyH_ready (rs := [15]) (by kernel_rfl) (by simp) (AllReadyH.cons rfl (fun K hK => ?_) (AllReadyH.nil))
            go_simp
            (refine Calls.mono (HBd.out _) ?_; rintro e w4 ⟨rfl, hbX⟩; replace hSw := belowTo hSw hbX; refine hK.out _ _ hSw (fun _ => ?_); clear hK K hbX)
            refine wpAnyH_take (i := 16) (v := ?_) rfl (by kernel_rfl) (by kernel_rfl) (by kernel_rfl) (fun _ _ _ h => h) (Or.inl ⟨by kernel_rfl, ?_⟩) hSw ?_
            rotate_left
            focus (intro w0 hS0; clear hS0; go_simp; try with_reducible rfl)
            refine wpAnyH_take (i := 17) (v := ?_) rfl (by kernel_rfl) (by kernel_rfl) (by kernel_rfl) (fun _ _ _ h => h) (Or.inl ⟨by rfl, ?_⟩) hSw ?_
            rotate_left
            focus (intro w0 hS0; clear hS0; go_simp; try with_reducible rfl)
            refine wpAnyH_done (by kernel_rfl) ?_ _
            have hq4 : Below W1.heap.size W1 w4 := belowTo hBi hSw
            have HIn2 := Lib.hid (HIn.out (by rw [HPb.out, if_pos rfl]))
            have z0 : w4.cell? ⟨p, 0, none⟩ = some (.int .i64 x) := (hSw.cell (p := ⟨p, 0, none⟩) hpi).trans y0
            have z1 : w4.cell? ⟨p, 1, none⟩ = some (.int .i64 y) := (hSw.cell (p := ⟨p, 1, none⟩) hpi).trans y1
            clear hSw a1 a2 a3 a4 HIn y0 y1
            have hq4s := hq4.size
            go_wp2
            refine wp_region_any (by kernel_rfl) ?_
            try (change wpAny _ _ _ _ _ _ _ (World.drew _))
            refine wpAny_take (i := 0) (v := ?_) rfl (by kernel_rfl) (by kernel_rfl) (by kernel_rfl) (fun _ _ _ h => h) (Or.inl ⟨by rfl, ?_⟩) ?_
            rotate_left
            focus (intro w0; go_simp; try with_reducible rfl)
            refine wpAny_take (i := 1) (v := ?_) rfl (by kernel_rfl) (by kernel_rfl) (by kernel_rfl) (fun _ _ _ h => h) (Or.inl ⟨by rfl, ?_⟩) ?_
            rotate_left
            focus (intro w0; go_simp; try with_reducible rfl)
            refine wpAny_take (i := 2) (v := ?_) rfl (by kernel_rfl) (by kernel_rfl) (by kernel_rfl) (fun _ _ _ h => h) (Or.inl ⟨by rfl, ?_⟩) ?_
            rotate_left
            focus (intro w0; go_simp; try with_reducible rfl)
            refine wpAny_ready (rs := [3]) (by kernel_rfl) (by simp) (AllReady.cons rfl (fun K hK => ?_) (AllReady.nil))
            go_simp
            refine hK _ _ ?_
            clear hK K
            refine wpAny_ready (rs := [4]) (by kernel_rfl) (by simp) (AllReady.cons rfl (fun K hK => ?_) (AllReady.nil))
            go_simp
            refine hK _ _ ?_
            clear hK K
            refine wpAny_ready (rs := [5]) (by kernel_rfl) (by simp) (AllReady.cons rfl (fun K hK => ?_) (AllReady.nil))
            (refine step_app rfl _ _ 24 rfl 38 i0 Tryd.underlying24 hi hz1 g off n cap rfl ⟨_, 0, none⟩ 1 x y rfl (by first | (go_cell; done) | (go_simp; done) | (simp; done)) (by first | (go_cell; done) | (go_simp; done) | (simp; done)) HR8.out (HSp.out _ (by go_grown)) ?_)
            refine hK _ _ ?_
            clear hK K
            refine wpAny_seq 6 rfl (by kernel_rfl) ?_
            simp only [List.drop_succ_cons, List.drop_zero]
            go_wp2
            go_roundw
            case rel => exact ⟨k + 1, (x, y) :: st', _, by rw [List.length_cons, HN.out], by go_num, by omega, HIn2, HO8.out _ (by go_grown), (HB8.out _ (by go_grown)).drew⟩
            case measure => simp [intOf]; omega
        · have t1 : ¬ (1 : Int) < (n : Int) := by omega
          have HIn2 := Lib.hid (HIn.out (push_one (by rw [HN.out]; exact h2) _))
          go_upto_region 6 with fail
          refine wp_region_any (by kernel_rfl) ?_
          try (change wpAny _ _ _ _ _ _ _ (World.drew _))
          refine wpAny_take (i := 0) (v := ?_) rfl (by kernel_rfl) (by kernel_rfl) (by kernel_rfl) (fun _ _ _ h => h) (Or.inl ⟨by rfl, ?_⟩) ?_
          rotate_left
          focus (intro w0; go_simp; try with_reducible rfl)
          refine wpAny_take (i := 1) (v := ?_) rfl (by kernel_rfl) (by kernel_rfl) (by kernel_rfl) (fun _ _ _ h => h) (Or.inl ⟨by rfl, ?_⟩) ?_
          rotate_left
          focus (intro w0; go_simp; try with_reducible rfl)
          refine wpAny_take (i := 2) (v := ?_) rfl (by kernel_rfl) (by kernel_rfl) (by kernel_rfl) (fun _ _ _ h => h) (Or.inl ⟨by rfl, ?_⟩) ?_
          rotate_left
          focus (intro w0; go_simp; try with_reducible rfl)
          refine wpAny_take (i := 3) (v := undef) rfl (by kernel_rfl) (by kernel_rfl) (by kernel_rfl) (fun _ _ _ h => h) (Or.inr ⟨by kernel_rfl, rfl⟩) ?_
          refine wpAny_take (i := 4) (v := undef) rfl (by kernel_rfl) (by kernel_rfl) (by kernel_rfl) (fun _ _ _ h => h) (Or.inr ⟨by kernel_rfl, rfl⟩) ?_
          refine wpAny_take (i := 5) (v := undef) rfl (by kernel_rfl) (by kernel_rfl) (by kernel_rfl) (fun _ _ _ h => h) (Or.inr ⟨by kernel_rfl, rfl⟩) ?_
          refine wpAny_take (i := 6) (v := undef) rfl (by kernel_rfl) (by kernel_rfl) (by kernel_rfl) (fun _ _ _ h => h) (Or.inr ⟨by kernel_rfl, rfl⟩) ?_
          refine wpAny_take (i := 7) (v := undef) rfl (by kernel_rfl) (by kernel_rfl) (by kernel_rfl) (fun _ _ _ h => h) (Or.inr ⟨by kernel_rfl, rfl⟩) ?_
          refine wpAny_take (i := 8) (v := undef) rfl (by kernel_rfl) (by kernel_rfl) (by kernel_rfl) (fun _ _ _ h => h) (Or.inr ⟨by kernel_rfl, rfl⟩) ?_
          refine wpAny_take (i := 9) (v := undef) rfl (by kernel_rfl) (by kernel_rfl) (by kernel_rfl) (fun _ _ _ h => h) (Or.inr ⟨by kernel_rfl, rfl⟩) ?_
          refine wpAny_take (i := 10) (v := undef) rfl (by kernel_rfl) (by kernel_rfl) (by kernel_rfl) (fun _ _ _ h => h) (Or.inr ⟨by kernel_rfl, rfl⟩) ?_
          refine wpAny_take (i := 11) (v := undef) rfl (by kernel_rfl) (by kernel_rfl) (by kernel_rfl) (fun _ _ _ h => h) (Or.inr ⟨by kernel_rfl, rfl⟩) ?_
          refine wpAny_take (i := 12) (v := undef) rfl (by kernel_rfl) (by kernel_rfl) (by kernel_rfl) (fun _ _ _ h => h) (Or.inr ⟨by kernel_rfl, rfl⟩) ?_
          refine wpAny_take (i := 13) (v := undef) rfl (by kernel_rfl) (by kernel_rfl) (by kernel_rfl) (fun _ _ _ h => h) (Or.inr ⟨by kernel_rfl, rfl⟩) ?_
          refine wpAny_take (i := 14) (v := undef) rfl (by kernel_rfl) (by kernel_rfl) (by kernel_rfl) (fun _ _ _ h => h) (Or.inr ⟨by kernel_rfl, rfl⟩) ?_
          refine wpAny_take (i := 15) (v := undef) rfl (by kernel_rfl) (by kernel_rfl) (by kernel_rfl) (fun _ _ _ h => h) (Or.inr ⟨by kernel_rfl, rfl⟩) ?_
          refine wpAny_seq 16 rfl (by kernel_rfl) ?_
          simp only [List.drop_succ_cons, List.drop_zero]
          clear HIn
          go_wp2
          refine wp_region_any (by kernel_rfl) ?_
          try (change wpAny _ _ _ _ _ _ _ (World.drew _))
          refine wpAny_take (i := 0) (v := ?_) rfl (by kernel_rfl) (by kernel_rfl) (by kernel_rfl) (fun _ _ _ h => h) (Or.inl ⟨by rfl, ?_⟩) ?_
          rotate_left
          focus (intro w0; go_simp; try with_reducible rfl)
          refine wpAny_take (i := 1) (v := ?_) rfl (by kernel_rfl) (by kernel_rfl) (by kernel_rfl) (fun _ _ _ h => h) (Or.inl ⟨by rfl, ?_⟩) ?_
          rotate_left
          focus (intro w0; go_simp; try with_reducible rfl)
          refine wpAny_take (i := 2) (v := ?_) rfl (by kernel_rfl) (by kernel_rfl) (by kernel_rfl) (fun _ _ _ h => h) (Or.inl ⟨by rfl, ?_⟩) ?_
          rotate_left
          focus (intro w0; go_simp; try with_reducible rfl)
          refine wpAny_ready (rs := [3]) (by kernel_rfl) (by simp) (AllReady.cons rfl (fun K hK => ?_) (AllReady.nil))
          go_simp
          refine hK _ _ ?_
          clear hK K
          refine wpAny_ready (rs := [4]) (by kernel_rfl) (by simp) (AllReady.cons rfl (fun K hK => ?_) (AllReady.nil))
          go_simp
          refine hK _ _ ?_
          clear hK K
          refine wpAny_ready (rs := [5]) (by kernel_rfl) (by simp) (AllReady.cons rfl (fun K hK => ?_) (AllReady.nil))
          (refine step_app rfl _ _ 24 rfl 38 i0 Tryd.underlying24 hi hz1 g off n cap rfl ⟨_, 0, none⟩ 1 x y rfl (by first | (go_cell; done) | (go_simp; done) | (simp; done)) (by first | (go_cell; done) | (go_simp; done) | (simp; done)) HR8.out (HSp.out _ (by go_grown)) ?_)
          refine hK _ _ ?_
          clear hK K
          refine wpAny_seq 6 rfl (by kernel_rfl) ?_
          simp only [List.drop_succ_cons, List.drop_zero]
          go_wp2
          go_roundw
          case rel => exact ⟨k + 1, (x, y) :: st', _, by rw [List.length_cons, HN.out], by go_num, by omega, HIn2, (HF8.out _ _ (by go_grown)).1, (HF8.out _ _ (by go_grown)).2.drew.drew⟩
          case measure => simp [intOf]; omega
    · have hkm : k = m := by omega
      subst hkm
      obtain ⟨hM1, _⟩ := HM.out
      have hD := HD.out st cc (by rw [← hM1]; exact HI.out)
      have HF := Lib.hid (fun v hv => HY.out wr v hv ⟨cc, HOw.out, fun j hj => hD.2 j (by rw [← HRr.out]; exact hj), HI.out.out⟩)
      have hlen : Hid (R = st.length - 1) := by show _ = _; rw [HRr.out, ← hD.1]; simp
      have hsk : st.length ≤ k := HI.out.le
      clear hD hM1 HI HOw
      generalize st.length = S at *
      have q2 : IntKind.i64.wrap ((S : Int) - 1) = (S : Int) - 1 := by rw [IntKind.wrap_i64]; omega
      by_cases h0 : S = 0
      · subst h0
        have q3 : (0 : Int) ≤ (cap : Int) := by omega
        go_wp2
        go_returns
        exact HF.out _ (by rw [hlen.out]; rfl) hB
      · have q3 : (0 : Int) ≤ (S : Int) - 1 := by omega
        have q4 : (S : Int) - 1 ≤ (cap : Int) := by have := HM.out; omega
        have q5 : ((S : Int) - 1).toNat = S - 1 := by omega
        have q6 : (1 : Int) ≤ (S : Int) := by omega
        have q8 : (max 0 ((S : Int) - 1)).toNat = S - 1 := by omega
        go_wp2
        go_returns
        exact HF.out _ (by rw [hlen.out, ← q8]; rfl) hB
end Go.Proofs.YthkcopmodfmoeaaDoor
