/- OrecRuns: what the plain functions come to. -/
import Derived.Test.YtlcamddglkfblaaOxr
import Derived.Test.YtlcamddglkfblaaPu
namespace Go.Proofs.Ytlcamddglkfblaa
open Go.RowKit
namespace Ev
set_option linter.unusedVariables false
namespace Ox
def OkW (w : Int) : Prop := 0 ≤ w ∧ w % 4 ≤ 2 ∧ (w % 4 = 0 → w / 4 ≤ 2199023255552) ∧ (w % 4 ≠ 0 → w / 4 ≤ 63)
def cell (W T : List Int) (t : Nat) : R_iii := ⟨W.getD t 0 % 4, W.getD t 0 / 4, T.getD t 0⟩
/-- The table's words and counts, and the document's records. -/
structure Rel (i : Nat) (W T : List Int) (r : List R_iii) : Prop where
  n1 : 1 ≤ W.length
  n2 : W.length ≤ 1024
  lT : T.length = W.length
  lr : r.length = W.length
  at_ : ∀ t, t < W.length → r.getD t R_iii.z = cell W T t
  ok : ∀ t, t < W.length → OkW (W.getD t 0)
  c : ∀ t, t < W.length → 0 ≤ T.getD t 0 ∧ T.getD t 0 ≤ i
theorem Rel.up {i j : Nat} {W T : List Int} {r : List R_iii} (h : Rel i W T r) (hij : i ≤ j) : Rel j W T r :=
  ⟨h.n1, h.n2, h.lT, h.lr, h.at_, h.ok, fun t ht => ⟨(h.c t ht).1, by have := (h.c t ht).2; omega⟩⟩
theorem read_ok {w : Int} (h : OkW w) (N : Nat) : orec_Read w N = some (.r0 (w % 4) (w / 4) 0) := by
  obtain ⟨h0, h1, h2, h3⟩ := h
  unfold orec_Read
  repeat' (first | with_reducible rfl | (exfalso; omega) | exact absurd trivial (by assumption) | refine ite_eq (fun _ => ?_) (fun _ => ?_) | rfl)
theorem at_in {i : Nat} {W T : List Int} {r : List R_iii} (h : Rel i W T r) {t : Nat} (ht : t < W.length) (N : Nat) : orec_Table_At (t : Int) W T N = some (.r0 (r.getD t R_iii.z).a0 (r.getD t R_iii.z).a1 (r.getD t R_iii.z).a2) := by
  unfold orec_Table_At
  have hl := h.lT
  rw [if_pos (by omega), if_pos (by omega), if_pos (by omega), Int.toNat_natCast, read_ok (h.ok t ht), Option.bind_some]
  simp only []
  rw [if_pos (by omega), h.at_ t ht]
  rfl
theorem at_same {i : Nat} {W T : List Int} {r : List R_iii} (h : Rel i W T r) (a : Int) (N : Nat) : ∃ x y z, orec_Table_At a W T N = some (.r0 x y z) ∧ ref03_At r a N = some (.r0 x y z) := by
  have hn := h.n1
  have hl := h.lr
  by_cases h0 : 0 ≤ a
  · by_cases h1 : a < (W.length : Int)
    · obtain ⟨t, rfl⟩ := Int.eq_ofNat_of_zero_le h0
      refine ⟨_, _, _, at_in h (by omega) N, ?_⟩
      unfold ref03_At
      rw [if_pos h0, if_pos (by omega), Int.toNat_natCast]
    · refine ⟨0, 0, 0, ?_, ?_⟩
      · unfold orec_Table_At; rw [if_pos (by omega), if_pos h0, if_neg h1]
      · unfold ref03_At; rw [if_pos h0, if_neg (by omega)]
  · refine ⟨0, 0, 0, ?_, ?_⟩
    · unfold orec_Table_At; rw [if_pos (by omega), if_neg h0]
    · unfold ref03_At; rw [if_neg h0]
theorem all_go {i : Nat} {W T : List Int} {r : List R_iii} (h : Rel i W T r) (N : Nat) : ∀ (k v fu : Nat), v + k = W.length → 1 ≤ v → k < fu → iter (orec_Table_AllStep W T N) fu (.h1m1 (r.take v) W.length v) = some (.r1 r)
  | 0, v, fu + 1, hv, _, _ => by
    refine iter_done ?_
    simp only [orec_Table_AllStep, orec_Table_All_h1m0, orec_Table_All_h1m1]
    rw [if_neg (by omega), List.take_of_length_le (by have := h.lr; omega)]
  | k + 1, v, fu + 1, hv, h1, hf => by
    have hl := h.lr
    have hn := h.n2
    rw [iter_next (y := .h1m1 (r.take (v + 1)) W.length (v + 1)) ?_]
    · exact all_go h N k (v + 1) fu (by omega) (by omega) (by omega)
    · simp only [orec_Table_AllStep, orec_Table_All_h1m0, orec_Table_All_h1m1]
      rw [if_pos (by omega), at_in h (by omega), Option.bind_some]
      simp only []
      rw [if_pos (by simp; omega), if_pos (by omega)]
      rw [← take_snoc (L := r) (i := v) (by omega) R_iii.z]
theorem all_eq {i : Nat} {W T : List Int} {r : List R_iii} (h : Rel i W T r) {N : Nat} (hN : 2000 ≤ N) : orec_Table_All W T N = some (.r1 r) := by
  have hl := h.lr
  have hn := h.n2
  have hn1 := h.n1
  unfold orec_Table_All
  rw [goM_in (x := .h1m0 W.length) (by unfold orec_Table_AllIn; rw [if_pos (by omega)])]
  obtain ⟨N, rfl⟩ : ∃ m, N = m + 1 := ⟨N - 1, by omega⟩
  rw [iter_next (y := .h1m1 (r.take 1) W.length 1) ?_]
  · exact all_go h _ (W.length - 1) 1 N (by omega) (by omega) (by omega)
  · simp only [orec_Table_AllStep, orec_Table_All_h1m0, orec_Table_All_h1m1]
    rw [if_pos (by omega)]
    have := at_in h (t := 0) (by omega) (N + 1)
    simp only [Int.ofNat_zero, Int.natCast_zero] at this
    rw [this, Option.bind_some]
    simp only []
    rw [← take_snoc (L := r) (i := 0) (by omega) R_iii.z]
    rfl
theorem same_go (r : List R_iii) (hr : r.length ≤ 1024) (N : Nat) : ∀ (k v fu : Nat), v + k = r.length → k < fu → iter (ref03_SameAll_2Step r r N) fu (.h1m0 v) = some (.r0 true)
  | 0, v, fu + 1, hv, _ => iter_done (by simp only [ref03_SameAll_2Step, ref03_SameAll_2_h1m0]; rw [if_neg (by omega)])
  | k + 1, v, fu + 1, hv, hf => by
    rw [iter_next (y := .h1m0 (v + 1)) (by simp only [ref03_SameAll_2Step, ref03_SameAll_2_h1m0]; rw [if_pos (by omega), if_pos (by omega), if_neg (by simp), if_pos (by omega)])]
    exact same_go r hr N k (v + 1) fu (by omega) (by omega)
theorem same_all (r : List R_iii) (hr : r.length ≤ 1024) {N : Nat} (hN : 2000 ≤ N) : ref03_SameAll_2 r r N = some (.r0 true) := by
  unfold ref03_SameAll_2
  rw [goM_in (x := .h1m0 0) (by unfold ref03_SameAll_2In; rw [if_neg (by simp)])]
  exact same_go r hr N r.length 0 N (by omega) (by omega)
theorem ints_go (r : List Int) (hr : r.length ≤ 1024) (N : Nat) : ∀ (k v fu : Nat), v + k = r.length → k < fu → iter (ref03_SameInts_4Step r r N) fu (.h1m0 v) = some (.r0 true)
  | 0, v, fu + 1, hv, _ => iter_done (by simp only [ref03_SameInts_4Step, ref03_SameInts_4_h1m0]; rw [if_neg (by omega)])
  | k + 1, v, fu + 1, hv, hf => by
    rw [iter_next (y := .h1m0 (v + 1)) (by simp only [ref03_SameInts_4Step, ref03_SameInts_4_h1m0]; rw [if_pos (by omega), if_pos (by omega), if_neg (by simp), if_pos (by omega)])]
    exact ints_go r hr N k (v + 1) fu (by omega) (by omega)
theorem same_ints (r : List Int) (hr : r.length ≤ 1024) {N : Nat} (hN : 2000 ≤ N) : ref03_SameInts_4 r r N = some (.r0 true) := by
  unfold ref03_SameInts_4
  rw [goM_in (x := .h1m0 0) (by unfold ref03_SameInts_4In; rw [if_neg (by simp)])]
  exact ints_go r hr N r.length 0 N (by omega) (by omega)
theorem same_none {N : Nat} (hN : 2000 ≤ N) : ref03_SameInts N = some .r0 := by
  unfold ref03_SameInts
  obtain ⟨N, rfl⟩ : ∃ m, N = m + 1 := ⟨N - 1, by omega⟩
  show iter (ref03_SameIntsStep (N + 1)) (N + 1) .h1m0 = _
  exact iter_done rfl
theorem word0 (n : Int) (N : Nat) : orec_Word 0 n 0 N = (if 0 ≤ n ∧ n ≤ 2199023255552 then some (.r0 (4 * n) 0) else some (.r0 0 30)) := by
  have e : 4 * n + 0 = 4 * n := by omega
  by_cases hv : 0 ≤ n ∧ n ≤ 2199023255552
  · rw [if_pos hv, ← e]
    unfold orec_Word
    repeat' (first | with_reducible rfl | (exfalso; omega) | exact absurd trivial (by assumption) | refine ite_eq (fun _ => ?_) (fun _ => ?_) | rfl)
  · rw [if_neg hv]
    unfold orec_Word
    repeat' (first | with_reducible rfl | (exfalso; omega) | exact absurd trivial (by assumption) | refine ite_eq (fun _ => ?_) (fun _ => ?_) | rfl)
/-- One record is another one. -/
theorem Rel.put {i j : Nat} {W T : List Int} {r : List R_iii} (h : Rel i W T r) (hij : i ≤ j) {t : Nat} (ht : t < W.length) {w c : Int} {x : R_iii} (hw : OkW w) (hc : 0 ≤ c ∧ c ≤ j) (hx : x = ⟨w % 4, w / 4, c⟩) : Rel j (W.set t w) (T.set t c) (r.set t x) := by
  have hl := h.lT
  have hr := h.lr
  refine ⟨by simp; exact h.n1, by simp; exact h.n2, by simp; exact hl, by simp; exact hr, fun s hs => ?_, fun s hs => ?_, fun s hs => ?_⟩
  all_goals simp only [List.length_set] at hs
  · unfold cell
    rw [getD_set (by omega), getD_set ht, getD_set (by omega)]
    by_cases e : s = t
    · subst e; simp [hx]
    · simp only [if_neg e]; exact h.at_ s hs
  · rw [getD_set ht]
    by_cases e : s = t
    · simp [e, hw]
    · simp only [if_neg e]; exact h.ok s hs
  · rw [getD_set (by omega)]
    by_cases e : s = t
    · simp [e, hc]
    · simp only [if_neg e]; exact ⟨(h.c s hs).1, by have := (h.c s hs).2; omega⟩
theorem set_self {L : List Int} {t : Nat} (h : t < L.length) : L.set t (L.getD t 0) = L := by
  apply ext_getD 0 (by simp)
  intro i hi
  simp only [List.length_set] at hi
  rw [getD_set h]
  by_cases e : i = t
  · subst e; simp
  · rw [if_neg e]
set_option maxHeartbeats 2000000 in
theorem take_ok {i : Nat} {W T : List Int} {r : List R_iii} (h : Rel i W T r) (hi : i ≤ 60) (a n K M I : Int) (N : Nat) :
    (∃ W' T', orec_Table_Take a n K M I W T N = some (.r0 W' T' false) ∧ ref03_Take r a n K M I N = some .r0 ∧ Rel i W' T' r) ∨
    (∃ W' T', orec_Table_Take a n K M I W T N = some (.r0 W' T' true) ∧ ref03_Take r a n K M I N = some .r1 ∧ Rel (i + 1) W' T' (r.set a.toNat ⟨K, M, IntKind.i64.wrap ((r.getD a.toNat R_iii.z).a2 + 1)⟩)) := by
  have hn1 := h.n1
  have hn2 := h.n2
  have hl := h.lT
  have hr := h.lr
  have no : ∀ {b : Prop}, orec_Table_Take a n K M I W T N = some (.r0 W T false) → ref03_Take r a n K M I N = some .r0 →
      ((∃ W' T', orec_Table_Take a n K M I W T N = some (.r0 W' T' false) ∧ ref03_Take r a n K M I N = some .r0 ∧ Rel i W' T' r) ∨ b) := fun h1 h2 => .inl ⟨W, T, h1, h2, h⟩
  have hw := word0 n N
  by_cases h0 : 0 ≤ a ∧ a < (W.length : Int)
  · obtain ⟨t, rfl⟩ := Int.eq_ofNat_of_zero_le h0.1
    have ht : t < W.length := by omega
    have hat := h.at_ t ht
    have hok := h.ok t ht
    have hc := h.c t ht
    obtain ⟨o1, o2, o3, o4⟩ := hok
    unfold cell at hat
    have e0 : (r.getD t R_iii.z).a0 = W.getD t 0 % 4 := by rw [hat]
    have e1 : (r.getD t R_iii.z).a1 = W.getD t 0 / 4 := by rw [hat]
    have e2 : (r.getD t R_iii.z).a2 = T.getD t 0 := by rw [hat]
    by_cases hk : W.getD t 0 % 4 = 0 ∧ W.getD t 0 / 4 = n ∧ (K = 1 ∨ K = 2) ∧ 0 ≤ M ∧ M ≤ 63 ∧ 0 ≤ I
    · obtain ⟨k1, k2, k3, k4, k5, k6⟩ := hk
      refine .inr ⟨W.set t (4 * M + K), T.set t (IntKind.i64.wrap (T.getD t 0 + 1)), ?_, ?_, ?_⟩
      · unfold orec_Table_Take
        rw [hw, if_pos (by omega), Option.bind_some]
        simp only [Int.toNat_natCast]
        repeat' (first | with_reducible rfl | (exfalso; omega) | exact absurd trivial (by assumption) | refine ite_eq (fun _ => ?_) (fun _ => ?_) | rfl)
      · unfold ref03_Take
        simp only [Int.toNat_natCast, e0, e1]
        repeat' (first | with_reducible rfl | (exfalso; omega) | exact absurd trivial (by assumption) | refine ite_eq (fun _ => ?_) (fun _ => ?_) | rfl)
      · simp only [Int.toNat_natCast, e2]
        rw [w64 (by omega) (by omega)]
        refine h.put (by omega) ht ⟨by omega, by omega, by omega, by omega⟩ ⟨by omega, by omega⟩ ?_
        rw [show (4 * M + K) % 4 = K by omega, show (4 * M + K) / 4 = M by omega]
    · refine no ?_ ?_
      · unfold orec_Table_Take
        rw [hw]
        by_cases hv : 0 ≤ n ∧ n ≤ 2199023255552
        · rw [if_pos hv, Option.bind_some]
          simp only [Int.toNat_natCast]
          repeat' (first | with_reducible rfl | (exfalso; omega) | exact absurd trivial (by assumption) | refine ite_eq (fun _ => ?_) (fun _ => ?_) | rfl)
        rw [if_neg hv, Option.bind_some]
        simp only [Int.toNat_natCast]
        repeat' (first | with_reducible rfl | (exfalso; omega) | exact absurd trivial (by assumption) | refine ite_eq (fun _ => ?_) (fun _ => ?_) | rfl)
      · unfold ref03_Take
        simp only [Int.toNat_natCast, e0, e1]
        repeat' (first | with_reducible rfl | (exfalso; omega) | exact absurd trivial (by assumption) | refine ite_eq (fun _ => ?_) (fun _ => ?_) | rfl)
  · refine no ?_ ?_
    · unfold orec_Table_Take
      rw [hw]
      by_cases hv : 0 ≤ n ∧ n ≤ 2199023255552
      · rw [if_pos hv, Option.bind_some]
        dsimp only
        repeat' (first | with_reducible rfl | (exfalso; omega) | exact absurd trivial (by assumption) | refine ite_eq (fun _ => ?_) (fun _ => ?_) | rfl)
      rw [if_neg hv, Option.bind_some]
      dsimp only
      repeat' (first | with_reducible rfl | (exfalso; omega) | exact absurd trivial (by assumption) | refine ite_eq (fun _ => ?_) (fun _ => ?_) | rfl)
    · unfold ref03_Take
      repeat' (first | with_reducible rfl | (exfalso; omega) | exact absurd trivial (by assumption) | refine ite_eq (fun _ => ?_) (fun _ => ?_) | rfl)
theorem let_ok {i : Nat} {W T : List Int} {r : List R_iii} (h : Rel i W T r) (a n : Int) (N : Nat) :
    (∃ e, orec_Table_Let a n W T N = some (.r0 W e) ∧ ref03_Let r a n N = some (.r0 e)) ∨
    (∃ W', orec_Table_Let a n W T N = some (.r0 W' 0) ∧ ref03_Let r a n N = some .r1 ∧ Rel i W' T (r.set a.toNat ⟨0, n, (r.getD a.toNat R_iii.z).a2⟩)) := by
  have hn1 := h.n1
  have hn2 := h.n2
  have hl := h.lT
  have hr := h.lr
  have hw := word0 n N
  by_cases h0 : 0 ≤ a ∧ a < (W.length : Int)
  · obtain ⟨t, rfl⟩ := Int.eq_ofNat_of_zero_le h0.1
    have ht : t < W.length := by omega
    have hA := at_in h ht N
    have hat := h.at_ t ht
    unfold cell at hat
    have hc := h.c t ht
    obtain ⟨o1, o2, o3, o4⟩ := h.ok t ht
    have e0 : (r.getD t R_iii.z).a0 = W.getD t 0 % 4 := by rw [hat]
    have e2 : (r.getD t R_iii.z).a2 = T.getD t 0 := by rw [hat]
    by_cases hv : 0 ≤ n ∧ n ≤ 2199023255552
    · by_cases hk : W.getD t 0 % 4 = 0
      · refine .inl ⟨30, ?_, ?_⟩
        · unfold orec_Table_Let
          rw [if_pos (by omega), if_pos (by omega), if_pos (by omega), hw, if_pos hv, Option.bind_some]
          simp only []
          rw [if_neg (by simp), hA, Option.bind_some]
          simp only []
          rw [if_pos (by omega)]
        · unfold ref03_Let
          simp only [Int.toNat_natCast, e0]
          repeat' (first | with_reducible rfl | (exfalso; omega) | exact absurd trivial (by assumption) | refine ite_eq (fun _ => ?_) (fun _ => ?_) | rfl)
      · refine .inr ⟨W.set t (4 * n), ?_, ?_, ?_⟩
        · unfold orec_Table_Let
          rw [if_pos (by omega), if_pos (by omega), if_pos (by omega), hw, if_pos hv, Option.bind_some]
          simp only []
          rw [if_neg (by simp), hA, Option.bind_some]
          simp only []
          rw [if_neg (by omega), Int.toNat_natCast]
        · unfold ref03_Let
          simp only [Int.toNat_natCast, e0, e2]
          repeat' (first | with_reducible rfl | (exfalso; omega) | exact absurd trivial (by assumption) | refine ite_eq (fun _ => ?_) (fun _ => ?_) | rfl)
        · simp only [Int.toNat_natCast, e2]
          have := h.put (Nat.le_refl i) ht (w := 4 * n) (c := T.getD t 0) (x := ⟨0, n, T.getD t 0⟩) ⟨by omega, by omega, by omega, by omega⟩ hc (by rw [show 4 * n % 4 = 0 by omega, show 4 * n / 4 = n by omega])
          rw [set_self (by omega)] at this
          exact this
    · refine .inl ⟨30, ?_, ?_⟩
      · unfold orec_Table_Let
        rw [if_pos (by omega), if_pos (by omega), if_pos (by omega), hw, if_neg hv, Option.bind_some]
        rfl
      · unfold ref03_Let
        simp only [Int.toNat_natCast, e0]
        repeat' (first | with_reducible rfl | (exfalso; omega) | exact absurd trivial (by assumption) | refine ite_eq (fun _ => ?_) (fun _ => ?_) | rfl)
  · refine .inl ⟨5, ?_, ?_⟩
    · unfold orec_Table_Let
      repeat' (first | with_reducible rfl | (exfalso; omega) | exact absurd trivial (by assumption) | refine ite_eq (fun _ => ?_) (fun _ => ?_) | rfl)
    · unfold ref03_Let
      repeat' (first | with_reducible rfl | (exfalso; omega) | exact absurd trivial (by assumption) | refine ite_eq (fun _ => ?_) (fun _ => ?_) | rfl)
theorem of_go1 {i : Nat} {W T : List Int} {r : List R_iii} (h : Rel i W T r) (n : Int) (N : Nat) : ∀ (k v fu : Nat) (l : List Int), v + k = W.length → l.length ≤ v → k < fu →
    ∃ l', l'.length ≤ W.length ∧ iter (orec_Table_OfStep n W T N) fu (.h1m1 l W.length v) = some (.r1 l') ∧ iter (ref03_OfStep r n N) fu (.h1m1 l v) = some (.r1 l')
  | 0, v, fu + 1, l, hv, hl, _ => ⟨l, by omega, iter_done (by simp only [orec_Table_OfStep, orec_Table_Of_h1m0, orec_Table_Of_h1m1]; rw [if_neg (by omega)]), iter_done (by have := h.lr; simp only [ref03_OfStep, ref03_Of_h1m0, ref03_Of_h1m1]; rw [if_neg (by omega)])⟩
  | k + 1, v, fu + 1, l, hv, hl, hf => by
    have hr := h.lr
    have hn := h.n2
    have hA := at_in h (t := v) (by omega) N
    by_cases h1 : (r.getD v R_iii.z).a0 = 0
    · obtain ⟨l', q1, q2, q3⟩ := of_go1 h n N k (v + 1) fu l (by omega) (by omega) (by omega)
      refine ⟨l', q1, ?_, ?_⟩
      · rw [iter_next (y := .h1m1 l W.length (v + 1)) ?_]
        · exact q2
        · simp only [orec_Table_OfStep, orec_Table_Of_h1m0, orec_Table_Of_h1m1]
          rw [if_pos (by omega), hA, Option.bind_some]
          simp only []
          rw [if_neg (by simpa using h1), if_pos (by omega)]
      · rw [iter_next (y := .h1m1 l (v + 1)) ?_]
        · exact q3
        · simp only [ref03_OfStep, ref03_Of_h1m0, ref03_Of_h1m1]
          rw [if_pos (by omega), if_neg (by simpa using h1), if_pos (by omega)]
    · by_cases h2 : (r.getD v R_iii.z).a1 = n
      · obtain ⟨l', q1, q2, q3⟩ := of_go1 h n N k (v + 1) fu (l ++ [(v : Int)]) (by omega) (by simp; omega) (by omega)
        refine ⟨l', q1, ?_, ?_⟩
        · rw [iter_next (y := .h1m1 (l ++ [(v : Int)]) W.length (v + 1)) ?_]
          · exact q2
          · simp only [orec_Table_OfStep, orec_Table_Of_h1m0, orec_Table_Of_h1m1]
            rw [if_pos (by omega), hA, Option.bind_some]
            simp only []
            rw [if_pos h1, if_pos h2, if_pos (by omega), if_pos (by omega)]
        · rw [iter_next (y := .h1m1 (l ++ [(v : Int)]) (v + 1)) ?_]
          · exact q3
          · simp only [ref03_OfStep, ref03_Of_h1m0, ref03_Of_h1m1]
            rw [if_pos (by omega), if_pos h1, if_pos h2, if_pos (by omega), if_pos (by omega)]
      · obtain ⟨l', q1, q2, q3⟩ := of_go1 h n N k (v + 1) fu l (by omega) (by omega) (by omega)
        refine ⟨l', q1, ?_, ?_⟩
        · rw [iter_next (y := .h1m1 l W.length (v + 1)) ?_]
          · exact q2
          · simp only [orec_Table_OfStep, orec_Table_Of_h1m0, orec_Table_Of_h1m1]
            rw [if_pos (by omega), hA, Option.bind_some]
            simp only []
            rw [if_pos h1, if_neg h2, if_pos (by omega)]
        · rw [iter_next (y := .h1m1 l (v + 1)) ?_]
          · exact q3
          · simp only [ref03_OfStep, ref03_Of_h1m0, ref03_Of_h1m1]
            rw [if_pos (by omega), if_pos h1, if_neg h2, if_pos (by omega)]
theorem of_go0 {i : Nat} {W T : List Int} {r : List R_iii} (h : Rel i W T r) (n : Int) (N : Nat) : ∀ (k v fu : Nat), v + k = W.length → k < fu →
    (iter (orec_Table_OfStep n W T N) fu (.h1m0 W.length v) = some .r0 ∧ iter (ref03_OfStep r n N) fu (.h1m0 v) = some .r0) ∨
    ∃ l', l'.length ≤ W.length ∧ iter (orec_Table_OfStep n W T N) fu (.h1m0 W.length v) = some (.r1 l') ∧ iter (ref03_OfStep r n N) fu (.h1m0 v) = some (.r1 l')
  | 0, v, fu + 1, hv, _ => .inl ⟨iter_done (by simp only [orec_Table_OfStep, orec_Table_Of_h1m0, orec_Table_Of_h1m1]; rw [if_neg (by omega)]), iter_done (by have := h.lr; simp only [ref03_OfStep, ref03_Of_h1m0, ref03_Of_h1m1]; rw [if_neg (by omega)])⟩
  | k + 1, v, fu + 1, hv, hf => by
    have hr := h.lr
    have hn := h.n2
    have hA := at_in h (t := v) (by omega) N
    by_cases h2 : (r.getD v R_iii.z).a0 ≠ 0 ∧ (r.getD v R_iii.z).a1 = n
    · obtain ⟨l', q1, q2, q3⟩ := of_go1 h n N k (v + 1) fu [(v : Int)] (by omega) (by simp) (by omega)
      refine .inr ⟨l', q1, ?_, ?_⟩
      · rw [iter_next (y := .h1m1 [(v : Int)] W.length (v + 1)) ?_]
        · exact q2
        · simp only [orec_Table_OfStep, orec_Table_Of_h1m0, orec_Table_Of_h1m1]
          rw [if_pos (by omega), hA, Option.bind_some]
          simp only []
          rw [if_pos h2.1, if_pos h2.2, if_pos (by omega)]
      · rw [iter_next (y := .h1m1 [(v : Int)] (v + 1)) ?_]
        · exact q3
        · simp only [ref03_OfStep, ref03_Of_h1m0, ref03_Of_h1m1]
          rw [if_pos (by omega), if_pos h2.1, if_pos h2.2, if_pos (by omega)]
    · have e1 : orec_Table_OfStep n W T N (.h1m0 W.length v) = some (.inl (.h1m0 W.length (v + 1))) := by
        simp only [orec_Table_OfStep, orec_Table_Of_h1m0, orec_Table_Of_h1m1]
        rw [if_pos (by omega), hA, Option.bind_some]
        simp only []
        repeat' (first | with_reducible rfl | (exfalso; omega) | exact absurd trivial (by assumption) | refine ite_eq (fun _ => ?_) (fun _ => ?_) | rfl)
      have e2 : ref03_OfStep r n N (.h1m0 v) = some (.inl (.h1m0 (v + 1))) := by
        simp only [ref03_OfStep, ref03_Of_h1m0, ref03_Of_h1m1]
        repeat' (first | with_reducible rfl | (exfalso; omega) | exact absurd trivial (by assumption) | refine ite_eq (fun _ => ?_) (fun _ => ?_) | rfl)
      rw [iter_next e1, iter_next e2]
      exact of_go0 h n N k (v + 1) fu (by omega) (by omega)
theorem of_ok {i : Nat} {W T : List Int} {r : List R_iii} (h : Rel i W T r) (n : Int) {N : Nat} (hN : 2000 ≤ N) :
    (orec_Table_Of n W T N = some .r0 ∧ ref03_Of r n N = some .r0) ∨ ∃ l, l.length ≤ 1024 ∧ orec_Table_Of n W T N = some (.r1 l) ∧ ref03_Of r n N = some (.r1 l) := by
  have hn1 := h.n1
  have hn2 := h.n2
  unfold orec_Table_Of ref03_Of
  rw [goM_in (x := .h1m0 W.length 0) (by unfold orec_Table_OfIn; rw [if_pos (by omega)]), goM_in (o := ref03_OfIn r n N) (x := .h1m0 0) rfl]
  rcases of_go0 h n N W.length 0 N (by omega) (by omega) with h | ⟨l, h1, h2, h3⟩
  · exact .inl h
  · exact .inr ⟨l, by omega, h2, h3⟩
theorem index_ok {i : Nat} {W T : List Int} {r : List R_iii} (h : Rel i W T r) (K M : Int) (hM : M ≤ 9223372036854775807) (N : Nat) : ∃ x, orec_Table_Index K M W T N = some (.r0 x) ∧ ref03_Index r K M N = some (.r0 x) := by
  have hn1 := h.n1
  have hr := h.lr
  by_cases hK : K = 2
  · by_cases hg : 1048576 ≤ M ∧ M / 1048576 ≤ 1073741824 ∧ 1 ≤ M % 1048576
    · refine ⟨Int.tmod (M % 1048576) (W.length : Int), ?_, ?_⟩
      · unfold orec_Table_Index value_Addr value_fits
        rw [if_pos (by omega), if_neg (by omega), if_pos (by omega), if_pos (by omega), if_pos (by omega), if_pos (by omega), if_pos (by omega), if_pos (by omega)]
        rfl
      · unfold ref03_Index ref01_Is
        rw [if_neg (by omega), if_pos hK, if_neg (by omega), if_pos hK, if_neg (by omega), if_pos (by omega), if_pos (by omega), if_pos (by omega), if_pos (by omega), Option.bind_some]
        simp only []
        rw [if_neg (by simp), hr, Int.tmod_eq_emod_of_nonneg (a := M) (b := 1048576) (by omega)]
    · by_cases hz : M = 0
      · refine ⟨Int.tmod 0 (W.length : Int), ?_, ?_⟩
        · unfold orec_Table_Index value_Addr
          rw [if_pos (by omega), if_neg (by omega), if_neg (by omega)]
          rfl
        · unfold ref03_Index ref01_Is
          rw [if_neg (by omega), if_pos hK, if_neg (by omega), if_pos hK, if_pos hz, Option.bind_some]
          simp only []
          rw [if_neg (by simp), hr, hz]
          rfl
      · refine ⟨Int.tmod 0 (W.length : Int), ?_, ?_⟩
        · unfold orec_Table_Index
          rw [if_pos (by omega)]
          have : value_Addr K M N = some (.r0 0) := by
            unfold value_Addr
            rw [if_neg (by omega)]
            by_cases h1 : 0 < M
            · rw [if_pos h1, if_pos (by omega)]
              have : value_fits (M / 1048576) (M % 1048576) N = some (.r0 false) := by
                unfold value_fits
                repeat' (first | with_reducible rfl | (exfalso; omega) | exact absurd trivial (by assumption) | refine ite_eq (fun _ => ?_) (fun _ => ?_) | rfl)
              rw [this]
              rfl
            · rw [if_neg h1]
          rw [this]
          rfl
        · have : ref01_Is K M N = some (.r0 false) := by
            unfold ref01_Is
            repeat' (first | with_reducible rfl | (exfalso; omega) | exact absurd trivial (by assumption) | refine ite_eq (fun _ => ?_) (fun _ => ?_) | rfl)
          unfold ref03_Index
          rw [if_neg (by omega), if_pos hK, this, Option.bind_some]
          simp only []
          rw [if_pos (by simp), hr]
  · refine ⟨Int.tmod 0 (W.length : Int), ?_, ?_⟩
    · unfold orec_Table_Index value_Addr
      rw [if_pos (by omega), if_pos (by omega)]
      rfl
    · unfold ref03_Index
      rw [if_neg (by omega), if_neg hK, hr]
/-- A copy of which the first i stand. -/
def cp (W : List Int) (n i : Nat) : List Int := W.take i ++ List.replicate (n - i) 0
theorem cp_len {W : List Int} {n i : Nat} (h : W.length = n) (hi : i ≤ n) : (cp W n i).length = n := by simp [cp]; omega
theorem cp_set {W : List Int} {n i : Nat} (h : W.length = n) (hi : i < n) : (cp W n i).set i (W.getD i 0) = cp W n (i + 1) := by
  unfold cp
  rw [List.set_append_right _ _ (by simp; omega), List.length_take, Nat.min_eq_left (by omega), Nat.sub_self, show n - i = (n - (i + 1)) + 1 by omega, List.replicate_succ, List.set_cons_zero, ← List.singleton_append, ← List.append_assoc, take_snoc (by omega)]
theorem fork_go {i : Nat} {W T : List Int} {r : List R_iii} (h : Rel i W T r) (N : Nat) : ∀ (k v fu : Nat), v + k = W.length → k < fu → iter (orec_Table_ForkStep W T N) fu (.h1m0 v (cp W W.length v) (cp T W.length v)) = some (.r1 W T)
  | 0, v, fu + 1, hv, _ => iter_done (by
      have := h.lT
      simp only [orec_Table_ForkStep, orec_Table_Fork_h1m0]
      rw [if_neg (by omega)]
      unfold cp
      rw [show W.length - v = 0 by omega, List.take_of_length_le (by omega), List.take_of_length_le (by omega)]
      simp)
  | k + 1, v, fu + 1, hv, hf => by
    have hl := h.lT
    have hn := h.n2
    have c1 := cp_len (W := W) (n := W.length) (i := v) rfl (by omega)
    have c2 := cp_len (W := T) (n := W.length) (i := v) hl (by omega)
    rw [iter_next (y := .h1m0 (v + 1) (cp W W.length (v + 1)) (cp T W.length (v + 1))) ?_]
    · exact fork_go h N k (v + 1) fu (by omega) (by omega)
    · simp only [orec_Table_ForkStep, orec_Table_Fork_h1m0]
      rw [if_pos (by omega), if_pos (by omega), if_pos (by omega), if_pos (by omega), if_pos (by omega), cp_set rfl (by omega), cp_set hl (by omega)]
theorem fork_ok {i : Nat} {W T : List Int} {r : List R_iii} (h : Rel i W T r) {N : Nat} (hN : 2000 ≤ N) : orec_Table_Fork W T N = some (.r1 W T) := by
  have hn1 := h.n1
  have hn2 := h.n2
  unfold orec_Table_Fork
  rw [goM_in (x := .h1m0 0 (cp W W.length 0) (cp T W.length 0)) ?_]
  · exact fork_go h N W.length 0 N (by omega) (by omega)
  · unfold orec_Table_ForkIn
    rw [if_pos (by omega)]
    have : orec_New (W.length : Int) N = some .r1 := by
      unfold orec_New
      rw [if_neg (by omega), if_neg (by omega)]
    rw [this, Option.bind_some]
    simp [cp]
set_option maxRecDepth 200000 in
/-- A round's first half. -/
theorem round {size : Int} {L : List R_iiiiiiii} {c N : Nat} (hN : 2000 ≤ N) (hL : ∀ i, (L.getD i R_iiiiiiii.z).a7 ≤ 9223372036854775807) {i : Nat} {W T : List Int} {r : List R_iii} (h : Rel i W T r) (hi : i < L.length) (h6 : i < 60) :
    ∃ W' T' r', Rel (i + 1) W' T' r' ∧ law03_OrecRunsStep size L c N (.h1m1 i W T r) = some (.inl (.h2m1 i r' W' T' r')) := by
  have hL := hL i
  show ∃ W' T' r', _ ∧ law03_OrecRuns_h1m1 size L c N i W T r = _
  unfold law03_OrecRuns_h1m1
  rw [if_pos (by omega), if_pos (by omega)]
  have done : ∀ {W' T' : List Int} {r' : List R_iii}, Rel (i + 1) W' T' r' → orec_Table_All W' T' N = some (.r1 r') := fun h => all_eq h hN
  by_cases k1 : (L.getD i R_iiiiiiii.z).a0 = 1
  · rw [if_pos k1]
    rcases take_ok h (by omega) (L.getD i R_iiiiiiii.z).a1 (L.getD i R_iiiiiiii.z).a2 (L.getD i R_iiiiiiii.z).a3 (L.getD i R_iiiiiiii.z).a4 (L.getD i R_iiiiiiii.z).a5 N with ⟨W', T', h1, h2, h3⟩ | ⟨W', T', h1, h2, h3⟩
    · refine ⟨W', T', r, h3.up (by omega), ?_⟩
      exact bind_to h1 (bind_to h2 (ite_no (by simp) (bind_to (done (h3.up (by omega))) rfl)))
    · refine ⟨W', T', _, h3, ?_⟩
      exact bind_to h1 (bind_to h2 (ite_no (by simp) (bind_to (done h3) rfl)))
  rw [if_neg k1]
  by_cases k2 : (L.getD i R_iiiiiiii.z).a0 = 2
  · rw [if_pos k2]
    rcases let_ok h (L.getD i R_iiiiiiii.z).a1 (L.getD i R_iiiiiiii.z).a2 N with ⟨e, h1, h2⟩ | ⟨W', h1, h2, h3⟩
    · refine ⟨W, T, r, h.up (by omega), ?_⟩
      exact bind_to h1 (bind_to h2 (ite_no (by simp) (bind_to (done (h.up (by omega))) rfl)))
    · refine ⟨W', T, _, h3.up (by omega), ?_⟩
      exact bind_to h1 (bind_to h2 (ite_no (by simp) (bind_to (done (h3.up (by omega))) rfl)))
  rw [if_neg k2]
  by_cases k3 : (L.getD i R_iiiiiiii.z).a0 = 3
  · rw [if_pos k3]
    obtain ⟨x, y, z, h1, h2⟩ := at_same h (L.getD i R_iiiiiiii.z).a1 N
    refine ⟨W, T, r, h.up (by omega), ?_⟩
    exact bind_to h1 (bind_to h2 (ite_no (by simp) (bind_to (done (h.up (by omega))) rfl)))
  rw [if_neg k3]
  by_cases k4 : (L.getD i R_iiiiiiii.z).a0 = 4
  · rw [if_pos k4]
    refine ⟨W, T, r, h.up (by omega), ?_⟩
    rcases of_ok h (L.getD i R_iiiiiiii.z).a2 hN with ⟨h1, h2⟩ | ⟨l, hl, h1, h2⟩
    · exact bind_to h1 (bind_to h2 (bind_to (same_none hN) (bind_to (done (h.up (by omega))) rfl)))
    · exact bind_to h1 (bind_to h2 (bind_to (same_ints l hl hN) (ite_no (by simp) (bind_to (done (h.up (by omega))) rfl))))
  rw [if_neg k4]
  by_cases k5 : (L.getD i R_iiiiiiii.z).a0 = 5
  · rw [if_pos k5]
    obtain ⟨x, h1, h2⟩ := index_ok h (L.getD i R_iiiiiiii.z).a6 (L.getD i R_iiiiiiii.z).a7 hL N
    refine ⟨W, T, r, h.up (by omega), ?_⟩
    exact bind_to h1 (bind_to h2 (ite_no (by simp) (bind_to (done (h.up (by omega))) rfl)))
  rw [if_neg k5]
  by_cases k6 : (L.getD i R_iiiiiiii.z).a0 = 6
  · rw [if_pos k6]
    refine ⟨W, T, r, h.up (by omega), ?_⟩
    obtain ⟨x, y, z, h1, h2⟩ := at_same h 0 N
    rcases take_ok h (by omega) 0 y 1 9 0 N with ⟨W', T', h3, _, _⟩ | ⟨W', T', h3, _, _⟩
    · exact bind_to (fork_ok h hN) (bind_to h1 (bind_to h3 (bind_to (done (h.up (by omega))) rfl)))
    · exact bind_to (fork_ok h hN) (bind_to h1 (bind_to h3 (bind_to (done (h.up (by omega))) rfl)))
  rw [if_neg k6]
  refine ⟨W, T, r, h.up (by omega), ?_⟩
  exact bind_to (done (h.up (by omega))) rfl
theorem fill {size : Int} {L : List R_iiiiiiii} {c N : Nat} {i : Nat} {W T : List Int} {r : List R_iii} : ∀ (k v fu : Nat) (x : List R_iii), v + k = x.length → x.length ≤ 1024 → i < 60 →
    iter (law03_OrecRunsStep size L c N) (fu + (k + 1)) (.h3m1 i x v W T r) = iter (law03_OrecRunsStep size L c N) fu (.h1m1 (i + 1) W T r)
  | 0, v, fu, x, hv, hx, hi => by
    rw [iter_next (y := .h1m1 (i + 1) W T r) (by show law03_OrecRuns_h3m1 size L c N i x v W T r = _; unfold law03_OrecRuns_h3m1; rw [if_neg (by omega), if_pos (by omega)])]
  | k + 1, v, fu, x, hv, hx, hi => by
    rw [show fu + (k + 1 + 1) = (fu + (k + 1)) + 1 by omega, iter_next (y := .h3m1 i (x.set v ⟨(x.getD v R_iii.z).a0, 99, (x.getD v R_iii.z).a2⟩) (v + 1) W T r) (by show law03_OrecRuns_h3m1 size L c N i x v W T r = _; unfold law03_OrecRuns_h3m1; rw [if_pos (by omega), if_pos (by omega)])]
    exact fill k (v + 1) fu _ (by simp; omega) (by simp; exact hx) hi
theorem go {size : Int} {L : List R_iiiiiiii} {c N : Nat} (hN : 2000 ≤ N) (hL : ∀ i, (L.getD i R_iiiiiiii.z).a7 ≤ 9223372036854775807) : ∀ (k i fu : Nat) (W T : List Int) (r : List R_iii), i + k = 60 → Rel i W T r → 1100 * k + 1 ≤ fu →
    iter (law03_OrecRunsStep size L c N) fu (.h1m1 i W T r) = some (.r0 true)
  | 0, i, fu + 1, W, T, r, hi, h, _ => iter_done (by
      show law03_OrecRuns_h1m1 size L c N i W T r = _; unfold law03_OrecRuns_h1m1
      split
      · rw [if_neg (by omega)]
      · rfl)
  | k + 1, i, fu + 1, W, T, r, hi, h, hf => by
    by_cases hl : i < L.length
    · obtain ⟨W', T', r', h', hs⟩ := round (size := size) (c := c) hN hL h hl (by omega)
      have hn1 := h'.n1
      have hn2 := h'.n2
      have hr := h'.lr
      rw [iter_next hs]
      obtain ⟨f2, rfl⟩ : ∃ m, fu = (m + (r'.length + 1)) + 1 := ⟨fu - (r'.length + 2), by omega⟩
      rw [iter_next (y := .h3m1 i r' 0 W' T' r') ?_]
      · rw [fill r'.length 0 f2 r' (by omega) (by omega) (by omega)]
        exact go hN hL k (i + 1) f2 W' T' r' (by omega) h' (by omega)
      · show law03_OrecRuns_h2m1 size L c N i r' W' T' r' = _; unfold law03_OrecRuns_h2m1
        rw [same_all r' (by omega) hN, Option.bind_some]
        simp only []
        rw [if_neg (by simp), if_pos (by omega), if_neg (by omega)]
    · exact iter_done (by show law03_OrecRuns_h1m1 size L c N i W T r = _; unfold law03_OrecRuns_h1m1; rw [if_neg (by omega)])
theorem new_ok (size : Int) (N : Nat) : (orec_New size N = some .r0 ∧ ref03_New size N = some .r0) ∨ (1 ≤ size ∧ size ≤ 1024 ∧ orec_New size N = some .r1 ∧ ref03_New size N = some .r1) := by
  by_cases h : 1 ≤ size ∧ size ≤ 1024
  · exact .inr ⟨h.1, h.2, by unfold orec_New; rw [if_neg (by omega), if_neg (by omega)], by unfold ref03_New; rw [if_neg (by omega), if_neg (by omega)]⟩
  · refine .inl ⟨?_, ?_⟩
    · unfold orec_New; repeat' (first | with_reducible rfl | (exfalso; omega) | exact absurd trivial (by assumption) | refine ite_eq (fun _ => ?_) (fun _ => ?_) | rfl)
    · unfold ref03_New; repeat' (first | with_reducible rfl | (exfalso; omega) | exact absurd trivial (by assumption) | refine ite_eq (fun _ => ?_) (fun _ => ?_) | rfl)
theorem start (size : Int) (h1 : 1 ≤ size) (h2 : size ≤ 1024) : Rel 0 (List.replicate size.toNat 0) (List.replicate size.toNat 0) (List.replicate size.toNat ⟨0, 0, 0⟩) := by
  refine ⟨by simp; omega, by simp; omega, by simp, by simp, fun t ht => ?_, fun t ht => ?_, fun t ht => ?_⟩
  all_goals simp only [List.length_replicate] at ht
  · unfold cell; rw [getD_rep ht, getD_rep ht]; simp
  · rw [getD_rep ht]; exact ⟨by decide, by decide, by decide, by decide⟩
  · rw [getD_rep ht]; decide
theorem runs (size : Int) (L : List R_iiiiiiii) (c : Nat) (hL : ∀ i, (L.getD i R_iiiiiiii.z).a7 ≤ 9223372036854775807) : law03_OrecRuns size L c 70000 = some (.r0 true) := by
  unfold law03_OrecRuns
  rcases new_ok size 70000 with ⟨h1, h2⟩ | ⟨h0, h3, h1, h2⟩
  · rw [goM_in (x := .h1m0) (by unfold law03_OrecRunsIn; rw [h1, h2]; rfl)]
    refine iter_done (n := 69999) ?_
    rfl
  · rw [goM_in (by unfold law03_OrecRunsIn; rw [h1, h2]; rfl)]
    exact go (by decide) hL 60 0 70000 _ _ _ rfl (start size h0 h3) (by decide)
theorem runs2 (size : Int) : law03_OrecRuns_2 size 70000 = some (.r0 true) := by
  unfold law03_OrecRuns_2
  rcases new_ok size 70000 with ⟨h1, h2⟩ | ⟨h0, h3, h1, h2⟩
  · rw [goM_in (x := .h1m0) (by unfold law03_OrecRuns_2In; rw [h1, h2]; rfl)]
    exact iter_done (n := 69999) rfl
  · rw [goM_in (x := .h1m1) (by unfold law03_OrecRuns_2In; rw [h1, h2]; rfl)]
    exact iter_done (n := 69999) rfl
end Ox
end Ev
end Go.Proofs.Ytlcamddglkfblaa
