/- CheckJoins: two programs one behind the other. -/
import Derived.Test.YtpgbennpiihajaaKjo
namespace Go.Proofs.Ytpgbennpiihajaa
open Go.RowKit
namespace Ev
set_option linter.unusedVariables false
set_option linter.unusedSimpArgs false

theorem ZrA {L : List R_iiii} {n : Nat} : ∀ d k, fj L n d k = none → ∀ j, k ≤ j → j < k + d → ¬ Zhj L n j = true
 | 0, k, h, j, h1, h2 => by omega
 | d + 1, k, h, j, h1, h2 => by
  unfold fj at h
  by_cases hk : Zhj L n k = true
  ·rw [if_pos hk] at h; cases h
  ·rw [if_neg hk] at h
   by_cases e : j = k
   ·rw [e]; exact hk
   ·exact ZrA d (k + 1) h j (by omega) (by omega)
theorem ZmV {L : List R_iiii} {n N k : Nat} (hN : 4 ≤ N) (hc : Zbj L n N = 0) (hk : k < n) (h1 : decide ((L.getD k R_iiii.z).a0 = 8 ∨ (L.getD k R_iiii.z).a0 = 9) = true) : 0 ≤ tgt (L.getD k R_iiii.z) ∧ tgt (L.getD k R_iiii.z) ≤ n ∧ (brP (opn L (tgt (L.getD k R_iiii.z)).toNat)).a0 = (brP (opn L k)).a0 ∧ (brP (opn L (tgt (L.getD k R_iiii.z)).toNat)).a1 = (brP (opn L k)).a1 := by
 obtain ⟨f1, f2, f3, f4⟩ := Zfh hc
 have hb := ZrA n 0 f4 k (by omega) (by omega)
 rw [ZeF, h1, Bool.true_and] at hb
 unfold jb at hb
 simp only [Bool.or_eq_true, decide_eq_true_eq, Bool.not_eq_true', decide_eq_false_iff_not, not_or, Decidable.not_not] at hb
 obtain ⟨j1, j2⟩ := Zot hN f2 k hk
 exact ⟨j1, by omega, hb.2⟩

namespace Kj
def sh (n : Nat) (l : List R_ii) : List R_ii := l.map fun x => ⟨x.a0 + n, x.a1⟩
theorem ZmF (n : Nat) (l : List R_ii) : (sh n l).length = l.length := by simp [sh]
theorem ZtX {n : Nat} {l : List R_ii} {j : Nat} (h : j < l.length) : (sh n l).getD j R_ii.z = ⟨(l.getD j R_ii.z).a0 + n, (l.getD j R_ii.z).a1⟩ := by
 unfold sh
 rw [List.getD_eq_getElem?_getD, List.getD_eq_getElem?_getD, List.getElem?_map, List.getElem?_eq_getElem h]; rfl
theorem ZmW {n : Nat} {l : List R_ii} (h : 0 < l.length) : ZaJ (sh n l) = ⟨(ZaJ l).a0 + n, (ZaJ l).a1⟩ := by
 unfold ZaJ; rw [ZmF]; exact ZtX (by omega)
theorem Zte (n : Nat) (l : List R_ii) (op : Int) : ZcI (sh n l) op = ZcI l op := by
 unfold ZcI
 rw [ZmF]
 by_cases h0 : l.length = 0
 ·simp only [if_pos h0]
 ·rw [ZmW (by omega)]
theorem Ztf (n : Nat) (l : List R_ii) (op : Int) (k : Nat) : Zhm (sh n l) op (n + k) = sh n (Zhm l op k) := by
 unfold Zhm
 rw [ZmF]
 by_cases h15 : op = 15
 ·rw [if_pos h15, if_pos h15]
  by_cases h8 : 8 ≤ l.length
  ·rw [if_pos h8, if_pos h8]
  ·rw [if_neg h8, if_neg h8]
   unfold sh
   rw [List.map_append]
   have : ((n + k : Nat) : Int) = (k : Int) + (n : Int) := by omega
   rw [this]; rfl
 ·rw [if_neg h15, if_neg h15]
  by_cases h16 : op = 16
  ·rw [if_pos h16, if_pos h16]
   by_cases h0 : l.length = 0
   ·rw [if_pos h0, if_pos h0]
   ·rw [if_neg h0, if_neg h0, ZmW (by omega)]
    by_cases h1 : (ZaJ l).a1 = 1
    ·rw [if_pos h1, if_pos h1]
    ·rw [if_neg h1, if_neg h1]
     unfold sh
     rw [List.map_append, List.map_take]; rfl
  ·rw [if_neg h16, if_neg h16]
   by_cases h17 : op = 17
   ·rw [if_pos h17, if_pos h17]; unfold sh; rw [List.map_take]
   ·rw [if_neg h17, if_neg h17]
def mx (a b : Int) : Int := if b > a then b else a
def mv (n : Nat) (x : R_iiii) : R_iiii := ⟨x.a0, if x.a0 = 8 then x.a1 + n else x.a1, if x.a0 = 9 then x.a2 + n else x.a2, x.a3⟩
theorem ZtY (n : Nat) (x : R_iiii) (h : x.a0 = 8 ∨ x.a0 = 9) : tgt (mv n x) = tgt x + n := by
 unfold tgt mv
 by_cases h8 : x.a0 = 8
 ·simp only [if_pos h8]
 ·have h9 : x.a0 = 9 := h.resolve_left h8
  simp only [if_neg h8, if_pos h9]
theorem Zto {A : Int} {N : Nat} (h1 : 0 ≤ A) (h2 : A ≤ 512) : Zar 3 A 0 N = some (.r0 true) := by
 unfold Zar; rw [if_neg (by decide), if_neg (by decide), if_pos rfl, if_pos h1, if_pos h2]
theorem Zis {op A B C : Int} {N : Nat} {b : Bool} (h : ZaM op A B C N = some (.r0 b)) : Zcm ⟨op, A, B, C⟩ N = b := by
 unfold Zcm; rw [h]
theorem fine8 {A A' B C : Int} {N : Nat} (h : Zcm ⟨8, A, B, C⟩ N = true) (h1 : 0 ≤ A') (h2 : A' ≤ 512) : Zcm ⟨8, A', B, C⟩ N = true := by
 obtain ⟨b0, p0, q0, r0⟩ := ZpI A 0 0 N N
 obtain ⟨b1, p1, q1, r1, t1⟩ := Zb5 B A 0 N N
 obtain ⟨b2, p2, q2, r2, t2⟩ := Zb5 C B B N N
 have e := Zis (is3 (op := 8) (t0 := 3) (t1 := 0) (t2 := 0) rfl q0 (fun _ => q1) (fun _ _ => q2))
 rw [h] at e
 have e := e.symm
 rw [Bool.and_eq_true, Bool.and_eq_true] at e
 have e' := Zis (is3 (op := 8) (t0 := 3) (t1 := 0) (t2 := 0) rfl (Zto (N := N) h1 h2) (fun _ => q1) (fun _ _ => q2))
 rw [e', e.1.2, e.2]; rfl
theorem fine9 {A B B' C : Int} {N : Nat} (h : Zcm ⟨9, A, B, C⟩ N = true) (h1 : 0 ≤ B') (h2 : B' ≤ 512) : Zcm ⟨9, A, B', C⟩ N = true := by
 obtain ⟨b0, p0, q0⟩ := Zcl A 0 0 N N
 obtain ⟨b1, p1, q1, r1⟩ := ZpI B A 0 N N
 obtain ⟨b2, p2, q2, r2, t2⟩ := Zb5 C B B N N
 obtain ⟨b3, p3, q3, r3, t3⟩ := Zb5 C B' B' N N
 have e := Zis (is3 (op := 9) (t0 := 1) (t1 := 3) (t2 := 0) rfl q0 (fun _ => q1) (fun _ _ => q2))
 rw [h] at e
 have e := e.symm
 rw [Bool.and_eq_true, Bool.and_eq_true] at e
 have e' := Zis (is3 (op := 9) (t0 := 1) (t1 := 3) (t2 := 0) rfl q0 (fun _ => Zto (N := N) h1 h2) (fun _ _ => q3))
 rw [e', e.1.1, t3 (r2 e.2)]; rfl
theorem Zt8 {x : R_iiii} {n N : Nat} (h : Zcm x N = true) (ht : x.a0 = 8 ∨ x.a0 = 9 → 0 ≤ tgt x + n ∧ tgt x + n ≤ 512) : Zcm (mv n x) N = true := by
 obtain ⟨op, A, B, C⟩ := x
 by_cases h8 : op = 8
 ·subst h8
  have : mv n ⟨8, A, B, C⟩ = ⟨8, A + n, B, C⟩ := rfl
  rw [this]
  have := ht (.inl rfl)
  exact fine8 h this.1 this.2
 ·by_cases h9 : op = 9
  ·subst h9
   have : mv n ⟨9, A, B, C⟩ = ⟨9, A, B + n, C⟩ := rfl
   rw [this]
   have := ht (.inr rfl)
   exact fine9 h this.1 this.2
  ·have : mv n ⟨op, A, B, C⟩ = ⟨op, A, B, C⟩ := by unfold mv; simp only [if_neg h8, if_neg h9]
   rw [this]; exact h
theorem Zs8 {L : List R_iiii} {N : Nat} : ∀ d k, (∀ j, k ≤ j → j < k + d → okB L N j = true) → fb L N d k = none
 | 0, k, h => rfl
 | d + 1, k, h => by
  unfold fb
  rw [if_pos (h k (by omega) (by omega))]
  exact Zs8 d (k + 1) fun j h1 h2 => h j (by omega) (by omega)
theorem Zs9 {L : List R_iiii} {n : Nat} : ∀ d k, (∀ j, k ≤ j → j < k + d → ¬ Zhj L n j = true) → fj L n d k = none
 | 0, k, h => rfl
 | d + 1, k, h => by
  unfold fj
  rw [if_neg (h k (by omega) (by omega))]
  exact Zs9 d (k + 1) fun j h1 h2 => h j (by omega) (by omega)
theorem Ztp (L : List R_iiii) : ∀ k, 0 ≤ dpL L k
 | 0 => Int.le_refl 0
 | k + 1 => by
  have := Ztp L k
  unfold dpL dpk
  split
  ·split <;> omega
  ·exact this
section
variable {L M l : List R_iiii} {n m N : Nat} (hp : ∀ k, k < n → l.getD k R_iiii.z = L.getD k R_iiii.z) (hq : ∀ k, k < m → l.getD (n + k) R_iiii.z = mv n (M.getD k R_iiii.z))
include hp
theorem Zow : ∀ k, k ≤ n → opn l k = opn L k
 | 0, _ => rfl
 | k + 1, h => by rw [opn, opn, Zow k (by omega), hp k (by omega)]
theorem sk_p : ∀ k, k ≤ n → skL l k = skL L k ∧ (blL l k).length = (blL L k).length ∧ dpL l k = dpL L k
 | 0, _ => ⟨rfl, rfl, rfl⟩
 | k + 1, h => by
  obtain ⟨h1, h2, h3⟩ := sk_p k (by omega)
  refine ⟨by rw [skL, skL, h1, hp k (by omega)], ?_, by rw [dpL, dpL, h1, h3, hp k (by omega)]⟩
  rw [blL, blL, h1, hp k (by omega)]
  unfold blk
  split
  ·split
   ·rw [List.length_append, List.length_append, h2]
   ·exact h2
  ·exact h2
include hq
theorem Zox (h0 : opn L n = []) : ∀ k, k ≤ m → opn l (n + k) = sh n (opn M k)
 | 0, _ => by rw [Nat.add_zero, Zow hp n (by omega), h0]; rfl
 | k + 1, h => by
  show Zhm (opn l (n + k)) (l.getD (n + k) R_iiii.z).a0 (n + k) = _
  rw [Zox h0 k (by omega), hq k (by omega), opn]
  exact Ztf n (opn M k) _ k
theorem sk_q (h0 : (skL L n).length = 0) : ∀ k, k ≤ m → (skL l (n + k)).length = (skL M k).length ∧ (blL l (n + k)).length = (blL L n).length + (blL M k).length ∧ dpL l (n + k) = mx (dpL L n) (dpL M k)
 | 0, _ => by
  obtain ⟨h1, h2, h3⟩ := sk_p hp n (by omega)
  refine ⟨?_, ?_, ?_⟩
  ·rw [Nat.add_zero, h1, h0]; rfl
  ·rw [Nat.add_zero, h2]; rfl
  ·rw [Nat.add_zero, h3]
   have := Ztp L n
   unfold mx
   rw [if_neg (by show ¬ (0 : Int) > _; omega)]
 | k + 1, h => by
  obtain ⟨h1, h2, h3⟩ := sk_q h0 k (by omega)
  have ho : (l.getD (n + k) R_iiii.z).a0 = (M.getD k R_iiii.z).a0 := by rw [hq k (by omega)]; rfl
  refine ⟨?_, ?_, ?_⟩
  ·show (stk (skL l (n + k)) (l.getD (n + k) R_iiii.z).a0 (n + k)).length = (stk (skL M k) (M.getD k R_iiii.z).a0 k).length
   rw [ho]
   unfold stk
   split
   ·simp [h1]
   ·split
    ·simp [h1]
    ·split
     ·simp [h1]
     ·exact h1
  ·show (blk (blL l (n + k)) (skL l (n + k)) (l.getD (n + k) R_iiii.z).a0 (n + k)).length = _ + (blk (blL M k) (skL M k) (M.getD k R_iiii.z).a0 k).length
   rw [ho]
   unfold blk
   rw [h1]
   split
   ·split
    ·simp only [List.length_append, List.length_cons, List.length_nil]; omega
    ·exact h2
   ·exact h2
  ·show dpk (dpL l (n + k)) (skL l (n + k)) (l.getD (n + k) R_iiii.z).a0 = mx _ (dpk (dpL M k) (skL M k) (M.getD k R_iiii.z).a0)
   rw [ho]
   unfold dpk
   rw [h1, h3]
   split
   ·unfold mx
    repeat' split
    all_goals omega
   ·rfl
theorem ok_q (hN : 520 ≤ N) (hL : Zbj L n N = 0) (hM : Zbj M m N = 0) (hs : n + m ≤ 512) : ∀ k, k < n + m → okB l N k = true := by
 obtain ⟨f1, f2, f3, f4⟩ := Zfh hL
 obtain ⟨e1, e2, e3, e4⟩ := Zfh hM
 intro k hk
 by_cases h : k < n
 ·have := f2 k h
  unfold okB at this ⊢
  rw [Zow hp k (by omega), hp k h]; exact this
 ·obtain ⟨j, rfl⟩ : ∃ j, k = n + j := ⟨k - n, by omega⟩
  obtain ⟨o1, o2⟩ := ZhK (e2 j (by omega))
  unfold okB
  rw [Zox hp hq f3 j (by omega), hq j (by omega), Zte, Bool.and_eq_true]
  refine ⟨Zt8 o1 fun ht => ?_, o2⟩
  obtain ⟨t1, t2, -⟩ := ZmV (show 4 ≤ N by omega) hM (show j < m by omega) (decide_eq_true ht)
  omega
theorem ZtZ (hN : 520 ≤ N) (hL : Zbj L n N = 0) (hM : Zbj M m N = 0) : ∀ k, k < n + m → ¬ Zhj l (n + m) k = true := by
 obtain ⟨f1, f2, f3, f4⟩ := Zfh hL
 obtain ⟨e1, e2, e3, e4⟩ := Zfh hM
 intro k hk hb
 rw [ZeF, Bool.and_eq_true] at hb
 obtain ⟨b1, b2⟩ := hb
 unfold jb at b2
 by_cases h : k < n
 ·rw [hp k h] at b1 b2
  obtain ⟨t1, t2, t3, t4⟩ := ZmV (show 4 ≤ N by omega) hL h b1
  rw [Zow hp k (by omega), Zow hp (tgt (L.getD k R_iiii.z)).toNat (by omega), decide_eq_false (show ¬ ((n + m : Nat) : Int) < tgt (L.getD k R_iiii.z) by omega), t3, t4] at b2
  simp at b2
 ·obtain ⟨j, rfl⟩ : ∃ j, k = n + j := ⟨k - n, by omega⟩
  rw [hq j (by omega)] at b1 b2
  have hjo : (M.getD j R_iiii.z).a0 = 8 ∨ (M.getD j R_iiii.z).a0 = 9 := of_decide_eq_true b1
  obtain ⟨t1, t2, t3, t4⟩ := ZmV (show 4 ≤ N by omega) hM (show j < m by omega) (decide_eq_true hjo)
  rw [ZtY n _ hjo, Zox hp hq f3 j (by omega), show (tgt (M.getD j R_iiii.z) + (n : Int)).toNat = n + (tgt (M.getD j R_iiii.z)).toNat by omega, Zox hp hq f3 _ (by omega), decide_eq_false (show ¬ ((n + m : Nat) : Int) < tgt (M.getD j R_iiii.z) + (n : Int) by omega), Bool.false_or, Bool.not_eq_true', decide_eq_false_iff_not] at b2
  have nn : ∀ i, i ≤ m → ∀ q, q < (opn M i).length → 0 ≤ ((opn M i).getD q R_ii.z).a0 := fun i hi q hq' => by
   obtain ⟨r1, r2⟩ := inv i fun x hx => e2 x (by omega)
   obtain ⟨q1, -⟩ := r1.2 q hq'
   rw [← q1]
   exact (r2 q (by rw [r1.1]; exact hq')).1
  have key : ∀ a b : List R_ii, (∀ q, q < a.length → 0 ≤ (a.getD q R_ii.z).a0) → (∀ q, q < b.length → 0 ≤ (b.getD q R_ii.z).a0) → (brP a).a0 = (brP b).a0 → (brP a).a1 = (brP b).a1 → (brP (sh n a)).a0 = (brP (sh n b)).a0 ∧ (brP (sh n a)).a1 = (brP (sh n b)).a1 := by
   intro a b ha hb' h1 h2
   unfold brP at h1 h2 ⊢
   rw [ZmF, ZmF]
   by_cases ea : a.length = 0
   ·by_cases eb : b.length = 0
    ·rw [if_pos ea, if_pos eb]; exact ⟨rfl, rfl⟩
    ·rw [if_pos ea, if_neg eb] at h1
     have := hb' (b.length - 1) (by omega)
     unfold ZaJ at h1
     have h1 : (-1 : Int) = _ := h1
     omega
   ·by_cases eb : b.length = 0
    ·rw [if_neg ea, if_pos eb] at h1
     have := ha (a.length - 1) (by omega)
     unfold ZaJ at h1
     have h1 : _ = (-1 : Int) := h1
     omega
    ·rw [if_neg ea, if_neg eb] at h1 h2 ⊢
     rw [ZmW (by omega), ZmW (by omega)]
     exact ⟨by show _ + (n : Int) = _ + (n : Int); rw [h1], h2⟩
  exact b2 (key _ _ (nn _ (by omega)) (nn j (by omega)) t3 t4)
theorem Zt9 (hN : 520 ≤ N) (hL : Zbj L n N = 0) (hM : Zbj M m N = 0) (hs : n + m ≤ 512) : Zbj l (n + m) N = 0 := by
 obtain ⟨f1, f2, f3, f4⟩ := Zfh hL
 obtain ⟨e1, e2, e3, e4⟩ := Zfh hM
 unfold Zbj
 rw [if_neg (by omega)]
 unfold Zed
 rw [Zs8 _ _ fun j _ hj => ok_q hp hq hN hL hM hs j (by omega), Zox hp hq f3 m (by omega), e3]
 dsimp only
 rw [if_pos (by rfl), Zs9 _ _ fun j _ hj => ZtZ hp hq hN hL hM j (by omega)]
end
def lenB : ZaE → Nat
 | .r0 => 0
 | .r1 b => b.length
def lenB2 : Zav → Nat
 | .r0 => 0
 | .r1 b => b.length
section
variable {L : List R_iiii} {n c N : Nat}
theorem Zua (hn : n = L.length) (hL : n ≤ 512) (hN : 520 ≤ N) (hc : Zbj L n N = 0) : ZeE L N = some (.r0 (dpL L n)) ∧ ∃ r, ZdB L N = some r ∧ lenB r = (blL L n).length := by
 obtain ⟨r, h1, h2, h3, h4⟩ := Zpb hn hL hN
 obtain ⟨e0, e1, e2, e3⟩ := h4 hc
 obtain ⟨f1, f2, f3, f4⟩ := Zfh hc
 obtain ⟨g1, g2⟩ := Ziz f2 (by rw [f3]; rfl)
 rw [hc] at h3
 cases r with
 | r0 e => exact absurd (congrArg List.length e0) (by rw [g1]; show ¬ 0 = _; omega)
 | r1 w e => exact absurd (congrArg List.length e0) (by rw [g1]; show ¬ 0 = _; omega)
 | r2 s b m d dd w e =>
  have h3 : e = 0 := h3
  have e2 : d = _ := e2
  have e3 : dd = _ := e3
  subst e2 e3
  exact ⟨Z9 h1 (Zae (fun h => h h3) rfl), .r1 (blL L n), Z9 h1 (Zae (fun h => h h3) rfl), rfl⟩
 | r3 b m w e =>
  have e2 : [] = blL L n := e2
  have e3 : (0 : Int) = dpL L n := e3
  refine ⟨?_, .r0, Z9 h1 rfl, by rw [← e2]; rfl⟩
  rw [← e3]; exact Z9 h1 rfl
theorem ZsA (hn : n ≤ L.length) (hL : n ≤ 512) (hN : 520 ≤ N) (hc : Zbj L n N = 0) : Zdu L n c N = some (.r0 (dpL L n)) ∧ ∃ r, Zbq L n c N = some r ∧ lenB2 r = (blL L n).length := by
 obtain ⟨r, h1, h2, h3, h4⟩ := ZqN (c := c) hn hL hN
 obtain ⟨e0, e1, e2, e3⟩ := h4 hc
 obtain ⟨f1, f2, f3, f4⟩ := Zfh hc
 obtain ⟨g1, g2⟩ := Ziz f2 (by rw [f3]; rfl)
 rw [hc] at h3
 cases r with
 | r0 e => exact absurd (congrArg List.length e0) (by rw [g1]; show ¬ 0 = _; omega)
 | r1 w e => exact absurd (congrArg List.length e0) (by rw [g1]; show ¬ 0 = _; omega)
 | r2 s b m d dd w e =>
  have h3 : e = 0 := h3
  have e2 : d = _ := e2
  have e3 : dd = _ := e3
  subst e2 e3
  exact ⟨Z9 h1 (Zae (fun h => h h3) rfl), .r1 (blL L n), Z9 h1 (Zae (fun h => h h3) rfl), rfl⟩
 | r3 b m w e =>
  have e2 : [] = blL L n := e2
  have e3 : (0 : Int) = dpL L n := e3
  refine ⟨?_, .r0, Z9 h1 rfl, by rw [← e2]; rfl⟩
  rw [← e3]; exact Z9 h1 rfl
end
section
variable {L M : List R_iiii} {n0 c0 m0 b0 n c m b N : Nat}
def jn (L M : List R_iiii) (n k : Nat) : List R_iiii := L.take n ++ (List.range k).map fun i => mv n (M.getD i R_iiii.z)
theorem ZsB (hn : n ≤ L.length) (k : Nat) : (jn L M n k).length = n + k := by unfold jn; simp; omega
theorem ZtA (k : Nat) : jn L M n (k + 1) = jn L M n k ++ [mv n (M.getD k R_iiii.z)] := by
 unfold jn; rw [List.range_succ, List.map_append, ← List.append_assoc]; rfl
theorem jn_p (hn : n ≤ L.length) {k i : Nat} (h : i < n) : (jn L M n k).getD i R_iiii.z = L.getD i R_iiii.z := by
 unfold jn
 rw [Zdw (by simp; omega), ZhJ h]
theorem jn_q (hn : n ≤ L.length) {k i : Nat} (h : i < k) : (jn L M n k).getD (n + i) R_iiii.z = mv n (M.getD i R_iiii.z) := by
 unfold jn
 rw [List.getD_eq_getElem?_getD, List.getElem?_append_right (by simp; omega), List.length_take, Nat.min_eq_left hn, Nat.add_sub_cancel_left, List.getElem?_map, List.getElem?_range h]; rfl
theorem Zub (x : R_iiii) (hn : n ≤ 60) (N : Nat) (h8 : x.a0 = 8 ∨ x.a0 = 9 → 0 ≤ tgt x ∧ tgt x ≤ 512) : ∃ y z, ZeX x.a0 x.a1 x.a2 x.a3 (IntKind.i64.wrap (tgt x + (n : Int))) N = some (.r0 y z) ∧ (⟨x.a0, y, z, x.a3⟩ : R_iiii) = mv n x := by
 obtain ⟨op, A, B, C⟩ := x
 unfold ZeX mv
 by_cases e8 : op = 8
 ·subst e8
  have := h8 (.inl rfl)
  refine ⟨_, _, if_pos rfl, ?_⟩
  rw [w64 (by omega) (by omega)]; rfl
 ·by_cases e9 : op = 9
  ·subst e9
   have := h8 (.inr rfl)
   refine ⟨_, _, (if_neg (show ¬ (9 : Int) = 8 by decide)).trans (if_pos rfl), ?_⟩
   rw [w64 (by omega) (by omega)]; rfl
  ·refine ⟨A, B, (if_neg e8).trans (if_neg e9), ?_⟩
   simp only [if_neg e8, if_neg e9]
theorem go (hn : n ≤ L.length) (hn6 : n ≤ 60) (hm : m ≤ M.length) (hm6 : m ≤ 60) (hN : 520 ≤ N) (hL : Zbj L n N = 0) (hM : Zbj M m N = 0) : ∀ d k f, k + d = m → d < f → Zds (Zcd L n0 c0 M m0 b0 N) f (.h1m0 n c m b (jn L M n k) k) = some (.r0 true) := by
 intro d
 induction d with
 | zero =>
  intro k f hk hf
  obtain ⟨f, rfl⟩ : ∃ j, f = j + 1 := ⟨f - 1, by omega⟩
  obtain rfl : k = m := by omega
  refine ZaL ?_
  show Zb4 L n0 c0 M m0 b0 N n c k b (jn L M n k) k = _
  unfold Zb4
  have hl := ZsB (M := M) hn k
  have hp : ∀ i, i < n → (jn L M n k).getD i R_iiii.z = L.getD i R_iiii.z := fun i hi => jn_p hn hi
  have hq : ∀ i, i < k → (jn L M n k).getD (n + i) R_iiii.z = mv n (M.getD i R_iiii.z) := fun i hi => jn_q hn hi
  have hj := Zt9 hp hq hN hL hM (by omega)
  obtain ⟨f1, f2, f3, f4⟩ := Zfh hL
  obtain ⟨e1, e2, e3, e4⟩ := Zfh hM
  have h0 : (skL L n).length = 0 := by rw [(inv n f2).1.1, f3]; rfl
  obtain ⟨s1, s2, s3⟩ := sk_q hp hq h0 k (by omega)
  obtain ⟨d1, r1, b1, x1⟩ := Zua (N := N) hl.symm (by omega) hN hj
  obtain ⟨d2, r2, b2, x2⟩ := ZsA (c := c) hn (by omega) hN hL
  obtain ⟨d3, r3, b3, x3⟩ := ZsA (c := b) hm (by omega) hN hM
  have y1 := ZmE L n
  have y2 := ZmE M k
  refine Zae (by omega) (Z9 (Ztd hl.symm (by omega) hN) (Zl hj (Z9 d1 (Z9 d2 (Z9 d3 (Zl s3 (Z9 b1 ?_)))))))
  cases r1 with
  | r0 =>
   have x1 : 0 = _ := x1
   refine Z9 b2 ?_
   cases r2 with
   | r0 =>
    refine Z9 b3 ?_
    cases r3 with
    | r0 => rfl
    | r1 l3 => have x3 : l3.length = _ := x3; have x2 : 0 = _ := x2; exact Zl (by omega) (Zl (by omega) rfl)
   | r1 l2 =>
    have x2 : l2.length = _ := x2
    refine Z9 b3 ?_
    cases r3 with
    | r0 => have x3 : 0 = _ := x3; exact Zl (by omega) (Zl (by omega) rfl)
    | r1 l3 => have x3 : l3.length = _ := x3; exact Zl (by omega) (Zl (by omega) rfl)
  | r1 l1 =>
   have x1 : l1.length = _ := x1
   refine Z9 b2 ?_
   cases r2 with
   | r0 =>
    have x2 : 0 = _ := x2
    refine Z9 b3 ?_
    cases r3 with
    | r0 => have x3 : 0 = _ := x3; exact Zl (by omega) rfl
    | r1 l3 => have x3 : l3.length = _ := x3; exact Zl (by omega) (Zl (by omega) rfl)
   | r1 l2 =>
    have x2 : l2.length = _ := x2
    refine Z9 b3 ?_
    cases r3 with
    | r0 => have x3 : 0 = _ := x3; exact Zl (by omega) (Zl (by omega) rfl)
    | r1 l3 => have x3 : l3.length = _ := x3; exact Zl (by omega) (Zl (by omega) rfl)
 | succ d ih =>
  intro k f hk hf
  obtain ⟨f, rfl⟩ : ∃ j, f = j + 1 := ⟨f - 1, by omega⟩
  refine (Zbx (y := .h1m0 n c m b (jn L M n (k + 1)) (k + 1)) ?_).trans (ih (k + 1) f (by omega) (by omega))
  show Zb4 L n0 c0 M m0 b0 N n c m b (jn L M n k) k = _
  unfold Zb4
  have hl := ZsB (M := M) hn k
  obtain ⟨y, z, a1, a2⟩ := Zub (n := n) (M.getD k R_iiii.z) hn6 N fun ht => by
   obtain ⟨t1, t2, -⟩ := ZmV (show 4 ≤ N by omega) hM (show k < m by omega) (decide_eq_true ht)
   omega
  rw [ZtA, ← a2]
  exact Zl (by omega) (Zl (by omega) (Z9 (Zsc _ _) (Z9 a1 (Zl (by omega) (Zl (by omega) rfl)))))
end
theorem start {L M : List R_iiii} {n0 c0 m0 b0 n c m b : Nat} {s : Option (ZD ⊕ Zp)} (hn : n ≤ L.length) (hn6 : n ≤ 60) (hm : m ≤ M.length) (hm6 : m ≤ 60)
  (hs : Zbj L n 100000 = 0 → Zbj M m 100000 = 0 → s = some (.inl (.h1m0 n c m b (L.take n) 0))) :
  goM (Zcd L n0 c0 M m0 b0 100000) 100000 ((Zbh L n c 100000).bind fun r => match r with
   | .r0 y2_0 => if ¬ (y2_0 = (0 : Int)) then (some (Sum.inr (.r0 (true) : Zp)) : Option (ZD ⊕ Zp)) else
    ((Zbh M m b 100000).bind fun r => match r with
    | .r0 y4_0 => if ¬ (y4_0 = (0 : Int)) then (some (Sum.inr (.r0 (true) : Zp)) : Option (ZD ⊕ Zp)) else s)) = some (.r0 true) := by
 rw [ZmU hn (by omega) (by decide), ZmU hm (by omega) (by decide)]
 show goM _ _ (if ¬ (Zbj L n 100000 = 0) then _ else if ¬ (Zbj M m 100000 = 0) then _ else _) = _
 by_cases h1 : Zbj L n 100000 = 0
 ·by_cases h2 : Zbj M m 100000 = 0
  ·rw [if_neg (fun h => h h1), if_neg (fun h => h h2), hs h1 h2]
   have := go (n0 := n0) (c0 := c0) (m0 := m0) (b0 := b0) (c := c) (b := b) hn hn6 hm hm6 (by decide) h1 h2 m 0 100000 (by omega) (by omega)
   have e : jn L M n 0 = L.take n := by unfold jn; simp
   rw [e] at this
   exact (Zos rfl).trans this
  ·rw [if_neg (fun h => h h1), if_pos h2]; exact Zkm rfl
 ·rw [if_pos h1]; exact Zkm rfl
theorem runs (L : List R_iiii) (n c : Nat) (hn : n ≤ L.length) (hc : n ≤ c) (M : List R_iiii) (m b : Nat) (hm : m ≤ M.length) (hb : m ≤ b) : ZfJ L n c M m b 100000 = some (.r0 true) := by
 unfold ZfJ
 by_cases h : (60 : Int) < (n : Int)
 ·by_cases g : (60 : Int) < (m : Int)
  ·have : ZbZ L n c M m b 100000 = _ := Zl h (Zl (by omega) (Zl g (Zl (by omega) rfl)))
   rw [this]
   exact start (n := 60 - 0) (c := c - 0) (m := 60 - 0) (b := b - 0) (by omega) (by omega) (by omega) (by omega) fun _ _ => Zl (by omega) rfl
  ·have : ZbZ L n c M m b 100000 = _ := Zl h (Zl (by omega) (Zae g rfl))
   rw [this]
   exact start (n := 60 - 0) (c := c - 0) (by omega) (by omega) (by omega) (by omega) fun _ _ => Zl (by omega) rfl
 ·have hz : ∀ (m' b' : Nat), (if n = 0 then some (.inl (.h1m0 n c m' b' ([] : List R_iiii) 0)) else if n ≤ L.length then some (.inl (.h1m0 n c m' b' (L.take n) 0)) else none : Option (ZD ⊕ Zp)) = some (.inl (.h1m0 n c m' b' (L.take n) 0)) := fun m' b' => by
   by_cases h0 : n = 0
   ·subst h0; rfl
   ·rw [if_neg h0, if_pos hn]
  by_cases g : (60 : Int) < (m : Int)
  ·have : ZbZ L n c M m b 100000 = _ := Zae h (Zl g (Zl (by omega) rfl))
   rw [this]
   exact start (m := 60 - 0) (b := b - 0) hn (by omega) (by omega) (by omega) fun _ _ => hz _ _
  ·have : ZbZ L n c M m b 100000 = _ := Zae h (Zae g rfl)
   rw [this]
   exact start hn (by omega) hm (by omega) fun _ _ => hz _ _
theorem runs2 (L : List R_iiii) (n c : Nat) (hn : n ≤ L.length) (hc : n ≤ c) : Zdb L n c 100000 = some .r0 := by
 unfold Zdb
 refine ZdO (fun h => Zl (by omega) ?_) (fun h => ?_)
 ·exact Z9 (ZmU (by omega) (by omega) (by decide)) (ZdO (fun _ => rfl) (fun _ => rfl))
 ·exact Z9 (ZmU (by omega) (by omega) (by decide)) (ZdO (fun _ => rfl) (fun _ => rfl))
theorem runs3 (L : List R_iiii) (n c : Nat) (hn : n ≤ L.length) (hc : n ≤ c) : Zdc L n c 100000 = some .r0 := by
 unfold Zdc
 exact ZdO (fun h => Zl (by omega) rfl) (fun h => rfl)
theorem runs4 : ZdL 100000 = some .r0 := rfl
end Kj
end Ev
end Go.Proofs.Ytpgbennpiihajaa
