/- Programs out of bytes, the document's: plain. -/
import Derived.Test.YtjfmadhcbgdakaaPbf
namespace Go.Proofs.Ytjfmadhcbgdakaa
open Go.RowKit
namespace Ev
set_option linter.unusedVariables false
set_option linter.unusedSimpArgs false
theorem ZpS {k : Nat} {Y : List Int} (hk : k ≤ 512) (hY : ∀ x ∈ Y, 0 ≤ x ∧ x ≤ 255) : ∀ x ∈ Zbs k Y, 0 ≤ x ∧ x ≤ 255 := by
 intro x hx
 unfold Zbs at hx
 rcases List.mem_append.1 hx with hx | hx
 ·rcases List.mem_append.1 hx with hx | hx
  ·exact Zpa (by omega) x hx
  ·exact hY x hx
 ·rw [List.mem_singleton] at hx
  subst hx
  unfold Zdt; omega
section
variable {L : List Int} {n c N nn : Nat}
def Zur (L : List Int) (n : Nat) (p : List R_iiii) (Z : List Int) : Prop := p.length ≤ 512 ∧ ZcN (Zbs p.length Z) (L.take n) = true
theorem rfin (hmm : IntKind.i64.wrap ((IntKind.i64.wrap ((256 : Int) * (L.getD 4 0))) + (L.getD 5 0)) = (nn : Int)) (hn : n ≤ L.length) (hN : 50000 ≤ N) {o m c' j : Nat} {p : List R_iiii} {Z : List Int} (hZ : ZbE N p = some Z) (hj : j = min nn 513) :
  (Zur L n p Z ∧ ZaS L n c N o m c' p j = some (.inr (.r1 p))) ∨ (¬ Zur L n p Z ∧ ZaS L n c N o m c' p j = some (.inr (.r0 110))) := by
 have T : (Zbi p N = some (.r0 3) ∧ ¬ p.length ≤ 512) ∨ (p.length ≤ 512 ∧ Zbi p N = some (.r1 (Zbs p.length Z))) := by
  rcases Zoh (L := p) hN with ⟨h, e⟩ | ⟨h, ⟨e, _⟩ | ⟨Y, e, e2⟩⟩
  ·exact .inl ⟨e, by omega⟩
  ·rw [e] at hZ; cases hZ
  ·rw [hZ] at e
   obtain rfl := Option.some.inj e
   exact .inr ⟨h, e2⟩
 rcases T with ⟨t, t2⟩ | ⟨t2, t⟩
 ·refine .inr ⟨fun h => t2 h.1, ?_⟩
  unfold ZaS
  rw [hmm]
  by_cases h : j < nn
  ·exact Zd (by omega) <| Zw (by omega) <| Zp t <| Zd (by decide) rfl
  ·exact Zw (by omega) <| Zp t <| Zd (by decide) rfl
 ·by_cases hs : ZcN (Zbs p.length Z) (L.take n) = true
  ·refine .inl ⟨⟨t2, hs⟩, ?_⟩
   unfold ZaS
   rw [hmm]
   by_cases h : j < nn
   ·exact Zd (by omega) <| Zw (by omega) <| Zp t <| Zd hn <| Zw (fun g => g hs) rfl
   ·exact Zw (by omega) <| Zp t <| Zd hn <| Zw (fun g => g hs) rfl
  ·refine .inr ⟨fun h => hs h.2, ?_⟩
   unfold ZaS
   rw [hmm]
   by_cases h : j < nn
   ·exact Zd (by omega) <| Zw (by omega) <| Zp t <| Zd hn <| Zd hs rfl
   ·exact Zw (by omega) <| Zp t <| Zd hn <| Zd hs rfl
theorem rloop (hmm : IntKind.i64.wrap ((IntKind.i64.wrap ((256 : Int) * (L.getD 4 0))) + (L.getD 5 0)) = (nn : Int)) (hb : ∀ i, i < L.length → 0 ≤ L.getD i 0 ∧ L.getD i 0 ≤ 255) (hn : n ≤ L.length) (hN : 50000 ≤ N) : ∀ k o m c' p Z j f, j + k = min nn 513 → o + m ≤ L.length → m ≤ 10000 → m ≤ c' → ZbE N p = some Z → p.length + k ≤ 1000 → k < f →
  (∃ q Y R, q.length = k ∧ ZbE N q = some Y ∧ (L.drop o).take m = Y ++ R ∧ ((Zur L n (p ++ q) (Z ++ Y) ∧ ZaP (ZaY L n c N) f (.h1m2 o m c' p j) = some (.r1 (p ++ q))) ∨ (¬ Zur L n (p ++ q) (Z ++ Y) ∧ ZaP (ZaY L n c N) f (.h1m2 o m c' p j) = some (.r0 110)))) ∨
  (ZaP (ZaY L n c N) f (.h1m2 o m c' p j) = some (.r0 110) ∧ ∀ q Y R, q.length = k → ZbE N q = some Y → (L.drop o).take m ≠ Y ++ R) := by
 intro k
 induction k with
 | zero =>
  intro o m c' p Z j f hj ho hm hc hZ hp hf
  obtain ⟨f, rfl⟩ : ∃ g, f = g + 1 := ⟨f - 1, by omega⟩
  refine .inl ⟨[], [], _, rfl, rfl, rfl, ?_⟩
  rw [List.append_nil, List.append_nil]
  rcases rfin (c := c) (o := o) (m := m) (c' := c') hmm hn hN hZ (j := j) (by omega) with ⟨g, e⟩ | ⟨g, e⟩
  ·exact .inl ⟨g, ZO e⟩
  ·exact .inr ⟨g, ZO e⟩
 | succ k ih =>
  intro o m c' p Z j f hj ho hm hc hZ hp hf
  obtain ⟨f, rfl⟩ : ∃ g, f = g + 1 := ⟨f - 1, by omega⟩
  rcases Zin (L := L) (o := o) (n := m) (c := c') (N := N) hb ho (by omega) hc (by omega) with ⟨z, z0, e⟩ | ⟨i, y, R, e, e0, e1, e2⟩
  ·refine .inr ⟨ZO ?_, fun q Y R hq hY hM => ?_⟩
   ·show ZaS L n c N o m c' p j = _
    unfold ZaS
    rw [hmm]
    exact Zd (by omega) <| Zd (by omega) <| Zp e <| Zd z0 rfl
   ·match q, hq with
    | i :: q, hq =>
     obtain ⟨y, W, d1, d2, rfl⟩ := Zdr hY
     have := (ZhM (L := L) (o := o) (n := m) (c := c') hb ho (by omega) hc (by omega) d1 (by rw [hM, List.append_assoc])).1
     rw [e] at this; cases this
  ·have hl : m = y.length + R.length := by
    have := congrArg List.length e2
    rw [List.length_take, List.length_drop, List.length_append] at this; omega
   have eR : (L.drop (y.length + o)).take (m - y.length) = R := by rw [← Zhz, e2]; exact List.drop_left' rfl
   have S : ZaY L n c N (.h1m2 o m c' p j) = some (.inl (.h1m2 (y.length + o) (m - y.length) (c' - y.length) (p ++ [i]) (j + 1))) := by
    show ZaS L n c N o m c' p j = _
    unfold ZaS
    rw [hmm]
    refine Zd (by omega) <| Zd (by omega) <| Zp e <| Zd (by omega) ?_
    rw [← e0]
   have hZ' : ZbE N (p ++ [i]) = some (Z ++ y) := by
    have := ZsU hZ (ZeF (l := []) e1 rfl)
    rwa [List.append_nil] at this
   rcases ih (y.length + o) (m - y.length) (c' - y.length) (p ++ [i]) (Z ++ y) (j + 1) f (by omega) (by omega) (by omega) (by omega) hZ' (by rw [List.length_append]; simp only [List.length_cons, List.length_nil]; omega) (by omega) with ⟨q, Y, R', q1, q2, q3, q4⟩ | ⟨q1, q2⟩
   ·refine .inl ⟨i :: q, y ++ Y, R', by rw [List.length_cons, q1], ZeF e1 q2, by rw [e2, List.append_assoc, ← q3, eR], ?_⟩
    rw [show p ++ i :: q = p ++ [i] ++ q by rw [List.append_assoc]; rfl, ← List.append_assoc Z y Y]
    rcases q4 with ⟨g, e⟩ | ⟨g, e⟩
    ·exact .inl ⟨g, (Zy S).trans e⟩
    ·exact .inr ⟨g, (Zy S).trans e⟩
   ·refine .inr ⟨(Zy S).trans q1, fun q Y R' hq hY hM => ?_⟩
    match q, hq with
    | i' :: q, hq =>
     obtain ⟨y', W, d1, d2, rfl⟩ := Zdr hY
     rw [e2, List.append_assoc] at hM
     obtain ⟨rfl, rfl⟩ := Zjl (by omega) e1 d1 hM (by rw [← e2]; exact Zek hb o m) (by rw [List.length_append]; omega)
     exact q2 q W R' (by simpa using hq) d2 eR
theorem ZhN (h7 : 7 ≤ n) (hn : n ≤ L.length) : (L.drop 6).take (n - 6) = (L.drop 6).take (n - 7) ++ [L.getD (n - 1) 0] := by
 have h := Zc5 (L := L.drop 6) (i := n - 7) (by rw [List.length_drop]; omega) 0
 rw [Zd7, show n - 7 + 6 = n - 1 by omega, show n - 7 + 1 = n - 6 by omega] at h
 exact h.symm
theorem ZuO (hb : ∀ i, i < L.length → 0 ≤ L.getD i 0 ∧ L.getD i 0 ≤ 255) (h7 : 7 ≤ n) (h6 : n ≤ 6000) (hn : n ≤ L.length) (hc : n ≤ c) (hN : 50000 ≤ N) (hnn : (nn : Int) = 256 * L.getD 4 0 + L.getD 5 0) :
  (∃ p, Good L n nn N p ∧ Zb3 L n c N = if nn = 0 then some (.r0 0) else some (.r1 p)) ∨ ((∀ p, ¬ Good L n nn N p) ∧ Zb3 L n c N = some (.r0 110)) := by
 obtain ⟨b1, b2⟩ := hb 4 (by omega)
 obtain ⟨b3, b4⟩ := hb 5 (by omega)
 have hmm : IntKind.i64.wrap ((IntKind.i64.wrap ((256 : Int) * (L.getD 4 0))) + (L.getD 5 0)) = (nn : Int) := by rw [w64 (x := 256 * L.getD 4 0) (by omega) (by omega), w64 (by omega) (by omega), hnn]
 have hI : Zb3 L n c N = ZaP (ZaY L n c N) N .h1m0 := ZaC (show ZeT L n c N = some (.inl .h1m0) from by
  unfold ZeT
  exact Zw (by omega) <| Zd (by omega) <| Zd (by omega) <| Zd (by omega) <| Zd (by omega) <| Zd (by omega) <| Zd (by omega) <| Zd (by omega) rfl)
 rw [hI]
 have hln : (L.take n).length = n := by rw [List.length_take]; omega
 have hLb : ∀ x ∈ L.take n, 0 ≤ x ∧ x ≤ 255 := fun x hx => Zek hb 0 n x hx
 by_cases z0 : nn = 0
 ·simp only [if_pos z0]
  by_cases hs : ZcN (Zbs 0 []) (L.take n) = true
  ·refine .inl ⟨[], ZqK h7 hn hnn (by decide) rfl ?_, Zbv (n := 0 + 1) (by omega) (ZO ?_)⟩
   ·exact (Zqx (ZpS (by decide) (fun x hx => by cases hx)) hLb hs).symm
   ·show Zbe L n c N = _
    unfold Zbe
    rw [hmm]
    exact Zw (by omega) <| Zp (ZeI hN) <| Zd hn <| Zw (fun g => g hs) rfl
  ·refine .inr ⟨fun p hp => hs ?_, Zbv (n := 0 + 1) (by omega) (ZO ?_)⟩
   ·have e := ZqJ hb h7 hn hnn hp
    have e3 := hp.2.2.1
    rw [List.eq_nil_of_length_eq_zero (hp.1.trans z0)] at e3
    rw [← Option.some.inj e3, z0] at e
    rw [e]; exact Zex _
   ·show Zbe L n c N = _
    unfold Zbe
    rw [hmm]
    exact Zw (by omega) <| Zp (ZeI hN) <| Zd hn <| Zd hs rfl
 simp only [if_neg z0]
 obtain ⟨f, rfl⟩ : ∃ f, N = f + 1 := ⟨N - 1, by omega⟩
 have hMl : ((L.drop 6).take (n - 6)).length = n - 6 := by rw [List.length_take, List.length_drop]; omega
 rcases Zin (L := L) (o := 6) (n := n - 6) (c := c - 6) (N := f + 1) hb (by omega) (by omega) (by omega) (by omega) with ⟨z, zz, e⟩ | ⟨i, y, R, e, e0, e1, e2⟩
 ·refine .inr ⟨fun p hp => ?_, ZO ?_⟩
  ·obtain ⟨g1, g2, g3, _⟩ := hp
   match p, g1 with
   | [], g1 => exact z0 g1.symm
   | i :: p, g1 =>
    obtain ⟨y, Z, d1, d2, d3⟩ := Zdr g3
    have := (ZhM (L := L) (o := 6) (n := n - 6) (c := c - 6) hb (by omega) (by omega) (by omega) (by omega) d1 (by rw [ZhN h7 hn, d3, List.append_assoc])).1
    rw [e] at this; cases this
  ·show Zbe L n c (f + 1) = _
   unfold Zbe
   rw [hmm]
   exact Zd (by omega) <| Zp e <| Zd zz rfl
 ·have hl : n - 6 = y.length + R.length := by rw [← hMl, e2, List.length_append]
  have eR : (L.drop (y.length + 6)).take (n - 6 - y.length) = R := by rw [← Zhz, e2]; exact List.drop_left' rfl
  have S : ZaY L n c (f + 1) .h1m0 = some (.inl (.h1m2 (y.length + 6) (n - 6 - y.length) (c - 6 - y.length) [i] 1)) := by
   show Zbe L n c (f + 1) = _
   unfold Zbe
   rw [hmm]
   refine Zd (by omega) <| Zp e ?_
   rw [← e0]
  have hZ : ZbE (f + 1) [i] = some y := by have := ZeF (l := []) e1 rfl; rwa [List.append_nil] at this
  rcases rloop (n := n) (c := c) hmm hb hn hN (min nn 513 - 1) (y.length + 6) (n - 6 - y.length) (c - 6 - y.length) [i] y 1 f (by omega) (by omega) (by omega) (by omega) hZ (by show 1 + _ ≤ _; omega) (by omega) with ⟨q, Y, R', q1, q2, q3, q4⟩ | ⟨q1, q2⟩
  ·have hall : (L.drop 6).take (n - 6) = (y ++ Y) ++ R' := by rw [e2, List.append_assoc, ← q3, eR]
   have hp : ZbE (f + 1) (i :: q) = some (y ++ Y) := ZeF e1 q2
   have hpl : (i :: q).length = min nn 513 := by rw [List.length_cons, q1]; omega
   rcases q4 with ⟨g, e⟩ | ⟨g, e⟩
   ·exact .inl ⟨i :: q, ZqK h7 hn hnn g.1 hp (Zqx (ZpS g.1 (ZoZ (by omega) hp).2) hLb g.2).symm, (Zy S).trans e⟩
   ·refine .inr ⟨fun p' hp' => g ?_, (Zy S).trans e⟩
    have t := ZqJ hb h7 hn hnn hp'
    obtain ⟨k1, k2, k3, _⟩ := hp'
    obtain ⟨rfl, e4, _⟩ := Zpb (by omega) k3 hp (by rw [k1, hpl]; omega) ((ZhN h7 hn).symm.trans hall) (by rw [← ZhN h7 hn]; exact Zek hb 6 (n - 6)) (by rw [← ZhN h7 hn, hMl]; omega)
    refine ⟨by rw [show [i] ++ q = i :: q from rfl, k1]; exact k2, ?_⟩
    rw [show [i] ++ q = i :: q from rfl, k1, ← e4, t]
    exact Zex _
  ·refine .inr ⟨fun p' hp' => ?_, (Zy S).trans q1⟩
   obtain ⟨k1, k2, k3, _⟩ := hp'
   match p', k1 with
   | [], k1 => exact z0 k1.symm
   | i' :: p', k1 =>
    obtain ⟨y', W, d1, d2, d3⟩ := Zdr k3
    have h := ZhN h7 hn
    rw [e2, d3, List.append_assoc] at h
    obtain ⟨rfl, hR⟩ := Zjl (by omega) e1 d1 h (by rw [← e2]; exact Zek hb 6 (n - 6)) (by rw [← e2, hMl]; omega)
    rw [List.length_cons] at k1
    exact q2 p' W [L.getD (n - 1) 0] (by omega) d2 (by rw [eR, hR])
end
end Ev
end Go.Proofs.Ytjfmadhcbgdakaa
