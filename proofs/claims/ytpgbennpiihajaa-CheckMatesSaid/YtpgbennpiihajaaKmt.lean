/- CheckMates: what the plain functions come to. -/
import Derived.Test.YtpgbennpiihajaaKmm
namespace Go.Proofs.Ytpgbennpiihajaa
open Go.RowKit
namespace Ev
set_option linter.unusedVariables false
set_option linter.unusedSimpArgs false

theorem ZvN {L : List R_iiii} {n c N : Nat} (hn : n ≤ L.length) (hL : n ≤ 512) (hN : 520 ≤ N) (hc : ZbI L n N = 0) {at_ : Int} (h0 : 0 ≤ at_) (h9 : at_ ≤ n) : ZcD L n c at_ N = some (.r0 (brP (opn L at_.toNat)).a0 (brP (opn L at_.toNat)).a1) := by
 obtain ⟨r, h1, h2, h3, h4⟩ := ZlX (c := c) hn hL hN
 obtain ⟨e1, -⟩ := h4 hc
 obtain ⟨f1, f2, f3, f4⟩ := Zi5 hc
 obtain ⟨g1, g2⟩ := Zl7 f2 (by rw [f3]; rfl)
 rw [hc] at h3
 refine Zu h1 ?_
 cases r with
 | r0 e => exact absurd (congrArg List.length e1) (by rw [g1]; show ¬ 0 = _; omega)
 | r1 w e => exact absurd (congrArg List.length e1) (by rw [g1]; show ¬ 0 = _; omega)
 | r2 s b m d dd w e =>
  have h3 : e = 0 := h3
  have e1 : b = _ := e1
  subst e1
  exact Z1 (fun h => h h3) (Z1 (by omega) (Z1 (by omega) (Zj (by rw [g1]; omega) (by rw [g2 _ (by omega)]))))
 | r3 b m w e =>
  have h3 : e = 0 := h3
  have e1 : b = _ := e1
  subst e1
  exact Z1 (fun h => h h3) (Z1 (by omega) (Z1 (by omega) (Zj (by rw [g1]; omega) (by rw [g2 _ (by omega)]))))

namespace Km
theorem Zwu {L : List R_iiii} {n c N : Nat} (hn : n ≤ L.length) (hL : n ≤ 512) (hN : 520 ≤ N) : ZeQ L n c N = some (if ZbI L n N = 0 then .r1 (mtL L n) else .r0 (ZbI L n N)) := by
 obtain ⟨r, h1, h2, h3, h4⟩ := ZlX (c := c) hn hL hN
 refine Zu h1 ?_
 by_cases hc : ZbI L n N = 0
 ·obtain ⟨e0, e1, -⟩ := h4 hc
  obtain ⟨f1, f2, f3, f4⟩ := Zi5 hc
  obtain ⟨g1, g2⟩ := Zl7 f2 (by rw [f3]; rfl)
  rw [if_pos hc]
  rw [hc] at h3
  cases r with
  | r0 e => exact absurd (congrArg List.length e0) (by rw [g1]; show ¬ 0 = _; omega)
  | r1 w e => exact absurd (congrArg List.length e0) (by rw [g1]; show ¬ 0 = _; omega)
  | r2 s b m d dd w e =>
   have h3 : e = 0 := h3
   have e1 : m = _ := e1
   rw [e1]; exact Z1 (fun h => h h3) rfl
  | r3 b m w e =>
   have h3 : e = 0 := h3
   have e1 : m = _ := e1
   rw [e1]; exact Z1 (fun h => h h3) rfl
 ·rw [if_neg hc]
  cases r with
  | r0 e => have h3 : e = _ := h3; rw [h3]; exact Zj hc rfl
  | r1 w e => have h3 : e = _ := h3; rw [h3]; exact Zj hc rfl
  | r2 s b m d dd w e => have h3 : e = _ := h3; rw [h3]; exact Zj hc rfl
  | r3 b m w e => have h3 : e = _ := h3; rw [h3]; exact Zj hc rfl

section
variable {L : List R_iiii} {n c N : Nat} {a4 : Int}
theorem ZvO (hn : n ≤ L.length) (hL : n ≤ 512) (hN : 2000 ≤ N) : ZeR L n c N = some (if ZbI L n N = 0 then .r1 (mtL L n) else .r0 (ZbI L n N)) := by
 unfold ZeR
 have hml := Zi2 L n
 by_cases hc : ZbI L n N = 0
 ·obtain ⟨f1, -⟩ := Zi5 hc
  rw [if_pos hc]
  have hin : ZeD L n c N = some (.inl .h1m0) := by
   unfold ZeD
   exact Zu (Zfy hn hL hN) <| Z1 (fun h => h hc) rfl
  rw [ZfK hin]
  have loop : ∀ d k f, k + d = n → d < f → Zcn (ZdR L n c N) f (.h1m1 ((mtL L n).take k) k) = some (.r1 (mtL L n)) := by
   intro d
   induction d with
   | zero =>
    intro k f hk hf
    obtain ⟨f, rfl⟩ : ∃ j, f = j + 1 := ⟨f - 1, by omega⟩
    refine Za3 ?_
    show ZcX L n c N _ k = _
    unfold ZcX
    rw [List.take_of_length_le (by omega)]
    exact Z1 (by omega) rfl
   | succ d ih =>
    intro k f hk hf
    obtain ⟨f, rfl⟩ : ∃ j, f = j + 1 := ⟨f - 1, by omega⟩
    refine (Zau (y := .h1m1 ((mtL L n).take (k + 1)) (k + 1)) ?_).trans (ih (k + 1) f (by omega) (by omega))
    show ZcX L n c N _ k = _
    unfold ZcX
    rw [← Zr7 (L := mtL L n) (i := k) (by omega) 0]
    exact Zj (by omega) <| Zu (Zuu hn hL hN hc (by omega)) <| Zj (by simp; omega) <| Zj (by omega) rfl
  obtain ⟨f, rfl⟩ : ∃ f, N = f + 1 := ⟨N - 1, by omega⟩
  refine (Zau (y := .h1m1 ((mtL L n).take 1) 1) ?_).trans (loop (n - 1) 1 f (by omega) (by omega))
  show Ze4 L n c (f + 1) = _
  unfold Ze4
  rw [← Zr7 (L := mtL L n) (i := 0) (by omega) 0]
  exact Zj (by omega) <| Zu (Zuu hn hL hN hc (show 0 < n by omega)) rfl
 ·rw [if_neg hc]
  refine ZhX ?_
  unfold ZeD
  exact Zu (Zfy hn hL hN) <| Zj hc rfl
theorem Zjh (hn : n ≤ L.length) (hL : n ≤ 512) (hN : 520 ≤ N) (hc : ZbI L n N = 0) : ∃ r, ZbP L n c N = some r ∧ ((∃ s w e, e = 0 ∧ r = .r2 s (brs L n ++ [⟨-1, 0⟩]) (mtL L n) (blL L n) (dpL L n) w e) ∨ (∃ w e, e = 0 ∧ r = .r3 (brs L n ++ [⟨-1, 0⟩]) (mtL L n) w e ∧ blL L n = [] ∧ dpL L n = 0)) := by
 obtain ⟨r, h1, h2, h3, h4⟩ := ZlX (c := c) hn hL hN
 obtain ⟨e0, e1, e2, e3⟩ := h4 hc
 obtain ⟨f1, f2, f3, f4⟩ := Zi5 hc
 obtain ⟨g1, g2⟩ := Zl7 f2 (by rw [f3]; rfl)
 rw [hc] at h3
 refine ⟨r, h1, ?_⟩
 cases r with
 | r0 e => exact absurd (congrArg List.length e0) (by rw [g1]; show ¬ 0 = _; omega)
 | r1 w e => exact absurd (congrArg List.length e0) (by rw [g1]; show ¬ 0 = _; omega)
 | r2 s b m d dd w e =>
  have e0 : b = _ := e0
  have e1 : m = _ := e1
  have e2 : d = _ := e2
  have e3 : dd = _ := e3
  subst e0 e1 e2 e3
  exact .inl ⟨s, w, e, h3, rfl⟩
 | r3 b m w e =>
  have e0 : b = _ := e0
  have e1 : m = _ := e1
  subst e0 e1
  exact .inr ⟨w, e, h3, rfl, (show [] = blL L n from e2).symm, (show (0 : Int) = dpL L n from e3).symm⟩
theorem Zqk (hn : n ≤ L.length) (hL : n ≤ 512) (hN : 520 ≤ N) (hc : ¬ ZbI L n N = 0) : ∃ r, ZbP L n c N = some r ∧ ¬ rE r = 0 := by
 obtain ⟨r, h1, h2, h3, h4⟩ := ZlX (c := c) hn hL hN
 exact ⟨r, h1, by rw [h3]; exact hc⟩
theorem ZvP (hn : n ≤ L.length) (hL : n ≤ 512) (hN : 2000 ≤ N) : ∃ x y, ZcD L n c a4 N = some (.r0 x y) ∧ Zdr L n c a4 N = some (.r0 x y) := by
 by_cases hc : ZbI L n N = 0
 ·by_cases h0 : a4 < 0
  ·refine ⟨-1, 0, ?_, Zj h0 rfl⟩
   obtain ⟨r, h1, ⟨s, w, e, he, rfl⟩ | ⟨w, e, he, rfl, -⟩⟩ := Zjh (c := c) hn hL (by omega) hc
   ·exact Zu h1 <| Z1 (fun h => h he) <| Zj h0 rfl
   ·exact Zu h1 <| Z1 (fun h => h he) <| Zj h0 rfl
  ·by_cases h9 : (n : Int) < a4
   ·refine ⟨-1, 0, ?_, Z1 h0 <| Zj h9 rfl⟩
    obtain ⟨r, h1, ⟨s, w, e, he, rfl⟩ | ⟨w, e, he, rfl, -⟩⟩ := Zjh (c := c) hn hL (by omega) hc
    ·exact Zu h1 <| Z1 (fun h => h he) <| Z1 h0 <| Zj h9 rfl
    ·exact Zu h1 <| Z1 (fun h => h he) <| Z1 h0 <| Zj h9 rfl
   ·refine ⟨_, _, ZvN hn hL (by omega) hc (by omega) (by omega), ?_⟩
    exact Z1 h0 <| Z1 h9 <| Zu (Zfy hn hL hN) <| Z1 (fun h => h hc) <| Zu (Zk2 a4.toNat (by omega) hn (by omega) (.inl (by omega)) hL (by omega)) rfl
 ·refine ⟨-1, 0, ?_, ?_⟩
  ·obtain ⟨r, h1, he⟩ := Zqk (c := c) hn hL (by omega) hc
   refine Zu h1 ?_
   cases r with
   | r0 e => exact Zj he rfl
   | r1 w e => exact Zj he rfl
   | r2 s b m d dd w e => exact Zj he rfl
   | r3 b m w e => exact Zj he rfl
  ·exact Zeg (fun _ => rfl) (fun _ => Zeg (fun _ => rfl) (fun _ => Zu (Zfy hn hL hN) <| Zj hc rfl))
theorem dp_ge {k : Nat} (h : ∀ j, j < k → okB L N j = true) : (((opn L k).length : Nat) : Int) ≤ dpL L k := by
 induction k with
 | zero => exact Int.le_refl 0
 | succ k ih =>
  have ih := ih fun j hj => h j (by omega)
  have r0 := (inv k fun j hj => h j (by omega)).1.1
  have r1 := (inv (k + 1) h).1.1
  obtain ⟨n15, n17, n0⟩ := ZoB L k
  unfold ln at n15 n17 n0
  unfold dpL dpk
  by_cases h15 : opA L k = 15
  ·rw [if_pos h15]; have := n15 h15; split <;> omega
  ·rw [if_neg h15]
   by_cases h17 : opA L k = 17
   ·have := n17 h17; omega
   ·have := n0 h15 h17; omega
theorem Zwv {k : Nat} (h : ∀ j, j < k + 1 → okB L N j = true) : dpL L (k + 1) = if (((opn L (k + 1)).length : Nat) : Int) > dpL L k then (((opn L (k + 1)).length : Nat) : Int) else dpL L k := by
 have g := dp_ge (k := k) fun j hj => h j (by omega)
 have r0 := (inv k fun j hj => h j (by omega)).1.1
 have r1 := (inv (k + 1) h).1.1
 obtain ⟨n15, n17, n0⟩ := ZoB L k
 unfold ln at n15 n17 n0
 rw [dpL]
 unfold dpk
 by_cases h15 : opA L k = 15
 ·rw [if_pos h15]
  have := n15 h15
  rw [show (skL L k).length + 1 = (opn L (k + 1)).length by omega]
 ·rw [if_neg h15]
  by_cases h17 : opA L k = 17
  ·have := n17 h17; rw [if_neg (by omega)]
  ·have := n0 h15 h17; rw [if_neg (by omega)]
theorem Zvw (hn : n ≤ L.length) (hL : n ≤ 512) (hN : 2000 ≤ N) : ∃ x, ZdJ L n c N = some (.r0 x) ∧ Zem L n c N = some (.r0 x) := by
 by_cases hc : ZbI L n N = 0
 ·obtain ⟨f1, f2, f3, f4⟩ := Zi5 hc
  refine ⟨dpL L n, ?_, ?_⟩
  ·obtain ⟨r, h1, ⟨s, w, e, he, rfl⟩ | ⟨w, e, he, rfl, h2, h3⟩⟩ := Zjh (c := c) hn hL (by omega) hc
   ·exact Zu h1 <| Z1 (fun h => h he) rfl
   ·rw [h3]; exact Zu h1 rfl
  ·unfold Zem
   have hin : ZgX L n c N = some (.inl (.h1m0 0 0)) := Zu (Zfy hn hL hN) <| Z1 (fun h => h hc) rfl
   rw [ZfK hin]
   have one : ∀ k (v : Int), k ≤ n → ZcY L n c N v k = some (.inl (.h1m0 (if (((opn L k).length : Nat) : Int) > v then (((opn L k).length : Nat) : Int) else v) (k + 1))) := by
    intro k v hk
    obtain ⟨r, h1, h2⟩ := Zqj (c := c) (N := N) (at_ := (k : Int)) k hk hn (by omega) (.inl rfl) hL (by omega)
    unfold ZcY
    refine Zj (by omega) <| Zu h1 ?_
    cases r with
    | r0 => have h2 : [] = opn L k := h2; rw [← h2]; exact Zj (by omega) rfl
    | r1 l => have h2 : l = opn L k := h2; rw [← h2]; exact Zj (by omega) rfl
   have loop : ∀ d k f, k + d = n → d + 1 < f → Zcn (ZdS L n c N) f (.h1m0 (dpL L k) (k + 1)) = some (.r0 (dpL L n)) := by
    intro d
    induction d with
    | zero =>
     intro k f hk hf
     obtain ⟨f, rfl⟩ : ∃ j, f = j + 1 := ⟨f - 1, by omega⟩
     obtain rfl : k = n := by omega
     refine Za3 ?_
     show ZcY L k c N _ (k + 1) = _
     unfold ZcY
     exact Z1 (by omega) rfl
    | succ d ih =>
     intro k f hk hf
     obtain ⟨f, rfl⟩ : ∃ j, f = j + 1 := ⟨f - 1, by omega⟩
     refine (Zau (y := .h1m0 (dpL L (k + 1)) (k + 1 + 1)) ?_).trans (ih (k + 1) f (by omega) (by omega))
     rw [Zwv fun j hj => f2 j (by omega)]
     exact one (k + 1) _ (by omega)
   obtain ⟨f, hf⟩ : ∃ f, N = f + 1 := ⟨N - 1, by omega⟩
   have first := one 0 0 (by omega)
   have e0 : (if (((opn L 0).length : Nat) : Int) > 0 then (((opn L 0).length : Nat) : Int) else 0) = dpL L 0 := rfl
   rw [e0] at first
   have := loop n 0 f (by omega) (by omega)
   have h2 : Zcn (ZdS L n c N) (f + 1) (.h1m0 0 0) = some (.r0 (dpL L n)) := (Zau first).trans this
   rw [← hf] at h2; exact h2
 ·refine ⟨0, ?_, ?_⟩
  ·obtain ⟨r, h1, he⟩ := Zqk (c := c) hn hL (by omega) hc
   refine Zu h1 ?_
   cases r with
   | r0 e => rfl
   | r1 w e => rfl
   | r2 s b m d dd w e => exact Zj he rfl
   | r3 b m w e => rfl
  ·exact ZhX (Zu (Zfy hn hL hN) <| Zj hc rfl)
def bl1 : ZaL → List Int
 | .r0 => []
 | .r1 l => l
def bl2 : ZaZ → List Int
 | .r0 => []
 | .r1 l => l
theorem Zeh (hn : n ≤ L.length) (hL : n ≤ 512) (hN : 2000 ≤ N) : ∃ r q, Zcq L n c N = some r ∧ ZbF L n c N = some q ∧ bl1 r = bl2 q ∧ (bl1 r).length ≤ 1000 := by
 by_cases hc : ZbI L n N = 0
 ·obtain ⟨f1, f2, f3, f4⟩ := Zi5 hc
  have hlen := ZqQ L n
  have h1 : ∃ r, Zcq L n c N = some r ∧ bl1 r = blL L n := by
   obtain ⟨r, h1, ⟨s, w, e, he, rfl⟩ | ⟨w, e, he, rfl, h2, h3⟩⟩ := Zjh (c := c) hn hL (by omega) hc
   ·exact ⟨.r1 (blL L n), Zu h1 <| Z1 (fun h => h he) rfl, rfl⟩
   ·exact ⟨.r0, Zu h1 rfl, h2.symm⟩
  have op : ∀ k, k ≤ n → ∃ r, ZdI L n c (k : Int) N = some r ∧ ZuM r = opn L k := fun k hk => Zqj (c := c) (N := N) (at_ := (k : Int)) k hk hn (by omega) (.inl rfl) hL (by omega)
  have nb : ∀ k, k < n → blL L (k + 1) = if opA L k = 15 then (if (opn L k).length = 0 then blL L k ++ [(k : Int)] else blL L k) else blL L k := fun k hk => by
   rw [blL]; unfold blk
   rw [(inv k fun j hj => f2 j (by omega)).1.1]
  have m1 : ∀ d k f, k + d = n → d < f → Zcn (Zcr L n c N) f (.h1m1 (blL L k) k) = some (.r1 (blL L n)) := by
   intro d
   induction d with
   | zero =>
    intro k f hk hf
    obtain ⟨f, rfl⟩ : ∃ j, f = j + 1 := ⟨f - 1, by omega⟩
    obtain rfl : k = n := by omega
    refine Za3 ?_
    show Zc7 L k c N _ k = _
    unfold Zc7
    exact Z1 (by omega) rfl
   | succ d ih =>
    intro k f hk hf
    obtain ⟨f, rfl⟩ : ∃ j, f = j + 1 := ⟨f - 1, by omega⟩
    refine (Zau (y := .h1m1 (blL L (k + 1)) (k + 1)) ?_).trans (ih (k + 1) f (by omega) (by omega))
    show Zc7 L n c N _ k = _
    unfold Zc7
    have := ZqQ L k
    have e1 := nb k (show k < n by omega)
    refine Zj (by omega) <| Zj (by omega) ?_
    by_cases h15 : opA L k = 15
    ·rw [if_pos h15] at e1
     obtain ⟨r, o1, o2⟩ := op k (by omega)
     refine Zj h15 <| Zu o1 ?_
     cases r with
     | r0 =>
      have o2 : [] = opn L k := o2
      rw [if_pos (by rw [← o2]; rfl)] at e1
      rw [e1]; exact Zj (by omega) <| Zj (by omega) rfl
     | r1 l =>
      have o2 : l = opn L k := o2
      rw [← o2] at e1
      by_cases h0 : l.length = 0
      ·rw [if_pos h0] at e1; rw [e1]; exact Zj (by omega) <| Zj (by omega) <| Zj (by omega) rfl
      ·rw [if_neg h0] at e1; rw [e1]; exact Z1 (by omega) <| Zj (by omega) rfl
    ·rw [if_neg h15] at e1
     rw [e1]; exact Z1 h15 <| Zj (by omega) rfl
  have m0 : ∀ d k f, k + d = n → d < f → blL L k = [] → ∃ q, Zcn (Zcr L n c N) f (.h1m0 k) = some q ∧ bl2 q = blL L n := by
   intro d
   induction d with
   | zero =>
    intro k f hk hf h0
    obtain ⟨f, rfl⟩ : ∃ j, f = j + 1 := ⟨f - 1, by omega⟩
    obtain rfl : k = n := by omega
    refine ⟨.r0, Za3 ?_, h0.symm⟩
    show Zcb L k c N k = _
    unfold Zcb
    exact Z1 (by omega) rfl
   | succ d ih =>
    intro k f hk hf h0
    obtain ⟨f, rfl⟩ : ∃ j, f = j + 1 := ⟨f - 1, by omega⟩
    have hst : ∀ x, Zcb L n c N k = x → Zcr L n c N (.h1m0 k) = x := fun x h => h
    by_cases hb : opA L k = 15 ∧ (opn L k).length = 0
    ·have e1 : blL L (k + 1) = [(k : Int)] := by rw [nb k (by omega), if_pos hb.1, if_pos hb.2, h0]; rfl
     refine ⟨_, (Zau (y := .h1m1 (blL L (k + 1)) (k + 1)) (hst _ ?_)).trans (m1 d (k + 1) f (by omega) (by omega)), rfl⟩
     rw [e1]
     unfold Zcb
     obtain ⟨r, o1, o2⟩ := op k (by omega)
     refine Zj (by omega) <| Zj (by omega) <| Zj hb.1 <| Zu o1 ?_
     cases r with
     | r0 => exact Zj (by omega) rfl
     | r1 l =>
      have o2 : l = opn L k := o2
      have := hb.2
      rw [← o2] at this
      exact Zj (by omega) <| Zj (by omega) rfl
    ·have e1 : blL L (k + 1) = [] := by
      rw [nb k (by omega)]
      by_cases h15 : opA L k = 15
      ·rw [if_pos h15, if_neg (fun h => hb ⟨h15, h⟩)]; exact h0
      ·rw [if_neg h15]; exact h0
     obtain ⟨q, q1, q2⟩ := ih (k + 1) f (by omega) (by omega) e1
     refine ⟨q, (Zau (hst _ ?_)).trans q1, q2⟩
     unfold Zcb
     refine Zj (by omega) <| Zj (by omega) ?_
     by_cases h15 : opA L k = 15
     ·obtain ⟨r, o1, o2⟩ := op k (by omega)
      refine Zj h15 <| Zu o1 ?_
      cases r with
      | r0 => have o2 : [] = opn L k := o2; exact absurd ⟨h15, by rw [← o2]; rfl⟩ hb
      | r1 l =>
       have o2 : l = opn L k := o2
       exact Z1 (fun h => hb ⟨h15, by rw [← o2]; omega⟩) <| Zj (by omega) rfl
     ·exact Z1 h15 <| Zj (by omega) rfl
  obtain ⟨r, r1, r2⟩ := h1
  obtain ⟨q, q1, q2⟩ := m0 n 0 N (by omega) (by omega) rfl
  refine ⟨r, q, r1, ?_, r2.trans q2.symm, by rw [r2]; omega⟩
  unfold ZbF
  have hin : Zgv L n c N = some (.inl (.h1m0 0)) := Zu (Zfy hn hL hN) <| Z1 (fun h => h hc) rfl
  rw [ZfK hin]; exact q1
 ·refine ⟨.r0, .r0, ?_, ?_, rfl, by decide⟩
  ·obtain ⟨r, h1, he⟩ := Zqk (c := c) hn hL (by omega) hc
   refine Zu h1 ?_
   cases r with
   | r0 e => rfl
   | r1 w e => rfl
   | r2 s b m d dd w e => exact Zj he rfl
   | r3 b m w e => rfl
  ·exact ZhX (Zu (Zfy hn hL hN) <| Zj hc rfl)
theorem si0 (hN : 2000 ≤ N) : ZbE N = some .r0 := by
 obtain ⟨f, rfl⟩ : ∃ f, N = f + 1 := ⟨N - 1, by omega⟩
 rfl
theorem si2 (hN : 2000 ≤ N) : Zcs [] N = some (.r0 true) := by
 obtain ⟨f, rfl⟩ : ∃ f, N = f + 1 := ⟨N - 1, by omega⟩
 rfl
theorem si3 (hN : 2000 ≤ N) : Zct [] N = some (.r0 true) := by
 obtain ⟨f, rfl⟩ : ∃ f, N = f + 1 := ⟨N - 1, by omega⟩
 rfl
theorem si4 (hN : 2000 ≤ N) (M : List Int) (hM : M.length ≤ 1000) : ZbS M M N = some (.r0 true) := by
 have hin : ZeL M M N = some (.inl (.h1m0 0)) := Z1 (fun h => h rfl) rfl
 unfold ZbS
 rw [ZfK hin]
 have loop : ∀ d k f, k + d = M.length → d < f → Zcn (Zds M M N) f (.h1m0 k) = some (.r0 true) := by
  intro d
  induction d with
  | zero =>
   intro k f hk hf
   obtain ⟨f, rfl⟩ : ∃ j, f = j + 1 := ⟨f - 1, by omega⟩
   refine Za3 ?_
   show ZbG M M N k = _
   unfold ZbG
   exact Z1 (by omega) rfl
  | succ d ih =>
   intro k f hk hf
   obtain ⟨f, rfl⟩ : ∃ j, f = j + 1 := ⟨f - 1, by omega⟩
   refine (Zau (y := .h1m0 (k + 1)) ?_).trans (ih (k + 1) f (by omega) (by omega))
   show ZbG M M N k = _
   unfold ZbG
   exact Zj (by omega) <| Zj (by omega) <| Z1 (fun h => h rfl) <| Zj (by omega) rfl
 exact loop M.length 0 N (by omega) (by omega)
theorem last0 {n0 c0 : Nat} (hn : n ≤ L.length) (hL : n ≤ 512) (hN : 2000 ≤ N) (e x y : Int) : Zdd L n0 c0 a4 N n c e e x y x y = some (.inr (.r0 true)) := by
 obtain ⟨d, d1, d2⟩ := Zvw (c := c) hn hL hN
 obtain ⟨r, q, r1, r2, r3, r4⟩ := Zeh (c := c) hn hL hN
 unfold Zdd
 refine Zu (si0 hN) <| Zj rfl <| Zj rfl <| Zj rfl <| Zu d1 <| Zu d2 <| Zj rfl <| Zu r1 ?_
 cases r with
 | r0 =>
  refine Zu r2 ?_
  cases q with
  | r0 => exact Zu (si0 hN) rfl
  | r1 l => have r3 : [] = l := r3; subst r3; exact Zu (si2 hN) <| Zj rfl rfl
 | r1 l' =>
  refine Zu r2 ?_
  cases q with
  | r0 => have r3 : l' = [] := r3; subst r3; exact Zu (si3 hN) <| Zj rfl rfl
  | r1 l => have r3 : l' = l := r3; subst r3; exact Zu (si4 hN _ r4) <| Zj rfl rfl
theorem last3 {n0 c0 : Nat} (hn : n ≤ L.length) (hL : n ≤ 512) (hN : 2000 ≤ N) (M : List Int) (hM : M.length ≤ 1000) (x y : Int) : Zde L n0 c0 a4 N n c M M x y x y = some (.inr (.r0 true)) := by
 obtain ⟨d, d1, d2⟩ := Zvw (c := c) hn hL hN
 obtain ⟨r, q, r1, r2, r3, r4⟩ := Zeh (c := c) hn hL hN
 unfold Zde
 refine Zu (si4 hN M hM) <| Zj rfl <| Zj rfl <| Zj rfl <| Zu d1 <| Zu d2 <| Zj rfl <| Zu r1 ?_
 cases r with
 | r0 =>
  refine Zu r2 ?_
  cases q with
  | r0 => exact Zu (si0 hN) rfl
  | r1 l => have r3 : [] = l := r3; subst r3; exact Zu (si2 hN) <| Zj rfl rfl
 | r1 l' =>
  refine Zu r2 ?_
  cases q with
  | r0 => have r3 : l' = [] := r3; subst r3; exact Zu (si3 hN) <| Zj rfl rfl
  | r1 l => have r3 : l' = l := r3; subst r3; exact Zu (si4 hN _ r4) <| Zj rfl rfl
theorem go {n0 c0 : Nat} (hn : n ≤ L.length) (hL : n ≤ 512) (hN : 2000 ≤ N) : Zcn (Zax L n0 c0 a4 N) N (.h1m0 n c) = some (.r0 true) := by
 obtain ⟨f, hf⟩ : ∃ f, N = f + 1 + 1 + 1 := ⟨N - 3, by omega⟩
 have q : Zcn (Zax L n0 c0 a4 N) (f + 1 + 1 + 1) (.h1m0 n c) = some (.r0 true) := by
  have m1 := Zwu (c := c) hn hL (show 520 ≤ N by omega)
  have m2 := ZvO (c := c) hn hL hN
  obtain ⟨x, y, b1, b2⟩ := ZvP (c := c) (a4 := a4) hn hL hN
  by_cases hc : ZbI L n N = 0
  ·rw [if_pos hc] at m1 m2
   refine (Zau (y := .h2m3 n c (mtL L n) (mtL L n)) (Zu m1 <| Zu m2 rfl)).trans ?_
   refine (Zau (y := .h3m3 n c (mtL L n) (mtL L n) x y x y) (Zu b1 <| Zu b2 rfl)).trans ?_
   exact Za3 (last3 (n0 := n0) (c0 := c0) (c := c) (a4 := a4) hn hL hN _ (by rw [Zi2]; omega) x y)
  ·rw [if_neg hc] at m1 m2
   refine (Zau (y := .h2m0 n c (ZbI L n N) (ZbI L n N)) (Zu m1 <| Zu m2 rfl)).trans ?_
   refine (Zau (y := .h3m0 n c (ZbI L n N) (ZbI L n N) x y x y) (Zu b1 <| Zu b2 rfl)).trans ?_
   exact Za3 (last0 (n0 := n0) (c0 := c0) (c := c) (a4 := a4) hn hL hN _ x y)
 rw [← hf] at q; exact q
end
theorem runs (L : List R_iiii) (n c : Nat) (hn : n ≤ L.length) (hc : n ≤ c) (a4 : Int) : Zhc L n c a4 100000 = some (.r0 true) := by
 unfold Zhc
 by_cases h : (60 : Int) < (n : Int)
 ·have : ZdN L n c a4 100000 = _ := Zj h (Zj (by omega) rfl)
  rw [ZfK this]
  exact go (by omega) (by omega) (by decide)
 ·have : ZdN L n c a4 100000 = _ := Z1 h rfl
  rw [ZfK this]
  exact go (by omega) (by omega) (by decide)
theorem runs2 (a4 : Int) : Zgj a4 100000 = some .r0 := by
 have b : Zev a4 100000 = some .r0 := Zeg (fun _ => rfl) (fun _ => Zeg (fun _ => rfl) (fun _ => rfl))
 have s : ZbE 100000 = some .r0 := si0 (by decide)
 unfold Zgj
 refine (ZfK rfl).trans ?_
 refine (Zau (y := .h2m0) rfl).trans ?_
 refine (Zau (y := .h3m0) (Zu rfl <| Zu b rfl)).trans ?_
 refine Za3 ?_
 show Zc4 a4 100000 = _
 unfold Zc4
 exact Zu s <| Zu rfl <| Zu rfl <| Zu rfl <| Zu rfl <| Zu s rfl
end Km
end Ev
end Go.Proofs.Ytpgbennpiihajaa
