/- UndoRuns: the law's plain functions are true. -/
import Derived.Test.YtgnmjjakmeomiaaUrr
import Derived.Test.YtgnmjjakmeomiaaPu
namespace Go.Proofs.Ytgnmjjakmeomiaa
open Go.RowKit
namespace Ev
set_option linter.unusedVariables false
set_option linter.unusedSimpArgs false
namespace Ur
def mt (a b k : Int) (e : RB) : Bool := decide ((e.a0 = a ∧ e.a1 = b) ∧ e.a2 = k ∧ ¬ e.a5 = true)
def ZoJ (x y : Int) (b : Bool) : Option RB → undo_Log_First_2R
 | some e => .r0 e.a3 e.a4 true
 | none => .r0 x y b
def ZoK (x y : Int) (b : Bool) : Option RB → undo_Log_First_3R
 | some e => .r0 e.a3 e.a4 true
 | none => .r0 x y b
def resd : Option RB → Zav
 | some e => .r0 e.a3 e.a4 true
 | none => .r0 0 0 false
theorem Zfe {L : List RB} {a b k m : Int} {N : Nat} (hm : 0 < m) (hL : L.length ≤ 1000) (hN : 2000 ≤ N) : ZbJ a b k m L N = some (ZoJ 0 0 false ((L.take L.length).find? (mt a b k))) := by
 refine (ZdS (show Zer a b k m L N = some (.inl (.h1m0 ((L.length : Int) - 1) 0 0 false)) from Zp hm <| Zp (by omega) rfl)).trans ?_
 have loop : ∀ j x y q f, j ≤ L.length → j < f → Zb1 (Zb2 a b k m L N) f (.h1m0 ((j : Int) - 1) x y q) = some (ZoJ x y q ((L.take j).find? (mt a b k))) := by
  intro j
  induction j with
  | zero =>
   intro x y q f hj hf
   obtain ⟨f, rfl⟩ : ∃ g, f = g + 1 := ⟨f - 1, by omega⟩
   refine ZbB ?_
   show Zai a b k m L N _ x y q = _
   unfold Zai
   refine Zy (by omega) ?_
   cases q <;> rfl
  | succ j ih =>
   intro x y q f hj hf
   obtain ⟨f, rfl⟩ : ∃ g, f = g + 1 := ⟨f - 1, by omega⟩
   rw [show (((j + 1 : Nat) : Int) - 1) = (j : Int) by omega, ← Zjo (by omega) RB.z, List.find?_append]
   have hw : IntKind.i64.wrap ((j : Int) - 1) = (j : Int) - 1 := w64 (by omega) (by omega)
   have go : ∀ x' y' q', Zai a b k m L N (j : Int) x y q = some (.inl (.h1m0 ((j : Int) - 1) x' y' q')) → Zb1 (Zb2 a b k m L N) (f + 1) (.h1m0 (j : Int) x y q) = some (ZoJ x' y' q' ((L.take j).find? (mt a b k))) := fun x' y' q' h => (ZaG h).trans (ih x' y' q' f (by omega) (by omega))
   have un : Zai a b k m L N (j : Int) x y q = if (((L.getD j RB.z).a0 = a ∧ (L.getD j RB.z).a1 = b)) then if (L.getD j RB.z).a2 = k then if (L.getD j RB.z).a5 = true then some (.inl (.h1m0 ((j : Int) - 1) x y q)) else some (.inl (.h1m0 ((j : Int) - 1) (L.getD j RB.z).a3 (L.getD j RB.z).a4 true)) else some (.inl (.h1m0 ((j : Int) - 1) x y q)) else some (.inl (.h1m0 ((j : Int) - 1) x y q)) := by
    unfold Zai
    rw [hw, Int.toNat_natCast]
    exact Zp (by omega) (Zp (by omega) rfl)
   by_cases hm : mt a b k (L.getD j RB.z) = true
   ·obtain ⟨m1, m2, m3⟩ := of_decide_eq_true hm
    rw [go _ _ _ (un.trans (Zp m1 <| Zp m2 <| Zy m3 rfl)), List.find?_cons_of_pos hm]
    cases (L.take j).find? (mt a b k) <;> rfl
   ·have hno : Zai a b k m L N (j : Int) x y q = some (.inl (.h1m0 ((j : Int) - 1) x y q)) := by
     rw [un]
     by_cases c1 : ((L.getD j RB.z).a0 = a ∧ (L.getD j RB.z).a1 = b)
     ·by_cases c2 : (L.getD j RB.z).a2 = k
      ·by_cases c3 : (L.getD j RB.z).a5 = true
       ·exact Zp c1 <| Zp c2 <| Zp c3 rfl
       ·exact absurd (decide_eq_true ⟨c1, c2, c3⟩) hm
      ·exact Zp c1 <| Zy c2 rfl
     ·exact Zy c1 rfl
    rw [go _ _ _ hno, List.find?_cons_of_neg hm]
    cases (L.take j).find? (mt a b k) <;> rfl
 exact loop L.length 0 0 false N (Nat.le_refl _) (by omega)
theorem Zff {L : List RB} {n c : Nat} {a b k m : Int} {N : Nat} (hm : 0 < m) (hn : n ≤ L.length) (hL : n ≤ 1000) (hN : 2000 ≤ N) : ZbK a b k m L n c N = some (ZoK 0 0 false ((L.take n).find? (mt a b k))) := by
 refine (ZdS (show Zes a b k m L n c N = some (.inl (.h1m0 ((n : Int) - 1) 0 0 false)) from Zp hm <| Zp (by omega) rfl)).trans ?_
 have loop : ∀ j x y q f, j ≤ n → j < f → Zb1 (Zb3 a b k m L n c N) f (.h1m0 ((j : Int) - 1) x y q) = some (ZoK x y q ((L.take j).find? (mt a b k))) := by
  intro j
  induction j with
  | zero =>
   intro x y q f hj hf
   obtain ⟨f, rfl⟩ : ∃ g, f = g + 1 := ⟨f - 1, by omega⟩
   refine ZbB ?_
   show Zaj a b k m L n c N _ x y q = _
   unfold Zaj
   refine Zy (by omega) ?_
   cases q <;> rfl
  | succ j ih =>
   intro x y q f hj hf
   obtain ⟨f, rfl⟩ : ∃ g, f = g + 1 := ⟨f - 1, by omega⟩
   rw [show (((j + 1 : Nat) : Int) - 1) = (j : Int) by omega, ← Zjo (by omega) RB.z, List.find?_append]
   have hw : IntKind.i64.wrap ((j : Int) - 1) = (j : Int) - 1 := w64 (by omega) (by omega)
   have go : ∀ x' y' q', Zaj a b k m L n c N (j : Int) x y q = some (.inl (.h1m0 ((j : Int) - 1) x' y' q')) → Zb1 (Zb3 a b k m L n c N) (f + 1) (.h1m0 (j : Int) x y q) = some (ZoK x' y' q' ((L.take j).find? (mt a b k))) := fun x' y' q' h => (ZaG h).trans (ih x' y' q' f (by omega) (by omega))
   have un : Zaj a b k m L n c N (j : Int) x y q = if (((L.getD j RB.z).a0 = a ∧ (L.getD j RB.z).a1 = b)) then if (L.getD j RB.z).a2 = k then if (L.getD j RB.z).a5 = true then some (.inl (.h1m0 ((j : Int) - 1) x y q)) else some (.inl (.h1m0 ((j : Int) - 1) (L.getD j RB.z).a3 (L.getD j RB.z).a4 true)) else some (.inl (.h1m0 ((j : Int) - 1) x y q)) else some (.inl (.h1m0 ((j : Int) - 1) x y q)) := by
    unfold Zaj
    rw [hw, Int.toNat_natCast]
    exact Zp (by omega) (Zp (by omega) (Zp (by omega) rfl))
   by_cases hm : mt a b k (L.getD j RB.z) = true
   ·obtain ⟨m1, m2, m3⟩ := of_decide_eq_true hm
    rw [go _ _ _ (un.trans (Zp m1 <| Zp m2 <| Zy m3 rfl)), List.find?_cons_of_pos hm]
    cases (L.take j).find? (mt a b k) <;> rfl
   ·have hno : Zaj a b k m L n c N (j : Int) x y q = some (.inl (.h1m0 ((j : Int) - 1) x y q)) := by
     rw [un]
     by_cases c1 : ((L.getD j RB.z).a0 = a ∧ (L.getD j RB.z).a1 = b)
     ·by_cases c2 : (L.getD j RB.z).a2 = k
      ·by_cases c3 : (L.getD j RB.z).a5 = true
       ·exact Zp c1 <| Zp c2 <| Zp c3 rfl
       ·exact absurd (decide_eq_true ⟨c1, c2, c3⟩) hm
      ·exact Zp c1 <| Zy c2 rfl
     ·exact Zy c1 rfl
    rw [go _ _ _ hno, List.find?_cons_of_neg hm]
    cases (L.take j).find? (mt a b k) <;> rfl
 exact loop n 0 0 false N (Nat.le_refl _) (by omega)
theorem ZgE {L : List RB} {m a b k : Int} {N : Nat} (hL : L.length ≤ 1000) (hN : 2000 ≤ N) : ZcN m L a b k N = some (resd (L.find? (mt a b k))) := by
 refine (ZdS (show Zei m L a b k N = some (.inl (.h1m0 0)) from rfl)).trans ?_
 have loop : ∀ d j f, j + d = L.length → d < f → Zb1 (ZcT m L a b k N) f (.h1m0 j) = some (resd ((L.drop j).find? (mt a b k))) := by
  intro d
  induction d with
  | zero =>
   intro j f hj hf
   obtain ⟨f, rfl⟩ : ∃ g, f = g + 1 := ⟨f - 1, by omega⟩
   refine ZbB ?_
   show ZaD m L a b k N j = _
   unfold ZaD
   rw [List.drop_eq_nil_of_le (by omega)]
   exact Zy (by omega) rfl
  | succ d ih =>
   intro j f hj hf
   obtain ⟨f, rfl⟩ : ∃ g, f = g + 1 := ⟨f - 1, by omega⟩
   have hd : L.drop j = L.getD j RB.z :: L.drop (j + 1) := by rw [List.drop_eq_getElem_cons (by omega)]; congr 1; simp [List.getD, show j < L.length by omega]
   rw [hd]
   by_cases hm : mt a b k (L.getD j RB.z) = true
   ·obtain ⟨m1, m2, m3⟩ := of_decide_eq_true hm
    rw [List.find?_cons_of_pos hm]
    refine ZbB ?_
    show ZaD m L a b k N j = _
    unfold ZaD
    exact Zp (by omega) <| Zp m1 <| Zp m2 <| Zy m3 rfl
   ·rw [List.find?_cons_of_neg hm]
    refine (ZaG (y := .h1m0 (j + 1)) ?_).trans (ih (j + 1) f (by omega) (by omega))
    show ZaD m L a b k N j = _
    unfold ZaD
    refine Zp (by omega) ?_
    by_cases c1 : ((L.getD j RB.z).a0 = a ∧ (L.getD j RB.z).a1 = b)
    ·by_cases c2 : (L.getD j RB.z).a2 = k
     ·by_cases c3 : (L.getD j RB.z).a5 = true
      ·exact Zp c1 <| Zp c2 <| Zp c3 <| Zp (by omega) rfl
      ·exact absurd (decide_eq_true ⟨c1, c2, c3⟩) hm
     ·exact Zp c1 <| Zy c2 <| Zp (by omega) rfl
    ·exact Zy c1 <| Zp (by omega) rfl
 have := loop L.length 0 N (by omega) (by omega)
 rwa [List.drop_zero] at this
theorem both2 {L : List RB} {m m' a b k : Int} {N : Nat} (hm : 0 < m) (hL : L.length ≤ 1000) (hN : 2000 ≤ N) : ∃ u v q, ZbJ a b k m L N = some (.r0 u v q) ∧ ZcN m' L a b k N = some (.r0 u v q) := by
 have h1 := Zfe (a := a) (b := b) (k := k) hm hL hN
 have h2 := ZgE (m := m') (a := a) (b := b) (k := k) hL hN
 rw [List.take_length] at h1
 cases hx : L.find? (mt a b k) with
 | none => rw [hx] at h1 h2; exact ⟨_, _, _, h1, h2⟩
 | some e => rw [hx] at h1 h2; exact ⟨_, _, _, h1, h2⟩
theorem both3 {L : List RB} {n c : Nat} {m m' a b k : Int} {N : Nat} (hm : 0 < m) (hn : n ≤ L.length) (hL : n ≤ 1000) (hN : 2000 ≤ N) : ∃ u v q, ZbK a b k m L n c N = some (.r0 u v q) ∧ ZcN m' (L.take n) a b k N = some (.r0 u v q) := by
 have h1 := Zff (c := c) (a := a) (b := b) (k := k) hm hn hL hN
 have h2 := ZgE (L := L.take n) (m := m') (a := a) (b := b) (k := k) (by rw [List.length_take]; omega) hN
 cases hx : (L.take n).find? (mt a b k) with
 | none => rw [hx] at h1 h2; exact ⟨_, _, _, h1, h2⟩
 | some e => rw [hx] at h1 h2; exact ⟨_, _, _, h1, h2⟩
theorem Zpx {a b k m : Int} {N : Nat} (hm : 0 < m) (hN : 1 ≤ N) : Zez a b k m N = some .r0 :=
 (ZdS (show Zg1 a b k m N = some (.inl .h1m0) from Zp hm rfl)).trans (ZeN (n := 0 + 1) (by omega) (ZbB rfl))
theorem Zm8 {a b k m : Int} {N : Nat} (hN : 1 ≤ N) : ZdY m a b k N = some .r0 :=
 (ZdS (show ZeE m a b k N = some (.inl .h1m0) from rfl)).trans (ZeN (n := 0 + 1) (by omega) (ZbB rfl))
theorem Zj2 {L : List RB} {N : Nat} (hL : L.length ≤ 1000) (hN : 2000 ≤ N) : ZcM L L N = some (.r0 true) := by
 refine (ZdS (show Zeg L L N = some (.inl (.h1m0 0)) from Zy (fun h => h rfl) rfl)).trans ?_
 have loop : ∀ d j f, j + d = L.length → d < f → Zb1 (ZcS L L N) f (.h1m0 j) = some (.r0 true) := by
  intro d
  induction d with
  | zero =>
   intro j f hj hf
   obtain ⟨f, rfl⟩ : ∃ g, f = g + 1 := ⟨f - 1, by omega⟩
   refine ZbB ?_
   show Zbt L L N j = _
   unfold Zbt
   exact Zy (by omega) rfl
  | succ d ih =>
   intro j f hj hf
   obtain ⟨f, rfl⟩ : ∃ g, f = g + 1 := ⟨f - 1, by omega⟩
   refine (ZaG (y := .h1m0 (j + 1)) ?_).trans (ih (j + 1) f (by omega) (by omega))
   show Zbt L L N j = _
   unfold Zbt
   exact Zp (by omega) <| Zp (by omega) <| Zy (fun h => h ⟨⟨rfl, rfl⟩, rfl, ⟨rfl, rfl⟩, rfl, rfl⟩) <| Zp (by omega) rfl
 exact loop L.length 0 N (by omega) (by omega)
theorem same3 {N : Nat} (hN : 1 ≤ N) : ZcE N = some .r0 := (ZdS (show Zd3 N = some (.inl .h1m0) from rfl)).trans (ZeN (n := 0 + 1) (by omega) (ZbB rfl))
theorem ZoS {N : Nat} (hN : 1 ≤ N) : Zcf [] N = some (.r0 true) := (ZdS (show Zd4 [] N = some (.inl .h1m0) from rfl)).trans (ZeN (n := 0 + 1) (by omega) (ZbB rfl))
section
variable {x0 x1 x2 x3 x4 x6 m : Int} {x5 : Bool} {L : List RB} {n c N : Nat}
theorem Zh8 (hm : 0 < m) : ZaA x0 x1 x2 x3 x4 x5 x6 m N = some .r0 := Zp hm rfl
theorem Zet (hm : 0 < m) : ZaM m x0 x1 x2 x3 x4 x5 x6 N = some .r1 := Zy (by omega) rfl
theorem Zfq (hm : 0 < m) (h : (L.length : Int) < m) (hL : L.length ≤ 1000) : ZN x0 x1 x2 x3 x4 x5 x6 m L N = some .r1 := Zp hm <| Zy (by omega) <| Zp (by omega) rfl
theorem Zm9 (hm : 0 < m) (h : m ≤ (L.length : Int)) : ZN x0 x1 x2 x3 x4 x5 x6 m L N = some (.r0 70) := Zp hm <| Zp h rfl
theorem ZgW (h : (L.length : Int) < m) (hL : L.length ≤ 1000) : Zao m L x0 x1 x2 x3 x4 x5 x6 N = some (.r1 (L ++ [⟨x0, x1, x2, x3, x4, x5, x6⟩])) := by
 unfold Zao
 refine Zy (by omega) ?_
 by_cases h0 : L.length = 0
 ·rw [List.eq_nil_of_length_eq_zero h0]; exact Zp rfl rfl
 ·exact Zy h0 <| Zp (by omega) rfl
theorem ZgX (h : m ≤ (L.length : Int)) : Zao m L x0 x1 x2 x3 x4 x5 x6 N = some .r0 := Zp h rfl
theorem Zns (h : L.length ≠ 0) (hL : L.length ≤ 1000) : ZaV m L N = some (.r1 (L.take (L.length - 1))) := by
 unfold ZaV
 refine Zy (by omega) <| Zp (by omega) ?_
 by_cases h0 : L.length - 1 = 0
 ·rw [h0, List.take_zero]; exact Zp (by omega) rfl
 ·exact Zy (by omega) <| Zp (by omega) rfl
theorem Znt (h : L.length = 0) : ZaV m L N = some .r0 := Zp (by omega) rfl
theorem ZmA (hm : 0 < m) (hL : L.length ≤ 1000) : Zbq m L N = some (.r0 L) := by
 unfold Zbq
 refine Zp hm ?_
 by_cases h0 : L.length = 0
 ·rw [List.eq_nil_of_length_eq_zero h0]; exact Zp rfl rfl
 ·exact Zy h0 <| Zp (by omega) rfl
theorem ZmB (hm : 0 < m) (hn : n ≤ L.length) (hL : n ≤ 1000) : Zbr m L n c N = some (.r0 (L.take n)) := by
 unfold Zbr
 refine Zp hm ?_
 by_cases h0 : n = 0
 ·rw [h0, List.take_zero]; exact Zp rfl rfl
 ·exact Zy h0 <| Zp (by omega) <| Zp hn rfl
theorem Zir {e : RB} (h : n < L.length) : (L.set n e).take (n + 1) = L.take n ++ [e] := by
 rw [← Zjo (by rw [List.length_set]; exact h) RB.z, List.take_set_of_le (Nat.le_refl _)]
 congr 1
 simp [List.getD, h]
end
def H1 (a0 : Int) (i : Nat) (D : List RB) : Zc → Prop
 | .h1m1 v4 v6 => v4 = i ∧ D = [] ∧ v6 = a0
 | .h1m2 v4 v6 v7 v8 => v4 = i ∧ v6 = D ∧ v7 = a0 ∧ v8 = D
 | .h1m3 v4 v6 v7 v8 v9 v10 => v4 = i ∧ v6.take v7 = D ∧ v7 ≤ v8 ∧ v8 = v6.length ∧ v9 = a0 ∧ v10 = D
 | .h1m4 v4 v6 v7 => v4 = i ∧ v6 = [] ∧ D = [] ∧ v7 = a0
 | .h1m5 v4 v6 v7 v8 v9 => v4 = i ∧ v7 = 0 ∧ D = [] ∧ v8 = v6.length ∧ v9 = a0
 | _ => False
def H2 (a0 : Int) (i : Nat) (D : List RB) : Zc → Prop
 | .h2m0 v4 v6 v7 v8 => v4 = i ∧ v6 = D ∧ v7 = a0 ∧ v8 = D
 | .h2m1 v4 v6 => v4 = i ∧ D = [] ∧ v6 = a0
 | .h2m2 v4 v6 v7 v8 v9 v10 => v4 = i ∧ v6.take v7 = D ∧ v7 ≤ v8 ∧ v8 = v6.length ∧ v9 = a0 ∧ v10 = D
 | .h2m3 v4 v6 v7 => v4 = i ∧ v6 = [] ∧ D = [] ∧ v7 = a0
 | .h2m4 v4 v6 v7 v8 v9 => v4 = i ∧ v7 = 0 ∧ D = [] ∧ v8 = v6.length ∧ v9 = a0
 | _ => False
def Good (a0 : Int) (i : Nat) (D : List RB) (o : Option (Zc ⊕ Zf)) : Prop :=
 o = some (.inr (.r0 true)) ∨ ∃ D' y, H2 a0 i D' y ∧ (D'.length : Int) ≤ a0 ∧ D'.length ≤ D.length + 1 ∧ o = some (.inl y)
section
variable {a0 : Int} {i : Nat} {D : List RB}
theorem ZV {c : Prop} [Decidable c] {A B : Option (Zc ⊕ Zf)} (h1 : c → Good a0 i D A) (h2 : ¬ c → Good a0 i D B) : Good a0 i D (if c then A else B) := by
 by_cases h : c
 ·rw [if_pos h]; exact h1 h
 ·rw [if_neg h]; exact h2 h
theorem ZbH {c : Prop} [Decidable c] {A B : Option (Zc ⊕ Zf)} (h : c) (h1 : Good a0 i D A) : Good a0 i D (if c then A else B) := by rw [if_pos h]; exact h1
theorem Zca {c : Prop} [Decidable c] {A B : Option (Zc ⊕ Zf)} (h : ¬ c) (h1 : Good a0 i D B) : Good a0 i D (if c then A else B) := by rw [if_neg h]; exact h1
theorem Z1 {α : Type} {o : Option α} {r : α} {k : α → Option (Zc ⊕ Zf)} (e : o = some r) (h : Good a0 i D (k r)) : Good a0 i D (o.bind k) := by rw [e]; exact h
theorem Zft : Good a0 i D (some (.inr (.r0 true))) := .inl rfl
theorem Zaw (D' : List RB) {y : Zc} (h : H2 a0 i D' y) (h1 : (D'.length : Int) ≤ a0) (h2 : D'.length ≤ D.length + 1) : Good a0 i D (some (.inl y)) := .inr ⟨D', y, h, h1, h2, rfl⟩
end
section
variable {a0 : Int} {L2 : List RA} {n3 n4 N i : Nat}
theorem s1  (ha : 0 < a0) (hN : 2000 ≤ N) (h3 : n3 ≤ L2.length) : Good a0 i [] (Zcq a0 L2 n3 n4 N i a0) := by
 unfold Zcq
 refine ZV (fun g0 => ?_) (fun _ => Zft)
 refine ZV (fun g1 => ?_) (fun _ => Zft)
 refine ZbH (by omega) ?_
 refine ZV (fun _ => ?_) (fun _ => ?_)
 ·exact Z1 (Zh8 ha) <| Z1 (Zet ha) <| Zaw [⟨(L2.getD i RA.z).a1, (L2.getD i RA.z).a2, (L2.getD i RA.z).a3, (L2.getD i RA.z).a4, (L2.getD i RA.z).a5, (L2.getD i RA.z).a6, (L2.getD i RA.z).a7⟩] ⟨rfl, rfl, rfl, rfl⟩ (by show (1 : Int) ≤ _; omega) (by show 1 ≤ _; omega)
 refine ZV (fun _ => ?_) (fun _ => ?_)
 ·exact Z1 (Zh8 ha) <| Z1 (Zet ha) <| Zaw [⟨(L2.getD i RA.z).a1, (L2.getD i RA.z).a2, (L2.getD i RA.z).a3, (L2.getD i RA.z).a4, (L2.getD i RA.z).a5, (L2.getD i RA.z).a6, (L2.getD i RA.z).a7⟩] ⟨rfl, rfl, rfl, rfl⟩ (by show (1 : Int) ≤ _; omega) (by show 1 ≤ _; omega)
 refine ZV (fun _ => ?_) (fun _ => ?_)
 ·exact Z1 (show Zb8 a0 N = some .r0 from rfl) <| Zaw [] ⟨rfl, rfl, rfl⟩ (by show (0 : Int) ≤ _; omega) (by show 0 ≤ _; omega)
 refine ZV (fun _ => ?_) (fun _ => ?_)
 ·exact Z1 (Zpx ha (by omega)) <| Z1 (Zm8 (by omega)) <| Zaw [] ⟨rfl, rfl, rfl⟩ (by show (0 : Int) ≤ _; omega) (by show 0 ≤ _; omega)
 refine ZV (fun _ => ?_) (fun _ => ?_)
 ·exact Zaw [] ⟨rfl, rfl, rfl⟩ (by show (0 : Int) ≤ _; omega) (by show 0 ≤ _; omega)
 refine ZV (fun _ => ?_) (fun _ => ?_)
 ·exact Z1 (show ZcL a0 N = some .r0 from Zp ha rfl) <| Z1 (Zh8 ha) <| Zaw [] ⟨rfl, rfl, rfl⟩ (by show (0 : Int) ≤ _; omega) (by show 0 ≤ _; omega)
 exact Zaw [] ⟨rfl, rfl, rfl⟩ (by show (0 : Int) ≤ _; omega) (by show 0 ≤ _; omega)
theorem s2 {D : List RB} (hD : (D.length : Int) ≤ a0) (hl : D.length ≤ 100) (ha : 0 < a0) (hN : 2000 ≤ N) (h3 : n3 ≤ L2.length) : Good a0 i D (Zcr a0 L2 n3 n4 N i D a0 D) := by
 unfold Zcr
 refine ZV (fun g0 => ?_) (fun _ => Zft)
 refine ZV (fun g1 => ?_) (fun _ => Zft)
 refine ZbH (by omega) ?_
 refine ZV (fun _ => ?_) (fun _ => ?_)
 ·by_cases c : (D.length : Int) < a0
  ·exact Z1 (Zfq ha c (by omega)) <| Z1 (ZgW c (by omega)) <| Zaw (D ++ [⟨(L2.getD i RA.z).a1, (L2.getD i RA.z).a2, (L2.getD i RA.z).a3, (L2.getD i RA.z).a4, (L2.getD i RA.z).a5, (L2.getD i RA.z).a6, (L2.getD i RA.z).a7⟩]) ⟨rfl, rfl, rfl, rfl⟩ (by rw [List.length_append]; show ((D.length + 1 : Nat) : Int) ≤ _; omega) (by rw [List.length_append]; exact Nat.le_refl _)
  ·exact Z1 (Zm9 ha (by omega)) <| Z1 (ZgX (by omega)) <| Zca (fun h => h rfl) <| Zaw D ⟨rfl, rfl, rfl, rfl⟩ hD (by omega)
 refine ZV (fun _ => ?_) (fun _ => ?_)
 ·by_cases c : (D.length : Int) < a0
  ·exact Z1 (Zfq ha c (by omega)) <| Z1 (ZgW c (by omega)) <| Zaw (D ++ [⟨(L2.getD i RA.z).a1, (L2.getD i RA.z).a2, (L2.getD i RA.z).a3, (L2.getD i RA.z).a4, (L2.getD i RA.z).a5, (L2.getD i RA.z).a6, (L2.getD i RA.z).a7⟩]) ⟨rfl, rfl, rfl, rfl⟩ (by rw [List.length_append]; show ((D.length + 1 : Nat) : Int) ≤ _; omega) (by rw [List.length_append]; exact Nat.le_refl _)
  ·exact Z1 (Zm9 ha (by omega)) <| Z1 (ZgX (by omega)) <| Zca (fun h => h rfl) <| Zaw D ⟨rfl, rfl, rfl, rfl⟩ hD (by omega)
 refine ZV (fun _ => ?_) (fun _ => ?_)
 ·refine ZbH ha <| ZbH (by omega) ?_
  by_cases c : D.length = 0
  ·exact Zca (by omega) <| Z1 (Znt c) <| Zaw D ⟨rfl, rfl, rfl, rfl⟩ hD (by omega)
  ·have ht : ((D.length : Int) - 1).toNat = D.length - 1 := by omega
   simp only [ht]
   exact ZbH (by omega) <| Z1 (Zns c (by omega)) <| Zca (fun h => h (by simp)) <| Zaw (D.take (D.length - 1)) ⟨rfl, rfl, (by omega), rfl, rfl, rfl⟩ (by rw [List.length_take]; omega) (by rw [List.length_take]; omega)
 refine ZV (fun _ => ?_) (fun _ => ?_)
 ·obtain ⟨u, v, q, e1, e2⟩ := both2 (L := D) (m := a0) (m' := a0) (a := (L2.getD i RA.z).a1) (b := (L2.getD i RA.z).a2) (k := (L2.getD i RA.z).a3) (N := N) ha (by omega) hN
  exact Z1 e1 <| Z1 e2 <| Zca (fun h => h ⟨rfl, rfl⟩) <| Zca (fun h => h rfl) <| Zaw D ⟨rfl, rfl, rfl, rfl⟩ hD (by omega)
 refine ZV (fun _ => ?_) (fun _ => ?_)
 ·refine ZbH ha <| ZV (fun c => ?_) (fun c => ?_)
  ·exact Zca (fun h => h rfl) <| Zaw [] ⟨rfl, rfl, rfl⟩ (by show (0 : Int) ≤ _; omega) (by show 0 ≤ _; omega)
  ·exact Zca (fun h => h rfl) <| Zaw [] ⟨rfl, List.eq_nil_of_length_eq_zero (by omega), rfl, rfl⟩ (by show (0 : Int) ≤ _; omega) (by show 0 ≤ _; omega)
 refine ZV (fun _ => ?_) (fun _ => ?_)
 ·refine Z1 (ZmA ha (by omega)) <| ZbH ha <| ZV (fun c => ?_) (fun c => ?_)
  ·exact Z1 (Zh8 ha) <| Zaw D ⟨rfl, rfl, rfl, rfl⟩ hD (by omega)
  ·exact Z1 (Zfq ha (by omega) (by omega)) <| Zaw D ⟨rfl, rfl, rfl, rfl⟩ hD (by omega)
 exact Zaw D ⟨rfl, rfl, rfl, rfl⟩ hD (by omega)
theorem s3 {v : List RB} {n : Nat} (hc : n ≤ v.length) (hD : (n : Int) ≤ a0) (hl : n ≤ 100) (ha : 0 < a0) (hN : 2000 ≤ N) (h3 : n3 ≤ L2.length) : Good a0 i (v.take n) (Zcs a0 L2 n3 n4 N i v n v.length a0 (v.take n)) := by
 unfold Zcs
 refine ZV (fun g0 => ?_) (fun _ => Zft)
 refine ZV (fun g1 => ?_) (fun _ => Zft)
 refine ZbH (by omega) ?_
 have hlen : (v.take n).length = n := by rw [List.length_take]; omega
 refine ZV (fun _ => ?_) (fun _ => ?_)
 ·by_cases c : a0 ≤ (n : Int)
  ·exact Z1 (show Z0 _ _ _ _ _ _ _ a0 v n v.length N = some (.r0 v 70 n) from Zp ha <| Zp c rfl) <| Z1 (ZgX (by rw [hlen]; exact c)) <| Zca (fun h => h rfl) <| Zaw (v.take n) ⟨rfl, rfl, hc, rfl, rfl, rfl⟩ (by rw [hlen]; exact hD) (by omega)
  ·have hr := ZgW (L := v.take n) (m := a0) (N := N) (x0 := (L2.getD i RA.z).a1) (x1 := (L2.getD i RA.z).a2) (x2 := (L2.getD i RA.z).a3) (x3 := (L2.getD i RA.z).a4) (x4 := (L2.getD i RA.z).a5) (x5 := (L2.getD i RA.z).a6) (x6 := (L2.getD i RA.z).a7) (by rw [hlen]; omega) (by rw [hlen]; omega)
   by_cases c2 : n + 1 ≤ v.length
   ·exact Z1 (show Z0 _ _ _ _ _ _ _ a0 v n v.length N = some (.r0 (v.set n ⟨(L2.getD i RA.z).a1, (L2.getD i RA.z).a2, (L2.getD i RA.z).a3, (L2.getD i RA.z).a4, (L2.getD i RA.z).a5, (L2.getD i RA.z).a6, (L2.getD i RA.z).a7⟩) 0 (n + 1)) from Zp ha <| Zy c <| Zp c2 <| Zp (by omega) rfl) <| Z1 hr <| Zca (fun h => h rfl) <| Zaw (v.take n ++ [⟨(L2.getD i RA.z).a1, (L2.getD i RA.z).a2, (L2.getD i RA.z).a3, (L2.getD i RA.z).a4, (L2.getD i RA.z).a5, (L2.getD i RA.z).a6, (L2.getD i RA.z).a7⟩]) ⟨rfl, Zir (by omega), c2, (List.length_set ..).symm, rfl, rfl⟩ (by rw [List.length_append, hlen]; show ((n + 1 : Nat) : Int) ≤ _; omega) (by rw [List.length_append]; exact Nat.le_refl _)
   ·exact Z1 (show Z0 _ _ _ _ _ _ _ a0 v n v.length N = some .r1 from Zp ha <| Zy c <| Zy c2 <| Zp (by omega) <| Zp hc rfl) <| Z1 hr <| Zaw (v.take n ++ [⟨(L2.getD i RA.z).a1, (L2.getD i RA.z).a2, (L2.getD i RA.z).a3, (L2.getD i RA.z).a4, (L2.getD i RA.z).a5, (L2.getD i RA.z).a6, (L2.getD i RA.z).a7⟩]) ⟨rfl, rfl, rfl, rfl⟩ (by rw [List.length_append, hlen]; show ((n + 1 : Nat) : Int) ≤ _; omega) (by rw [List.length_append]; exact Nat.le_refl _)
 refine ZV (fun _ => ?_) (fun _ => ?_)
 ·by_cases c : a0 ≤ (n : Int)
  ·exact Z1 (show Z0 _ _ _ _ _ _ _ a0 v n v.length N = some (.r0 v 70 n) from Zp ha <| Zp c rfl) <| Z1 (ZgX (by rw [hlen]; exact c)) <| Zca (fun h => h rfl) <| Zaw (v.take n) ⟨rfl, rfl, hc, rfl, rfl, rfl⟩ (by rw [hlen]; exact hD) (by omega)
  ·have hr := ZgW (L := v.take n) (m := a0) (N := N) (x0 := (L2.getD i RA.z).a1) (x1 := (L2.getD i RA.z).a2) (x2 := (L2.getD i RA.z).a3) (x3 := (L2.getD i RA.z).a4) (x4 := (L2.getD i RA.z).a5) (x5 := (L2.getD i RA.z).a6) (x6 := (L2.getD i RA.z).a7) (by rw [hlen]; omega) (by rw [hlen]; omega)
   by_cases c2 : n + 1 ≤ v.length
   ·exact Z1 (show Z0 _ _ _ _ _ _ _ a0 v n v.length N = some (.r0 (v.set n ⟨(L2.getD i RA.z).a1, (L2.getD i RA.z).a2, (L2.getD i RA.z).a3, (L2.getD i RA.z).a4, (L2.getD i RA.z).a5, (L2.getD i RA.z).a6, (L2.getD i RA.z).a7⟩) 0 (n + 1)) from Zp ha <| Zy c <| Zp c2 <| Zp (by omega) rfl) <| Z1 hr <| Zca (fun h => h rfl) <| Zaw (v.take n ++ [⟨(L2.getD i RA.z).a1, (L2.getD i RA.z).a2, (L2.getD i RA.z).a3, (L2.getD i RA.z).a4, (L2.getD i RA.z).a5, (L2.getD i RA.z).a6, (L2.getD i RA.z).a7⟩]) ⟨rfl, Zir (by omega), c2, (List.length_set ..).symm, rfl, rfl⟩ (by rw [List.length_append, hlen]; show ((n + 1 : Nat) : Int) ≤ _; omega) (by rw [List.length_append]; exact Nat.le_refl _)
   ·exact Z1 (show Z0 _ _ _ _ _ _ _ a0 v n v.length N = some .r1 from Zp ha <| Zy c <| Zy c2 <| Zp (by omega) <| Zp hc rfl) <| Z1 hr <| Zaw (v.take n ++ [⟨(L2.getD i RA.z).a1, (L2.getD i RA.z).a2, (L2.getD i RA.z).a3, (L2.getD i RA.z).a4, (L2.getD i RA.z).a5, (L2.getD i RA.z).a6, (L2.getD i RA.z).a7⟩]) ⟨rfl, rfl, rfl, rfl⟩ (by rw [List.length_append, hlen]; show ((n + 1 : Nat) : Int) ≤ _; omega) (by rw [List.length_append]; exact Nat.le_refl _)
 refine ZV (fun _ => ?_) (fun _ => ?_)
 ·refine ZbH ha <| ZbH (by omega) ?_
  by_cases c : n = 0
  ·exact Zca (by omega) <| Z1 (Znt (by rw [hlen]; exact c)) <| Zaw (v.take n) ⟨rfl, rfl, hc, rfl, rfl, rfl⟩ (by rw [hlen]; exact hD) (by omega)
  ·have ht : ((n : Int) - 1).toNat = n - 1 := by omega
   have hg : (v.take n).getD ((v.take n).length - 1) RB.z = v.getD (n - 1) RB.z := by rw [hlen]; simp [List.getD, List.getElem?_take, show n - 1 < n by omega]
   have hp := Zns (L := v.take n) (m := a0) (N := N) (by rw [hlen]; exact c) (by rw [hlen]; omega)
   simp only [ht, hg]
   refine ZbH (by omega) <| ZbH (by omega) <| ZbH (by omega) <| Z1 hp <| Zca (fun h => h (by simp)) <| Zaw (v.take (n - 1)) ⟨rfl, rfl, (by omega), rfl, rfl, ?_⟩ (by rw [List.length_take]; omega) (by rw [List.length_take]; omega)
   rw [hlen, List.take_take, Nat.min_eq_left (by omega)]
 refine ZV (fun _ => ?_) (fun _ => ?_)
 ·obtain ⟨u, w, q, e1, e2⟩ := both3 (L := v) (n := n) (c := v.length) (m := a0) (m' := a0) (a := (L2.getD i RA.z).a1) (b := (L2.getD i RA.z).a2) (k := (L2.getD i RA.z).a3) (N := N) ha hc (by omega) hN
  exact Z1 e1 <| Z1 e2 <| Zca (fun h => h ⟨rfl, rfl⟩) <| Zca (fun h => h rfl) <| Zaw (v.take n) ⟨rfl, rfl, hc, rfl, rfl, rfl⟩ (by rw [hlen]; exact hD) (by omega)
 refine ZV (fun _ => ?_) (fun _ => ?_)
 ·refine ZbH ha <| ZV (fun c => ?_) (fun c => ?_)
  ·exact Zca (fun h => h (by rw [hlen])) <| Zaw [] ⟨rfl, rfl, rfl⟩ (by show (0 : Int) ≤ _; omega) (by show 0 ≤ _; omega)
  ·exact Zca (fun h => h (by rw [hlen])) <| Zaw [] ⟨rfl, (by omega), rfl, rfl, rfl⟩ (by show (0 : Int) ≤ _; omega) (by show 0 ≤ _; omega)
 refine ZV (fun _ => ?_) (fun _ => ?_)
 ·have to0 : Good a0 i (v.take n) (some (.inl (.h2m0 i (v.take n) a0 (v.take n)))) := Zaw (v.take n) ⟨rfl, rfl, rfl, rfl⟩ (by rw [hlen]; exact hD) (by omega)
  refine Z1 (ZmB ha hc (by omega)) <| ZbH ha <| ZV (fun c => ?_) (fun c => ?_)
  ·exact Z1 (Zh8 ha) to0
  ·by_cases c2 : n + 1 ≤ v.length
   ·exact Z1 (show Z0 0 0 77 0 0 false 0 a0 v n v.length N = some (.r0 _ 0 (n + 1)) from Zp ha <| Zy (by omega) <| Zp c2 <| Zp (by omega) rfl) to0
   ·exact Z1 (show Z0 0 0 77 0 0 false 0 a0 v n v.length N = some .r1 from Zp ha <| Zy (by omega) <| Zy c2 <| Zp (by omega) <| Zp hc rfl) to0
 exact Zaw (v.take n) ⟨rfl, rfl, hc, rfl, rfl, rfl⟩ (by rw [hlen]; exact hD) (by omega)
theorem s4  (ha : 0 < a0) (hN : 2000 ≤ N) (h3 : n3 ≤ L2.length) : Good a0 i [] (Zct a0 L2 n3 n4 N i [] a0) := by
 unfold Zct
 refine ZV (fun g0 => ?_) (fun _ => Zft)
 refine ZV (fun g1 => ?_) (fun _ => Zft)
 refine ZbH (by omega) ?_
 refine ZV (fun _ => ?_) (fun _ => ?_)
 ·exact Z1 (Zfq (L := []) ha (by show (0 : Int) < _; omega) (by decide)) <| Z1 (Zet ha) <| Zaw [⟨(L2.getD i RA.z).a1, (L2.getD i RA.z).a2, (L2.getD i RA.z).a3, (L2.getD i RA.z).a4, (L2.getD i RA.z).a5, (L2.getD i RA.z).a6, (L2.getD i RA.z).a7⟩] ⟨rfl, rfl, rfl, rfl⟩ (by show (1 : Int) ≤ _; omega) (by show 1 ≤ _; omega)
 refine ZV (fun _ => ?_) (fun _ => ?_)
 ·exact Z1 (Zfq (L := []) ha (by show (0 : Int) < _; omega) (by decide)) <| Z1 (Zet ha) <| Zaw [⟨(L2.getD i RA.z).a1, (L2.getD i RA.z).a2, (L2.getD i RA.z).a3, (L2.getD i RA.z).a4, (L2.getD i RA.z).a5, (L2.getD i RA.z).a6, (L2.getD i RA.z).a7⟩] ⟨rfl, rfl, rfl, rfl⟩ (by show (1 : Int) ≤ _; omega) (by show 1 ≤ _; omega)
 refine ZV (fun _ => ?_) (fun _ => ?_)
 ·exact ZbH ha <| ZbH (by decide) <| Zca (by decide) <| Z1 (show Zb8 a0 N = some .r0 from rfl) <| Zaw [] ⟨rfl, rfl, rfl, rfl⟩ (by show (0 : Int) ≤ _; omega) (by show 0 ≤ _; omega)
 refine ZV (fun _ => ?_) (fun _ => ?_)
 ·have e1 := Zfe (L := []) (a := (L2.getD i RA.z).a1) (b := (L2.getD i RA.z).a2) (k := (L2.getD i RA.z).a3) (N := N) ha (by decide) hN
  exact Z1 e1 <| Z1 (Zm8 (by omega)) <| Zca (fun h => h ⟨rfl, rfl⟩) <| Zca (fun h => h rfl) <| Zaw [] ⟨rfl, rfl, rfl, rfl⟩ (by show (0 : Int) ≤ _; omega) (by show 0 ≤ _; omega)
 refine ZV (fun _ => ?_) (fun _ => ?_)
 ·exact ZbH ha <| Zca (by decide) <| Zaw [] ⟨rfl, rfl, rfl, rfl⟩ (by show (0 : Int) ≤ _; omega) (by show 0 ≤ _; omega)
 refine ZV (fun _ => ?_) (fun _ => ?_)
 ·exact Z1 (ZmA (L := []) ha (by decide)) <| ZbH ha <| Zca (by decide) <| Z1 (Zfq (L := []) ha (by show (0 : Int) < _; omega) (by decide)) <| Zaw [] ⟨rfl, rfl, rfl, rfl⟩ (by show (0 : Int) ≤ _; omega) (by show 0 ≤ _; omega)
 exact Zaw [] ⟨rfl, rfl, rfl, rfl⟩ (by show (0 : Int) ≤ _; omega) (by show 0 ≤ _; omega)
theorem s5 {v : List RB} (ha : 0 < a0) (hN : 2000 ≤ N) (h3 : n3 ≤ L2.length) : Good a0 i [] (Zcu a0 L2 n3 n4 N i v 0 v.length a0) := by
 unfold Zcu
 refine ZV (fun g0 => ?_) (fun _ => Zft)
 refine ZV (fun g1 => ?_) (fun _ => Zft)
 refine ZbH (by omega) ?_
 refine ZV (fun _ => ?_) (fun _ => ?_)
 ·by_cases c2 : 0 + 1 ≤ v.length
  ·exact Z1 (show Z0 _ _ _ _ _ _ _ a0 v 0 v.length N = some (.r0 (v.set 0 ⟨(L2.getD i RA.z).a1, (L2.getD i RA.z).a2, (L2.getD i RA.z).a3, (L2.getD i RA.z).a4, (L2.getD i RA.z).a5, (L2.getD i RA.z).a6, (L2.getD i RA.z).a7⟩) 0 (0 + 1)) from Zp ha <| Zy (by omega) <| Zp c2 <| Zp (by omega) rfl) <| Z1 (Zet ha) <| Zca (fun h => h rfl) <| Zaw [⟨(L2.getD i RA.z).a1, (L2.getD i RA.z).a2, (L2.getD i RA.z).a3, (L2.getD i RA.z).a4, (L2.getD i RA.z).a5, (L2.getD i RA.z).a6, (L2.getD i RA.z).a7⟩] ⟨rfl, Zir (by omega), c2, (List.length_set ..).symm, rfl, rfl⟩ (by show (1 : Int) ≤ _; omega) (by show 1 ≤ _; omega)
  ·exact Z1 (show Z0 _ _ _ _ _ _ _ a0 v 0 v.length N = some .r1 from Zp ha <| Zy (by omega) <| Zy c2 <| Zp (by omega) <| Zp (by omega) rfl) <| Z1 (Zet ha) <| Zaw [⟨(L2.getD i RA.z).a1, (L2.getD i RA.z).a2, (L2.getD i RA.z).a3, (L2.getD i RA.z).a4, (L2.getD i RA.z).a5, (L2.getD i RA.z).a6, (L2.getD i RA.z).a7⟩] ⟨rfl, rfl, rfl, rfl⟩ (by show (1 : Int) ≤ _; omega) (by show 1 ≤ _; omega)
 refine ZV (fun _ => ?_) (fun _ => ?_)
 ·by_cases c2 : 0 + 1 ≤ v.length
  ·exact Z1 (show Z0 _ _ _ _ _ _ _ a0 v 0 v.length N = some (.r0 (v.set 0 ⟨(L2.getD i RA.z).a1, (L2.getD i RA.z).a2, (L2.getD i RA.z).a3, (L2.getD i RA.z).a4, (L2.getD i RA.z).a5, (L2.getD i RA.z).a6, (L2.getD i RA.z).a7⟩) 0 (0 + 1)) from Zp ha <| Zy (by omega) <| Zp c2 <| Zp (by omega) rfl) <| Z1 (Zet ha) <| Zca (fun h => h rfl) <| Zaw [⟨(L2.getD i RA.z).a1, (L2.getD i RA.z).a2, (L2.getD i RA.z).a3, (L2.getD i RA.z).a4, (L2.getD i RA.z).a5, (L2.getD i RA.z).a6, (L2.getD i RA.z).a7⟩] ⟨rfl, Zir (by omega), c2, (List.length_set ..).symm, rfl, rfl⟩ (by show (1 : Int) ≤ _; omega) (by show 1 ≤ _; omega)
  ·exact Z1 (show Z0 _ _ _ _ _ _ _ a0 v 0 v.length N = some .r1 from Zp ha <| Zy (by omega) <| Zy c2 <| Zp (by omega) <| Zp (by omega) rfl) <| Z1 (Zet ha) <| Zaw [⟨(L2.getD i RA.z).a1, (L2.getD i RA.z).a2, (L2.getD i RA.z).a3, (L2.getD i RA.z).a4, (L2.getD i RA.z).a5, (L2.getD i RA.z).a6, (L2.getD i RA.z).a7⟩] ⟨rfl, rfl, rfl, rfl⟩ (by show (1 : Int) ≤ _; omega) (by show 1 ≤ _; omega)
 refine ZV (fun _ => ?_) (fun _ => ?_)
 ·exact ZbH ha <| ZbH (by decide) <| Zca (by decide) <| Z1 (show Zb8 a0 N = some .r0 from rfl) <| Zaw [] ⟨rfl, rfl, rfl, rfl, rfl⟩ (by show (0 : Int) ≤ _; omega) (by show 0 ≤ _; omega)
 refine ZV (fun _ => ?_) (fun _ => ?_)
 ·have e1 := Zff (L := v) (n := 0) (c := v.length) (a := (L2.getD i RA.z).a1) (b := (L2.getD i RA.z).a2) (k := (L2.getD i RA.z).a3) (N := N) ha (by omega) (by decide) hN
  exact Z1 e1 <| Z1 (Zm8 (by omega)) <| Zca (fun h => h ⟨rfl, rfl⟩) <| Zca (fun h => h rfl) <| Zaw [] ⟨rfl, rfl, rfl, rfl, rfl⟩ (by show (0 : Int) ≤ _; omega) (by show 0 ≤ _; omega)
 refine ZV (fun _ => ?_) (fun _ => ?_)
 ·exact ZbH ha <| Zca (by decide) <| Zaw [] ⟨rfl, rfl, rfl, rfl, rfl⟩ (by show (0 : Int) ≤ _; omega) (by show 0 ≤ _; omega)
 refine ZV (fun _ => ?_) (fun _ => ?_)
 ·have to0 : Good a0 i [] (some (.inl (.h2m3 i (v.take 0) a0))) := Zaw [] ⟨rfl, rfl, rfl, rfl⟩ (by show (0 : Int) ≤ _; omega) (by show 0 ≤ _; omega)
  refine Z1 (ZmB ha (by omega) (by decide)) <| ZbH ha <| Zca (by decide) ?_
  by_cases c2 : 0 + 1 ≤ v.length
  ·exact Z1 (show Z0 0 0 77 0 0 false 0 a0 v 0 v.length N = some (.r0 _ 0 (0 + 1)) from Zp ha <| Zy (by omega) <| Zp c2 <| Zp (by omega) rfl) to0
  ·exact Z1 (show Z0 0 0 77 0 0 false 0 a0 v 0 v.length N = some .r1 from Zp ha <| Zy (by omega) <| Zy c2 <| Zp (by omega) <| Zp (by omega) rfl) to0
 exact Zaw [] ⟨rfl, rfl, rfl, rfl, rfl⟩ (by show (0 : Int) ≤ _; omega) (by show 0 ≤ _; omega)
theorem s_all {D : List RB} {x : Zc} (h : H1 a0 i D x) (hD : (D.length : Int) ≤ a0) (hl : D.length ≤ 100) (ha : 0 < a0) (hN : 2000 ≤ N) (h3 : n3 ≤ L2.length) : Good a0 i D (Zt a0 L2 n3 n4 N x) := by
 cases x with
 | h1m1 v4 v6 => obtain ⟨rfl, rfl, rfl⟩ := h; exact s1 (n4 := n4) ha hN h3
 | h1m2 v4 v6 v7 v8 => obtain ⟨rfl, rfl, rfl, rfl⟩ := h; exact s2 (n4 := n4) hD hl ha hN h3
 | h1m3 v4 v6 v7 v8 v9 v10 =>
  obtain ⟨rfl, rfl, hc, rfl, rfl, rfl⟩ := h
  rw [List.length_take, Nat.min_eq_left hc] at hD hl
  exact s3 (n4 := n4) hc hD hl ha hN h3
 | h1m4 v4 v6 v7 => obtain ⟨rfl, rfl, rfl, rfl⟩ := h; exact s4 (n4 := n4) ha hN h3
 | h1m5 v4 v6 v7 v8 v9 => obtain ⟨rfl, rfl, rfl, rfl, rfl⟩ := h; exact s5 (n4 := n4) ha hN h3
 | _ => exact h.elim
theorem Zfd {D : List RB} {y : Zc} {B : Nat} (h : H2 a0 i D y) (hD : (D.length : Int) ≤ a0) (hl : D.length ≤ 100) (ha : 0 < a0) (hi : i ≤ 1000) (hN : 2000 ≤ N) (hB : ∀ x f, H1 a0 (i + 1) D x → B < f → Zb1 (Zt a0 L2 n3 n4 N) f x = some (.r0 true)) :
  ∀ f, B + 110 < f → Zb1 (Zt a0 L2 n3 n4 N) f y = some (.r0 true) := by
 intro f hf
 obtain ⟨f, rfl⟩ : ∃ g, f = g + 1 := ⟨f - 1, by omega⟩
 cases y with
 | h2m0 v4 v6 v7 v8 =>
  obtain ⟨rfl, rfl, rfl, rfl⟩ := h
  have lp : ∀ d k w f, k + d = w.length → w.length ≤ 100 → B + d + 1 < f → Zb1 (Zt v7 L2 n3 n4 N) f (.h3m0 v4 w k v8 v7 v8) = some (.r0 true) := by
   intro d
   induction d with
   | zero =>
    intro k w f hk hw hf
    obtain ⟨f, rfl⟩ : ∃ g, f = g + 1 := ⟨f - 1, by omega⟩
    refine (ZaG (y := .h1m2 (v4 + 1) v8 v7 v8) ?_).trans (hB (.h1m2 (v4 + 1) v8 v7 v8) f ⟨rfl, rfl, rfl, rfl⟩ (by omega))
    show Zbl v7 L2 n3 n4 N v4 w k v8 v7 v8 = _
    unfold Zbl
    exact Zy (by omega) <| Zp (by omega) rfl
   | succ d ih =>
    intro k w f hk hw hf
    obtain ⟨f, rfl⟩ : ∃ g, f = g + 1 := ⟨f - 1, by omega⟩
    refine (ZaG (y := .h3m0 v4 (w.set k ⟨(w.getD k RB.z).a0, (w.getD k RB.z).a1, 99, (w.getD k RB.z).a3, (w.getD k RB.z).a4, (w.getD k RB.z).a5, (w.getD k RB.z).a6⟩) (k + 1) v8 v7 v8) ?_).trans (ih (k + 1) _ f (by rw [List.length_set]; omega) (by rw [List.length_set]; omega) (by omega))
    show Zbl v7 L2 n3 n4 N v4 w k v8 v7 v8 = _
    unfold Zbl
    exact Zp (by omega) <| Zp (by omega) rfl
  by_cases c : v8.length = 0
  ·obtain rfl := List.eq_nil_of_length_eq_zero c
   refine (ZaG (y := .h3m0 v4 [] 0 [] v7 []) ?_).trans (lp 0 0 [] f rfl (by decide) (by omega))
   show Zbj v7 L2 n3 n4 N v4 [] v7 [] = _
   unfold Zbj
   exact Zp ha <| Zp rfl <| Zc4 (Zj2 (by decide) hN) <| Zy (fun h => h rfl) <| Zy (fun h => h rfl) <| Zy (by omega) rfl
  ·refine (ZaG (y := .h3m0 v4 v8 0 v8 v7 v8) ?_).trans (lp v8.length 0 v8 f (by omega) hl (by omega))
   show Zbj v7 L2 n3 n4 N v4 v8 v7 v8 = _
   unfold Zbj
   exact Zp ha <| Zy c <| Zp (by omega) <| Zc4 (Zj2 (by omega) hN) <| Zy (fun h => h rfl) <| Zy (fun h => h rfl) <| Zy (by omega) rfl
 | h2m1 v4 v6 =>
  obtain ⟨rfl, rfl, rfl⟩ := h
  obtain ⟨f, rfl⟩ : ∃ g, f = g + 1 := ⟨f - 1, by omega⟩
  refine (ZaG (y := .h3m1 v4 v6) ?_).trans ((ZaG (y := .h1m1 (v4 + 1) v6) ?_).trans (hB (.h1m1 (v4 + 1) v6) f ⟨rfl, rfl, rfl⟩ (by omega)))
  ·show Zcv v6 L2 n3 n4 N v4 v6 = _
   unfold Zcv
   exact Zc4 (same3 (by omega)) <| Zy (by omega) rfl
  ·show Zcy v6 L2 n3 n4 N v4 v6 = _
   unfold Zcy
   exact Zp (by omega) rfl
 | h2m2 v4 v6 v7 v8 v9 v10 =>
  obtain ⟨rfl, rfl, hc, rfl, rfl, rfl⟩ := h
  have hlen : (v6.take v7).length = v7 := by rw [List.length_take]; omega
  rw [hlen] at hD hl
  have lp : ∀ d k w f, k + d = w.length → w.length ≤ 100 → B + d + 1 < f → Zb1 (Zt v9 L2 n3 n4 N) f (.h3m4 v4 w k v6 v7 v6.length v9 (v6.take v7)) = some (.r0 true) := by
   intro d
   induction d with
   | zero =>
    intro k w f hk hw hf
    obtain ⟨f, rfl⟩ : ∃ g, f = g + 1 := ⟨f - 1, by omega⟩
    refine (ZaG (y := .h1m3 (v4 + 1) v6 v7 v6.length v9 (v6.take v7)) ?_).trans (hB (.h1m3 (v4 + 1) v6 v7 v6.length v9 (v6.take v7)) f ⟨rfl, rfl, hc, rfl, rfl, rfl⟩ (by omega))
    show Zbm v9 L2 n3 n4 N v4 w k v6 v7 v6.length v9 (v6.take v7) = _
    unfold Zbm
    exact Zy (by omega) <| Zp (by omega) rfl
   | succ d ih =>
    intro k w f hk hw hf
    obtain ⟨f, rfl⟩ : ∃ g, f = g + 1 := ⟨f - 1, by omega⟩
    refine (ZaG (y := .h3m4 v4 (w.set k ⟨(w.getD k RB.z).a0, (w.getD k RB.z).a1, 99, (w.getD k RB.z).a3, (w.getD k RB.z).a4, (w.getD k RB.z).a5, (w.getD k RB.z).a6⟩) (k + 1) v6 v7 v6.length v9 (v6.take v7)) ?_).trans (ih (k + 1) _ f (by rw [List.length_set]; omega) (by rw [List.length_set]; omega) (by omega))
    show Zbm v9 L2 n3 n4 N v4 w k v6 v7 v6.length v9 (v6.take v7) = _
    unfold Zbm
    exact Zp (by omega) <| Zp (by omega) rfl
  by_cases c : v7 = 0
  ·subst c
   refine (ZaG (y := .h3m4 v4 [] 0 v6 0 v6.length v9 (v6.take 0)) ?_).trans (lp 0 0 [] f rfl (by decide) (by omega))
   show Zbk v9 L2 n3 n4 N v4 v6 0 v6.length v9 (v6.take 0) = _
   unfold Zbk
   exact Zp ha <| Zp rfl <| Zc4 (Zj2 (L := []) (by decide) hN) <| Zy (fun h => h rfl) <| Zy (fun h => h rfl) <| Zy (by omega) rfl
  ·refine (ZaG (y := .h3m4 v4 (v6.take v7) 0 v6 v7 v6.length v9 (v6.take v7)) ?_).trans (lp v7 0 (v6.take v7) f (by rw [hlen]; omega) (by rw [hlen]; exact hl) (by omega))
   show Zbk v9 L2 n3 n4 N v4 v6 v7 v6.length v9 (v6.take v7) = _
   unfold Zbk
   exact Zp ha <| Zy c <| Zp (by omega) <| Zp hc <| Zc4 (Zj2 (by omega) hN) <| Zy (fun h => h rfl) <| Zy (fun h => h (by rw [hlen])) <| Zy (by omega) rfl
 | h2m3 v4 v6 v7 =>
  obtain ⟨rfl, rfl, rfl, rfl⟩ := h
  obtain ⟨f, rfl⟩ : ∃ g, f = g + 1 := ⟨f - 1, by omega⟩
  refine (ZaG (y := .h3m5 v4 [] v7) ?_).trans ((ZaG (y := .h1m4 (v4 + 1) [] v7) ?_).trans (hB (.h1m4 (v4 + 1) [] v7) f ⟨rfl, rfl, rfl, rfl⟩ (by omega)))
  ·show Zcw v7 L2 n3 n4 N v4 [] v7 = _
   unfold Zcw
   exact Zp ha <| Zp rfl <| Zc4 (ZoS (by omega)) <| Zy (fun h => h rfl) <| Zy (by omega) rfl
  ·show Zcz v7 L2 n3 n4 N v4 [] v7 = _
   unfold Zcz
   exact Zp (by omega) rfl
 | h2m4 v4 v6 v7 v8 v9 =>
  obtain ⟨rfl, rfl, rfl, rfl, rfl⟩ := h
  obtain ⟨f, rfl⟩ : ∃ g, f = g + 1 := ⟨f - 1, by omega⟩
  refine (ZaG (y := .h3m8 v4 v6 0 v6.length v9) ?_).trans ((ZaG (y := .h1m5 (v4 + 1) v6 0 v6.length v9) ?_).trans (hB (.h1m5 (v4 + 1) v6 0 v6.length v9) f ⟨rfl, rfl, rfl, rfl, rfl⟩ (by omega)))
  ·show Zcx v9 L2 n3 n4 N v4 v6 0 v6.length v9 = _
   unfold Zcx
   exact Zp ha <| Zp rfl <| Zc4 (ZoS (by omega)) <| Zy (fun h => h rfl) <| Zy (by omega) rfl
  ·show Zc0 v9 L2 n3 n4 N v4 v6 0 v6.length v9 = _
   unfold Zc0
   exact Zp (by omega) rfl
 | _ => exact h.elim
theorem all (ha : 0 < a0) (hN : 2000 ≤ N) (h3 : n3 ≤ L2.length) : ∀ d i D x f, i + d = 61 → D.length ≤ i → (D.length : Int) ≤ a0 → H1 a0 i D x → 200 * d < f → Zb1 (Zt a0 L2 n3 n4 N) f x = some (.r0 true) := by
 intro d
 induction d with
 | zero =>
  intro i D x f hi hl hD h hf
  obtain ⟨f, rfl⟩ : ∃ g, f = g + 1 := ⟨f - 1, by omega⟩
  have hx : Zt a0 L2 n3 n4 N x = some (.inr (.r0 true)) := by
   have e : ∀ (A B : Option (Zc ⊕ Zf)), B = some (.inr (.r0 true)) → (if (i : Int) < (n3 : Int) then (if (i : Int) < (60 : Int) then A else B) else B) = some (.inr (.r0 true)) := fun A B h => by
    by_cases c : (i : Int) < (n3 : Int)
    ·rw [if_pos c, if_neg (by omega)]; exact h
    ·rw [if_neg c]; exact h
   cases x with
   | h1m1 v4 v6 => obtain ⟨rfl, _⟩ := h; exact e _ _ rfl
   | h1m2 v4 v6 v7 v8 => obtain ⟨rfl, _⟩ := h; exact e _ _ rfl
   | h1m3 v4 v6 v7 v8 v9 v10 => obtain ⟨rfl, _⟩ := h; exact e _ _ rfl
   | h1m4 v4 v6 v7 => obtain ⟨rfl, _⟩ := h; exact e _ _ rfl
   | h1m5 v4 v6 v7 v8 v9 => obtain ⟨rfl, _⟩ := h; exact e _ _ rfl
   | _ => exact h.elim
  exact ZbB hx
 | succ d ih =>
  intro i D x f hi hl hD h hf
  obtain ⟨f, rfl⟩ : ∃ g, f = g + 1 := ⟨f - 1, by omega⟩
  rcases s_all (n3 := n3) (n4 := n4) h hD (by omega) ha hN h3 with g | ⟨D', y, h2, g1, g2, g3⟩
  ·exact ZbB g
  ·exact (ZaG g3).trans (Zfd (B := 200 * d) h2 g1 (by omega) ha (by omega) hN (fun x f hx hf => ih (i + 1) D' x f (by omega) (by omega) g1 hx hf) f (by omega))
theorem runs (h3 : n3 ≤ L2.length) (hN : 20000 ≤ N) : Zhw a0 L2 n3 n4 N = some (.r0 true) := by
 by_cases c : a0 < 1 ∨ 4096 < a0
 ·have hn : ZbI a0 N = some .r0 := by
   unfold ZbI
   by_cases c1 : a0 < 1
   ·exact Zp c1 rfl
   ·exact Zy c1 <| Zp (by omega) rfl
  have hr : Zbd a0 N = some (.r0 0 1) := by
   unfold Zbd
   by_cases c1 : a0 < 1
   ·exact Zp c1 rfl
   ·exact Zy c1 <| Zp (by omega) rfl
  exact (ZdS (show Zdh a0 L2 n3 n4 N = some (.inl (.h1m0 0)) from Zc4 hn <| Zc4 hr <| Zy (fun h => h rfl) rfl)).trans (ZeN (n := 0 + 1) (by omega) (ZbB rfl))
 ·have hn : ZbI a0 N = some .r1 := by unfold ZbI; exact Zy (by omega) <| Zy (by omega) rfl
  have hr : Zbd a0 N = some (.r0 a0 0) := by unfold Zbd; exact Zy (by omega) <| Zy (by omega) rfl
  exact (ZdS (show Zdh a0 L2 n3 n4 N = some (.inl (.h1m1 0 a0)) from Zc4 hn <| Zc4 hr <| Zy (fun h => h rfl) rfl)).trans (all (by omega) (by omega) h3 61 0 [] _ N rfl (Nat.le_refl _) (by show (0 : Int) ≤ _; omega) ⟨rfl, rfl, rfl⟩ (by omega))
theorem runs2 (hN : 20000 ≤ N) : Zg2 a0 N = some (.r0 true) := by
 by_cases c : a0 < 1 ∨ 4096 < a0
 ·have hn : ZbI a0 N = some .r0 := by
   unfold ZbI
   by_cases c1 : a0 < 1
   ·exact Zp c1 rfl
   ·exact Zy c1 <| Zp (by omega) rfl
  have hr : Zbd a0 N = some (.r0 0 1) := by
   unfold Zbd
   by_cases c1 : a0 < 1
   ·exact Zp c1 rfl
   ·exact Zy c1 <| Zp (by omega) rfl
  exact (ZdS (show ZcA a0 N = some (.inl (.h1m0 0)) from Zc4 hn <| Zc4 hr <| Zy (fun h => h rfl) rfl)).trans (ZeN (n := 0 + 1) (by omega) (ZbB rfl))
 ·have hn : ZbI a0 N = some .r1 := by unfold ZbI; exact Zy (by omega) <| Zy (by omega) rfl
  have hr : Zbd a0 N = some (.r0 a0 0) := by unfold Zbd; exact Zy (by omega) <| Zy (by omega) rfl
  exact (ZdS (show ZcA a0 N = some (.inl (.h1m1 a0)) from Zc4 hn <| Zc4 hr <| Zy (fun h => h rfl) rfl)).trans (ZeN (n := 0 + 1) (by omega) (ZbB rfl))
end
end Ur
end Ev
end Go.Proofs.Ytgnmjjakmeomiaa
