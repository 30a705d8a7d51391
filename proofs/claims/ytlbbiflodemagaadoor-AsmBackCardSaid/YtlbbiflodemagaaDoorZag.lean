/- The law AsmBack, for every input. -/
import Derived.Test.YtlbbiflodemagaaDoorZaf
import Derived.Test.YtlbbiflodemagaaDoorZac
import Derived.StillTail
import Derived.OrdersHeld
import Derived.WideBlind
import Derived.Test.YtlbbiflodemagaaDoorZad
import Derived.Lib.LaidTab
import Derived.LaidMore
import Derived.LaidSub
import Derived.MakeChecks
import Derived.Handed
import Derived.Stop.Joined
import Derived.LaidLaws
import Derived.Test.YtlbbiflodemagaaDoorTie
import Derived.Test.YtlbbiflodemagaaDoorCards
import Derived.Lay
set_option linter.unusedSimpArgs false
set_option linter.unusedVariables false
/- AsmBack: what is printed is parsed, plainly. -/
namespace Go.Proofs.YtlbbiflodemagaaDoor
open Go.RowKit
namespace Ev
set_option linter.unusedVariables false
set_option maxHeartbeats 4000000 in
theorem Zy3 {a0 a1 a2 a3 : Int} {N : Nat} (h : Z7 a0 a1 a2 a3 N = some (.r0 0)) : Zd4 a0 a1 a2 a3 N = some (.r0 (Zbc (ZqM a0 a1 a2 a3)) 0) := by
 obtain ⟨b1, b2, b3, _⟩ := Zs0 h
 have l : ∀ {a : Int}, BdN a → (-9223372036854775808 : Int) ≤ a ∧ a ≤ 9223372036854775807 ∧ (Zd a).length ≤ 21 := fun {a} g => ⟨by have := g.1; omega, by have := g.2; omega, by have := Zsw g.1 g.2; omega⟩
 have l1 := l b1
 have l2 := l b2
 have l3 := l b3
 unfold Zd4
 rw [h]
 refine Z4 rfl <| Zv (by decide) ?_
 rcases ZuQ (ZoK h) with e | e | e | e | e | e | e | e | e | e | e | e | e | e | e | e | e | e | e | e <;> subst e
 all_goals
  repeat (refine Zv (by decide) ?_)
  try (refine Zn rfl ?_)
  repeat (first | refine Zn l1.1 <| Zn l1.2.1 <| Zn l1.2.2 ?_ | refine Zn l2.1 <| Zn l2.2.1 <| Zn l2.2.2 ?_ | refine Zn l3.1 <| Zn l3.2.1 <| Zn l3.2.2 ?_)
  exact congrArg (fun T => some (asm_LineR.r0 T 0)) (by simp [bl, Zbc, ZqM])

theorem yo {α : Type} {c : Prop} [Decidable c] {a b r : α} (e : a = r) (h : c := by omega) : (if c then a else b) = r := Zn h e
/-! ### Maps -/
theorem Zxb {a b : List Int} (ha : Z1 a = true) (hb : Z1 b = true) : Zaa a b = true ↔ a = b := by
 constructor
 ·intro h
  have h1 : Zb a = Zb b := bEq.1 h
  have h2 := congrArg (fun x : ByteArray => x.data.toList) h1
  simp only [Zb0] at h2
  exact ZoY ha hb h2
 ·rintro rfl
  exact bEq.2 rfl
theorem ZtK {a b c : List Int} (h : Zaa a b = true) : Zaa c a = Zaa c b := by
 have h1 : Zb a = Zb b := bEq.1 h
 show (Zb c == Zb a) = (Zb c == Zb b)
 rw [h1]
theorem Zle (x : R_si) (M : List R_si) (l : List Int) : Zba (x :: M) l = (Zaa l x.a0 || Zba M l) := rfl
theorem Zjw (x : R_si) (M : List R_si) (l : List Int) : Z2 (x :: M) l = if Zaa l x.a0 = true then x.a1 else Z2 M l := by
 unfold Z2
 rw [List.find?_cons]
 cases Zaa l x.a0 <;> rfl
theorem Zm7 (k : List Int) (v : Int) (l : List Int) : ∀ M, Zba (ZaS M k v) l = (Zaa l k || Zba M l)
 | [] => rfl
 | x :: M => by
  unfold ZaS
  by_cases h : Zaa k x.a0 = true
  ·rw [if_pos h, Zle, Zle, ← ZtK (c := l) h]
   cases Zaa l k <;> rfl
  ·rw [if_neg h, Zle, Zle, Zm7 k v l M]
   cases Zaa l x.a0 <;> cases Zaa l k <;> rfl
theorem ZpI (k : List Int) (v : Int) (l : List Int) : ∀ M, Z2 (ZaS M k v) l = if Zaa l k = true then v else Z2 M l
 | [] => Zjw _ _ _
 | x :: M => by
  unfold ZaS
  by_cases h : Zaa k x.a0 = true
  ·rw [if_pos h, Zjw, Zjw, ← ZtK (c := l) h]
   cases Zaa l k <;> rfl
  ·rw [if_neg h, Zjw, Zjw, ZpI k v l M]
   by_cases h1 : Zaa l k = true
   ·have h2 : ¬ Zaa l x.a0 = true := fun h2 => h (by
     have e : Zb l = Zb k := bEq.1 h1
     have e2 : Zb l = Zb x.a0 := bEq.1 h2
     exact bEq.2 (e.symm.trans e2))
    rw [if_neg h2, if_pos h1, if_pos h1]
   ·by_cases h2 : Zaa l x.a0 = true
    ·rw [if_pos h2, if_neg h1, if_pos h2]
    ·rw [if_neg h2, if_neg h1, if_neg h1, if_neg h2]
theorem ZtL {j : Int} (h0 : 0 ≤ j) (h1 : j ≤ 512) : Z1 (76 :: Zd j) = true := Zc4.2 ⟨by omega, ZgJ j (by omega) (by omega)⟩
theorem Zxr {i j : Nat} (hi : i ≤ 512) (hj : j ≤ 512) (h : i ≠ j) : Zaa (76 :: Zd (i : Int)) (76 :: Zd (j : Int)) = false := by
 cases hb : Zaa (76 :: Zd (i : Int)) (76 :: Zd (j : Int)) with
 | false => rfl
 | true =>
  have e := (Zxb (ZtL (by omega) (by omega)) (ZtL (by omega) (by omega))).1 hb
  injection e with _ e
  have h1 := Zjb (n := (i : Int)) (by omega) (by omega)
  have h2 := Zjb (n := (j : Int)) (by omega) (by omega)
  rw [e, h2] at h1
  omega
/-! ### Programs that may be -/
theorem ZuT {x : RA} {N : Nat} (h : ckB x N = true) : Z7 x.a0 x.a1 x.a2 x.a3 N = some (.r0 0) := by
 obtain ⟨c, hc⟩ := Zmj x.a0 x.a1 x.a2 x.a3 N
 unfold ckB at h
 rw [hc] at h
 have e : c = 0 := of_decide_eq_true h
 rw [hc, e]
theorem ck_is {x : RA} {c : Int} {N : Nat} (hc : Z7 x.a0 x.a1 x.a2 x.a3 N = some (.r0 c)) : ckB x N = decide (c = 0) := by
 unfold ckB
 rw [hc]
def ZcE (x : RA) : Option Int := if x.a0 = 8 then some x.a1 else if x.a0 = 9 then some x.a2 else none
def Zlf (N n : Nat) (x : RA) : Prop := ckB x N = true ∧ ∀ t, ZcE x = some t → t ≤ (n : Int)
def Zd5 (N : Nat) (p : List RA) : Prop := ∀ j, j < p.length → Zlf N p.length (p.getD j RA.z)
theorem Zs1 {x : RA} {N : Nat} (h : ckB x N = true) {t : Int} (ht : ZcE x = some t) : 0 ≤ t ∧ t ≤ 512 := by
 have hc := ZuT h
 obtain ⟨a0, a1, a2, a3⟩ := x
 unfold ZcE at ht
 dsimp only at *
 by_cases h8 : a0 = 8
 ·subst h8
  rw [if_pos rfl] at ht
  injection ht with ht
  subst ht
  exact (Zs0 hc).2.2.2.1 rfl
 ·rw [if_neg h8] at ht
  by_cases h9 : a0 = 9
  ·subst h9
   rw [if_pos rfl] at ht
   injection ht with ht
   subst ht
   exact (Zs0 hc).2.2.2.2 rfl
  ·rw [if_neg h9] at ht
   cases ht
theorem Zqu {v : List Int} {k j : Nat} {y : Int} : (v.set k y).getD j 0 = if k = j ∧ j < v.length then y else v.getD j 0 := by
 simp only [List.getD, List.getElem?_set]
 by_cases h : k = j
 ·subst h
  by_cases h2 : k < v.length
  ·simp [h2]
  ·simp [h2]
 ·simp [h]
section
variable {N : Nat} {p : List RA}
/-! ### How many jumps have each place -/
structure Cnt (N : Nat) (p : List RA) (v : List Int) (i : Nat) : Prop where
 l : v.length = p.length + 1
 b : ∀ k, 0 ≤ v.getD k 0 ∧ v.getD k 0 ≤ (i : Int)
 t : ∀ j, j < i → ∀ t, ZcE (p.getD j RA.z) = some t → 0 < v.getD t.toNat 0
 g : ∀ j, j < i → Zlf N p.length (p.getD j RA.z)
theorem Zxc {v : List Int} {i : Nat} (h : Cnt N p v i) (hc : ckB (p.getD i RA.z) N = true) (ht : ZcE (p.getD i RA.z) = none) : Cnt N p v (i + 1) := by
 refine ⟨h.l, fun k => by have := h.b k; omega, fun j hj t e => ?_, fun j hj => ?_⟩
 ·rcases Nat.lt_or_ge j i with h1 | h1
  ·exact h.t j h1 t e
  ·obtain rfl : j = i := by omega
   rw [ht] at e; cases e
 ·rcases Nat.lt_or_ge j i with h1 | h1
  ·exact h.g j h1
  ·obtain rfl : j = i := by omega
   exact ⟨hc, fun t e => by rw [ht] at e; cases e⟩
theorem ZtM {v : List Int} {i : Nat} {t : Int} (h : Cnt N p v i) (hi : i ≤ 512) (hc : ckB (p.getD i RA.z) N = true) (ht : ZcE (p.getD i RA.z) = some t) (h0 : 0 ≤ t) (h1 : t ≤ (p.length : Int)) : Cnt N p (v.set t.toNat (IntKind.i64.wrap (v.getD t.toNat 0 + 1))) (i + 1) := by
 have hb := h.b t.toNat
 have hw : IntKind.i64.wrap (v.getD t.toNat 0 + 1) = v.getD t.toNat 0 + 1 := w64 (by omega) (by omega)
 rw [hw]
 have hl := h.l
 refine ⟨by rw [List.length_set]; exact h.l, fun k => ?_, fun j hj t' e => ?_, fun j hj => ?_⟩
 ·rw [Zqu]
  have := h.b k
  by_cases hk : t.toNat = k ∧ k < v.length
  ·rw [if_pos hk]; omega
  ·rw [if_neg hk]; omega
 ·rw [Zqu]
  by_cases hk : t.toNat = t'.toNat ∧ t'.toNat < v.length
  ·rw [if_pos hk]; omega
  ·rw [if_neg hk]
   rcases Nat.lt_or_ge j i with h2 | h2
   ·exact h.t j h2 t' e
   ·obtain rfl : j = i := by omega
    rw [ht] at e
    injection e with e
    subst e
    exact absurd ⟨rfl, by omega⟩ hk
 ·rcases Nat.lt_or_ge j i with h2 | h2
  ·exact h.g j h2
  ·obtain rfl : j = i := by omega
   exact ⟨hc, fun t' e => by rw [ht] at e; injection e with e; omega⟩
theorem Zxd {v : List Int} {i : Nat} (h : Cnt N p v i) (hi : i < p.length) (hp : p.length ≤ 512) : (Za8 p N (.h1m0 v i) = some (.inr (.r0 [] 130)) ∧ ¬ Zd5 N p) ∨ ∃ v', Za8 p N (.h1m0 v i) = some (.inl (.h1m0 v' (i + 1))) ∧ Cnt N p v' (i + 1) := by
 obtain ⟨c, hc⟩ := Zmj (p.getD i RA.z).a0 (p.getD i RA.z).a1 (p.getD i RA.z).a2 (p.getD i RA.z).a3 N
 have hk := ck_is (x := p.getD i RA.z) hc
 have hl := h.l
 have hbad : ¬ Zlf N p.length (p.getD i RA.z) → ¬ Zd5 N p := fun g f => g (f i hi)
 have e1 : (((i + 1 : Nat)) : Int) ≤ 9223372036854775807 := by omega
 show (Zch p N v i = _ ∧ _) ∨ ∃ v', Zch p N v i = _ ∧ _
 unfold Zch
 by_cases h8 : (p.getD i RA.z).a0 = 8
 ·have ht : ZcE (p.getD i RA.z) = some (p.getD i RA.z).a1 := if_pos h8
  by_cases c0 : c = 0
  ·subst c0
   have hk : ckB (p.getD i RA.z) N = true := hk.trans (decide_eq_true rfl)
   obtain ⟨b1, b2⟩ := Zs1 hk ht
   by_cases hb : (p.length : Int) < (p.getD i RA.z).a1
   ·exact .inl ⟨yo <| Zn h8 <| Z4 hc <| Zv (by decide) <| Zn hb rfl, hbad fun g => by have := g.2 _ ht; omega⟩
   ·exact .inr ⟨_, yo <| Zn h8 <| Z4 hc <| Zv (by decide) <| Zv hb <| Zn b1 <| yo <| Zn e1 rfl, ZtM h (by omega) hk ht b1 (by omega)⟩
  ·exact .inl ⟨yo <| Zn h8 <| Z4 hc <| Zn c0 rfl, hbad fun g => by have h2 := g.1; rw [hk, decide_eq_false c0] at h2; cases h2⟩
 ·by_cases h9 : (p.getD i RA.z).a0 = 9
  ·have ht : ZcE (p.getD i RA.z) = some (p.getD i RA.z).a2 := (if_neg h8).trans (if_pos h9)
   by_cases c0 : c = 0
   ·subst c0
    have hk : ckB (p.getD i RA.z) N = true := hk.trans (decide_eq_true rfl)
    obtain ⟨b1, b2⟩ := Zs1 hk ht
    by_cases hb : (p.length : Int) < (p.getD i RA.z).a2
    ·exact .inl ⟨yo <| Zv h8 <| Zn h9 <| Z4 hc <| Zv (by decide) <| Zn hb rfl, hbad fun g => by have := g.2 _ ht; omega⟩
    ·exact .inr ⟨_, yo <| Zv h8 <| Zn h9 <| Z4 hc <| Zv (by decide) <| Zv hb <| Zn b1 <| yo <| Zn e1 rfl, ZtM h (by omega) hk ht b1 (by omega)⟩
   ·exact .inl ⟨yo <| Zv h8 <| Zn h9 <| Z4 hc <| Zn c0 rfl, hbad fun g => by have h2 := g.1; rw [hk, decide_eq_false c0] at h2; cases h2⟩
  ·have ht : ZcE (p.getD i RA.z) = none := (if_neg h8).trans (if_neg h9)
   by_cases c0 : c = 0
   ·subst c0
    have hk : ckB (p.getD i RA.z) N = true := hk.trans (decide_eq_true rfl)
    exact .inr ⟨_, yo <| Zv h8 <| Zv h9 <| Z4 hc <| Zv (by decide) <| Zn e1 rfl, Zxc h hk ht⟩
   ·exact .inl ⟨yo <| Zv h8 <| Zv h9 <| Z4 hc <| Zn c0 rfl, hbad fun g => by have h2 := g.1; rw [hk, decide_eq_false c0] at h2; cases h2⟩
theorem ZtN (hp : p.length ≤ 512) : ∀ (k i : Nat) (v : List Int), i + k = p.length → Cnt N p v i → ((∀ n, Zcx (Za8 p N) (n + k + 1) (.h1m0 v i) = some (.r0 [] 130)) ∧ ¬ Zd5 N p) ∨ ∃ v', Cnt N p v' p.length ∧ ∀ n, Zcx (Za8 p N) (n + k + 1) (.h1m0 v i) = Zcx (Za8 p N) n (.h2m0 v' 0)
 | 0, i, v, hi, h => by
  obtain rfl : i = p.length := by omega
  refine .inr ⟨v, h, fun n => ZdQ ?_⟩
  show Zch p N v p.length = _
  unfold Zch
  exact Zv (by omega) <| Zn (by omega) rfl
 | k + 1, i, v, hi, h => by
  rcases Zxd h (by omega) hp with ⟨h1, h2⟩ | ⟨v', h1, h2⟩
  ·exact .inl ⟨fun n => Zcj h1, h2⟩
  ·rcases ZtN hp k (i + 1) v' (by omega) h2 with ⟨h3, h4⟩ | ⟨v2, h3, h4⟩
   ·exact .inl ⟨fun n => (ZdQ h1).trans (h3 n), h4⟩
   ·exact .inr ⟨v2, h3, fun n => (ZdQ h1).trans (h4 n)⟩
/-! ### The text -/
def Zim (v : List Int) (k : Nat) : List Int := if 0 < v.getD k 0 then 58 :: 76 :: (Zd (k : Int) ++ [10]) else []
def lnX (x : RA) : List Int := Zbc (ZqM x.a0 x.a1 x.a2 x.a3)
def ZfX (p : List RA) (k : Nat) : List Int := if k < p.length then lnX (p.getD k RA.z) ++ [10] else []
def Zew (p : List RA) (v : List Int) : Nat → List Int
 | 0 => []
 | k + 1 => (Zew p v k ++ Zim v k) ++ ZfX p k
theorem Zlg (v : List Int) (k : Nat) : Zew p v (k + 1) = (Zew p v k ++ Zim v k) ++ ZfX p k := rfl
theorem Zjx {x : RA} (h : ckB x N = true) : Zd4 x.a0 x.a1 x.a2 x.a3 N = some (.r0 (lnX x) 0) ∧ ZdS x.a0 x.a1 x.a2 x.a3 N (lnX x) := ⟨Zy3 (ZuT h), Zxa (ZuT h)⟩
theorem bA {a0 a1 a2 a3 : Int} {N : Nat} {T : List Int} (q : ZdS a0 a1 a2 a3 N T) : Z1 (T ++ bl [10]) = true := by rw [Zez, q.f.b]; rfl
theorem Zy4 {v : List Int} {k : Nat} (hk : k ≤ 512) : Z1 (Zim v k) = true ∧ (Zim v k).length ≤ 6 := by
 unfold Zim
 have h1 := ZpH (n := (k : Int)) (by omega) (by omega)
 by_cases h : 0 < v.getD k 0
 ·rw [if_pos h]
  refine ⟨Zc4.2 ⟨by omega, Zc4.2 ⟨by omega, ?_⟩⟩, by simp only [List.length_cons, List.length_append, List.length_nil]; omega⟩
  rw [Zez, ZgJ _ (by omega) (by omega)]
  rfl
 ·rw [if_neg h]
  exact ⟨rfl, by simp⟩
theorem Zy5 (hG : Zd5 N p) (k : Nat) : Z1 (ZfX p k) = true ∧ (ZfX p k).length ≤ 101 := by
 unfold ZfX
 by_cases h : k < p.length
 ·rw [if_pos h]
  have hf := (Zjx (hG k h).1).2.f
  have := hf.l
  exact ⟨by rw [Zez, hf.b]; rfl, by simp only [List.length_append, List.length_cons, List.length_nil]; omega⟩
 ·rw [if_neg h]
  exact ⟨rfl, by simp⟩
theorem ZoL (hG : Zd5 N p) {v : List Int} : ∀ k, k ≤ 513 → Z1 (Zew p v k) = true ∧ (Zew p v k).length ≤ 107 * k
 | 0, _ => ⟨rfl, by simp [Zew]⟩
 | k + 1, hk => by
  obtain ⟨q1, q2⟩ := ZoL hG (v := v) k (by omega)
  obtain ⟨q3, q4⟩ := Zy4 (v := v) (k := k) (by omega)
  obtain ⟨q5, q6⟩ := Zy5 hG k
  rw [Zlg]
  refine ⟨by rw [Zez, Zez, q1, q3, q5]; rfl, by simp only [List.length_append]; omega⟩
noncomputable def stT (p : List RA) (v : List Int) (k : Nat) : ZB := @ite _ (Zew p v k = []) (Classical.propDecidable _) (.h2m0 v k) (.h2m1 v k (Zew p v k))
theorem ZoM {v : List Int} {k : Nat} (h : Zew p v k = []) : stT p v k = .h2m0 v k := by unfold stT; rw [if_pos h]
theorem ZfN {v M : List Int} {k : Nat} (h : Zew p v k = M) (hM : 0 < M.length) : stT p v k = .h2m1 v k M := by
 unfold stT
 rw [if_neg (fun e => by rw [← h, e] at hM; simp at hM), h]
theorem ZxZ (hp : p.length ≤ 512) (hG : Zd5 N p) {v : List Int} (hv : v.length = p.length + 1) {k : Nat} (hk : k ≤ p.length) : Za8 p N (stT p v k) = some (.inl (stT p v (k + 1))) := by
 have hl := (ZoL hG (v := v) k (by omega)).2
 have hi := ZpH (n := (k : Int)) (by omega) (by omega)
 have hbl : Z1 (((bl [58]) ++ ((bl [76]) ++ (Zd (k : Int)))) ++ (bl [10])) = true := by
  rw [Zez, Zez, Zez, ZgJ _ (by omega) (by omega)]
  rfl
 have e1 : (((k + 1 : Nat)) : Int) ≤ 9223372036854775807 := by omega
 have hs := Zlg (p := p) v k
 by_cases h0 : Zew p v k = []
 ·rw [ZoM h0]
  rw [h0, List.nil_append] at hs
  show Zcz p N v k = _
  unfold Zcz
  by_cases hb : 0 < v.getD k 0
  ·rw [show Zim v k = 58 :: 76 :: (Zd (k : Int) ++ [10]) from if_pos hb] at hs
   refine yo <| yo <| Zn hb <| yo <| yo <| Zn hbl ?_
   by_cases hk2 : k < p.length
   ·obtain ⟨q1, q2⟩ := Zjx (hG k hk2).1
    have q3 := q2.f.l
    rw [show ZfX p k = lnX (p.getD k RA.z) ++ [10] from if_pos hk2] at hs
    exact yo <| Z4 q1 <| yo <| yo <| Zn (bA q2) <| Zn e1 (by rw [ZfN hs (by simp)]; rfl)
   ·rw [show ZfX p k = [] from if_neg hk2, List.append_nil] at hs
    exact Zv (by omega) <| Zn e1 (by rw [ZfN hs (by simp)]; rfl)
  ·rw [show Zim v k = [] from if_neg hb, List.nil_append] at hs
   refine yo <| yo <| Zv hb ?_
   by_cases hk2 : k < p.length
   ·obtain ⟨q1, q2⟩ := Zjx (hG k hk2).1
    have q3 := q2.f.l
    rw [show ZfX p k = lnX (p.getD k RA.z) ++ [10] from if_pos hk2] at hs
    exact yo <| Z4 q1 <| yo <| yo <| Zn (bA q2) <| Zn e1 (by rw [ZfN hs (by simp)])
   ·rw [show ZfX p k = [] from if_neg hk2] at hs
    exact Zv (by omega) <| Zn e1 (by rw [ZoM hs])
 ·rw [ZfN rfl (List.length_pos_iff.2 h0)]
  have hpos : 0 < (Zew p v k).length := List.length_pos_iff.2 h0
  generalize Zew p v k = M at *
  show Zc0 p N v k M = _
  unfold Zc0
  by_cases hb : 0 < v.getD k 0
  ·rw [show Zim v k = 58 :: 76 :: (Zd (k : Int) ++ [10]) from if_pos hb] at hs
   refine yo <| yo <| Zn hb <| yo <| yo <| Zn hbl <| Zn (by omega) ?_
   by_cases hk2 : k < p.length
   ·obtain ⟨q1, q2⟩ := Zjx (hG k hk2).1
    have q3 := q2.f.l
    rw [show ZfX p k = lnX (p.getD k RA.z) ++ [10] from if_pos hk2] at hs
    exact yo <| Z4 q1 <| yo <| yo <| Zn (bA q2) <| yo <| Zn e1 (by rw [ZfN hs (by simp only [List.length_append]; omega)]; rfl)
   ·rw [show ZfX p k = [] from if_neg hk2, List.append_nil] at hs
    exact Zv (by omega) <| Zn e1 (by rw [ZfN hs (by simp only [List.length_append]; omega)]; rfl)
  ·rw [show Zim v k = [] from if_neg hb, List.append_nil] at hs
   refine yo <| yo <| Zv hb ?_
   by_cases hk2 : k < p.length
   ·obtain ⟨q1, q2⟩ := Zjx (hG k hk2).1
    have q3 := q2.f.l
    rw [show ZfX p k = lnX (p.getD k RA.z) ++ [10] from if_pos hk2] at hs
    exact yo <| Z4 q1 <| yo <| yo <| Zn (bA q2) <| yo <| Zn e1 (by rw [ZfN hs (by simp only [List.length_append]; omega)])
   ·rw [show ZfX p k = [] from if_neg hk2, List.append_nil] at hs
    exact Zv (by omega) <| Zn e1 (by rw [ZfN hs hpos])
theorem Zy6 (hp : p.length ≤ 512) (hG : Zd5 N p) {v : List Int} : Za8 p N (stT p v (p.length + 1)) = some (.inr (.r0 (Zew p v (p.length + 1)) 0)) := by
 have hl := (ZoL hG (v := v) (p.length + 1) (by omega)).2
 by_cases h0 : Zew p v (p.length + 1) = []
 ·rw [ZoM h0, h0]
  show Zcz p N v (p.length + 1) = _
  unfold Zcz
  exact Zv (by omega) rfl
 ·rw [ZfN rfl (List.length_pos_iff.2 h0)]
  show Zc0 p N v (p.length + 1) _ = _
  unfold Zc0
  exact Zv (by omega) <| Zn (List.length_pos_iff.2 h0) <| Zn (by omega) rfl
theorem ZvZ (hp : p.length ≤ 512) (hG : Zd5 N p) {v : List Int} (hv : v.length = p.length + 1) : ∀ (f k : Nat), k + f = p.length + 1 → Zcx (Za8 p N) (f + 1) (stT p v k) = some (.r0 (Zew p v (p.length + 1)) 0)
 | 0, k, h => by
  obtain rfl : k = p.length + 1 := by omega
  exact Zcj (Zy6 hp hG)
 | f + 1, k, h => (ZdQ (ZxZ hp hG hv (by omega))).trans (ZvZ hp hG hv f (k + 1) (by omega))
theorem Zxe (hN : 3000 ≤ N) : (∃ e, e ≠ 0 ∧ ZdO p N = some (.r0 [] e) ∧ (p.length ≤ 512 → ¬ Zd5 N p)) ∨ (p.length ≤ 512 ∧ Zd5 N p ∧ ∃ v, Cnt N p v p.length ∧ ZdO p N = some (.r0 (Zew p v (p.length + 1)) 0)) := by
 unfold ZdO
 by_cases hp : p.length ≤ 512
 ·rw [ZkC (o := ZdZ p N) (x := .h1m0 (List.replicate (p.length + 1) (0 : Int)) 0) (by unfold ZdZ; exact Zv (by omega) rfl)]
  have h0 : Cnt N p (List.replicate (p.length + 1) (0 : Int)) 0 := by
   refine ⟨by simp, fun k => ?_, fun j hj => absurd hj (by omega), fun j hj => absurd hj (by omega)⟩
   have : (List.replicate (p.length + 1) (0 : Int)).getD k 0 = 0 := by
    simp only [List.getD, List.getElem?_replicate]
    split <;> rfl
   omega
  rcases ZtN hp p.length 0 _ (by omega) h0 with ⟨h1, h2⟩ | ⟨v, h1, h2⟩
  ·have := h1 (N - p.length - 1)
   rw [show N - p.length - 1 + p.length + 1 = N by omega] at this
   exact .inl ⟨130, by decide, this, fun _ => h2⟩
  ·have hG : Zd5 N p := h1.g
   have h3 := h2 (N - p.length - 1)
   rw [show N - p.length - 1 + p.length + 1 = N by omega] at h3
   refine .inr ⟨hp, hG, v, h1, ?_⟩
   rw [h3, ← ZoM (p := p) (v := v) (k := 0) rfl]
   exact ZeM (by omega) (ZvZ hp hG h1.l (p.length + 1) 0 (by omega))
 ·rw [ZpF (o := ZdZ p N) (r := .r0 [] 3) (by unfold ZdZ; exact Zn (by omega) rfl)]
  exact .inl ⟨3, by decide, rfl, fun h => absurd h hp⟩
end
end Ev
end Go.Proofs.YtlbbiflodemagaaDoor
/- AsmBack: the text of a program is parsed to it. -/
namespace Go.Proofs.YtlbbiflodemagaaDoor
open Go.RowKit
namespace Ev
set_option linter.unusedVariables false
def Zdr (x : RA) : RA := if x.a0 = 8 then ⟨8, 0, x.a2, x.a3⟩ else if x.a0 = 9 then ⟨9, x.a1, 0, x.a3⟩ else ⟨x.a0, x.a1, x.a2, x.a3⟩
def jl : Nat → List RA → List R_is
 | _, [] => []
 | i, x :: r => match ZcE x with
  | some t => ⟨(i : Int), 76 :: Zd t⟩ :: jl (i + 1) r
  | none => jl (i + 1) r
theorem Zwa (x : RA) : ∀ (a : List RA) (i : Nat), jl i (a ++ [x]) = jl i a ++ match ZcE x with | some t => [⟨((i + a.length : Nat) : Int), 76 :: Zd t⟩] | none => []
 | [], i => by
  show jl i [x] = [] ++ _
  unfold jl
  cases ZcE x <;> rfl
 | y :: a, i => by
  have ih := Zwa x a (i + 1)
  rw [show i + 1 + a.length = i + (y :: a).length by simp; omega] at ih
  show jl i (y :: (a ++ [x])) = _
  unfold jl
  rw [ih]
  cases ZcE y <;> rfl
theorem ZuU : ∀ (l : List RA) (i : Nat), ∀ j ∈ jl i l, (i : Int) ≤ j.a0
 | [], i, j, h => by cases h
 | x :: r, i, j, h => by
  unfold jl at h
  cases hx : ZcE x with
  | none =>
   rw [hx] at h
   have := ZuU r (i + 1) j h
   omega
  | some t =>
   rw [hx] at h
   rcases List.mem_cons.1 h with h | h
   ·subst h; exact Int.le_refl _
   ·have := ZuU r (i + 1) j h
    omega
theorem Zy7 {x : RA} {N : Nat} (h : ckB x N = true) : Zil (lnX x) N = some (Zdr x, (ZcE x).map fun t => 76 :: Zd t) := by
 rw [(Zjx h).2.i]
 unfold Zdr ZcE
 by_cases h8 : x.a0 = 8
 ·simp only [if_pos h8]; rfl
 ·by_cases h9 : x.a0 = 9
  ·simp only [if_neg h8, if_pos h9]; rfl
  ·simp only [if_neg h8, if_neg h9]; rfl
section
variable {N : Nat} {p : List RA} {v : List Int}
structure ZpJ (p0 : List RA) (v : List Int) (k k' : Nat) (S : PS) : Prop where
 p : S.p = (p0.take k).map Zdr
 js : S.js = jl 0 (p0.take k)
 y : ∀ j, j < k' → 0 < v.getD j 0 → Zba S.pl (76 :: Zd (j : Int)) = true ∧ Z2 S.pl (76 :: Zd (j : Int)) = (j : Int)
 n : ∀ j, k' ≤ j → j ≤ 512 → Zba S.pl (76 :: Zd (j : Int)) = false
theorem Zs2 {k : Nat} {S : PS} (hI : ZpJ p v k k S) (hk : k ≤ p.length) (hp : p.length ≤ 512) : ∃ S', ZpJ p v k (k + 1) S' ∧ ∀ R, RD N (Zim v k ++ R) S = RD N R S' := by
 unfold Zim
 by_cases hb : 0 < v.getD k 0
 ·rw [if_pos hb]
  have hi := Zsx (n := (k : Int)) (by omega) (by omega)
  have hl := (Zsy (a := (k : Int)) ⟨by omega, by omega⟩).2.1
  have h10 : (10 : Int) ∉ 58 :: 76 :: Zd (k : Int) := fun h => by
   rcases List.mem_cons.1 h with h | h
   ·omega
   ·rcases List.mem_cons.1 h with h | h
    ·omega
    ·have := hi _ h; omega
  have hsp : S.p.length = k := by rw [hI.p, List.length_map, List.length_take]; omega
  refine ⟨{ S with line := S.line + 1, pl := ZaS S.pl (76 :: Zd (k : Int)) S.p.length, lb := S.lb ++ [76 :: Zd (k : Int)] }, ⟨hI.p, hI.js, fun j hj hv => ?_, fun j hj h5 => ?_⟩, fun R => ?_⟩
  ·show Zba (ZaS S.pl _ _) _ = true ∧ Z2 (ZaS S.pl _ _) _ = _
   rw [Zm7, ZpI]
   by_cases hjk : j = k
   ·subst hjk
    have e : Zaa (76 :: Zd (j : Int)) (76 :: Zd (j : Int)) = true := bEq.2 rfl
    rw [e, if_pos rfl, hsp]
    exact ⟨rfl, rfl⟩
   ·rw [Zxr (by omega) (by omega) hjk, if_neg (by decide)]
    exact hI.y j (by omega) hv
  ·show Zba (ZaS S.pl _ _) _ = false
   rw [Zm7, Zxr (by omega) (by omega) (by omega), hI.n j (by omega) h5]
   rfl
  ·obtain ⟨q1, q2, q3⟩ := ZkD (b := R) h10
   rw [show 58 :: 76 :: (Zd (k : Int) ++ [10]) ++ R = (58 :: 76 :: Zd (k : Int)) ++ 10 :: R by simp]
   rw [ZfM q1, q2, q3]
   have e : Zbv N (58 :: 76 :: Zd (k : Int)) { S with line := S.line + 1 } = some { S with line := S.line + 1, pl := ZaS S.pl (76 :: Zd (k : Int)) S.p.length, lb := S.lb ++ [76 :: Zd (k : Int)] } := by
    unfold Zbv
    rw [if_neg (fun h => h.elim (fun h => by cases h) (fun h => absurd (show (58 : Int) = 35 from h) (by decide))), if_pos (show bAt (58 :: 76 :: Zd (k : Int)) 0 = 58 from rfl)]
    show (if Zba S.pl (76 :: Zd (k : Int)) = true ∨ ZdR (76 :: Zd (k : Int)) = false then none else some _) = _
    rw [hI.n k (Nat.le_refl _) (by omega), hl]
    rfl
   rw [e]
 ·rw [if_neg hb]
  refine ⟨S, ⟨hI.p, hI.js, fun j hj hv => ?_, fun j hj h5 => hI.n j (by omega) h5⟩, fun R => rfl⟩
  rcases Nat.lt_or_ge j k with h | h
  ·exact hI.y j h hv
  ·obtain rfl : j = k := by omega
   exact absurd hv hb
theorem Zxf (hG : Zd5 N p) {k : Nat} {S : PS} (hI : ZpJ p v k (k + 1) S) (hk : k < p.length) (hp : p.length ≤ 512) : ∃ S', ZpJ p v (k + 1) (k + 1) S' ∧ ∀ R, RD N (ZfX p k ++ R) S = RD N R S' := by
 have hx := (hG k hk).1
 have hf := (Zjx hx).2.f
 have hi := Zy7 hx
 have hsp : S.p.length = k := by rw [hI.p, List.length_map, List.length_take]; omega
 have ht : p.take (k + 1) = p.take k ++ [p.getD k RA.z] := (Zqp hk _).symm
 have hkl : (p.take k).length = k := by rw [List.length_take]; omega
 have hjs := Zwa (p.getD k RA.z) (p.take k) 0
 rw [hkl, Nat.zero_add, ← ht] at hjs
 rw [show ZfX p k = lnX (p.getD k RA.z) ++ [10] from if_pos hk]
 generalize p.getD k RA.z = x at *
 have hpp : (p.take (k + 1)).map Zdr = S.p ++ [Zdr x] := by rw [ht, List.map_append, hI.p]; rfl
 have hR : ∀ R, RD N (lnX x ++ [10] ++ R) S = match Zbv N (lnX x) { S with line := S.line + 1 } with | none => .inl (S.line + 1) | some S' => RD N R S' := fun R => by
  obtain ⟨q1, q2, q3⟩ := ZkD (b := R) hf.n
  rw [show lnX x ++ [10] ++ R = lnX x ++ 10 :: R by simp, ZfM q1, q2, q3]
  cases Zbv N (lnX x) { S with line := S.line + 1 } <;> rfl
 have hs : Zbv N (lnX x) { S with line := S.line + 1 } = match Zct S.p S.js (Zil (lnX x) N) with | .r0 => none | .r1 p' => some { S with line := S.line + 1, p := p', ls := S.ls ++ [S.line + 1] } | .r2 p' j => some { S with line := S.line + 1, p := p', ls := S.ls ++ [S.line + 1], js := j } := by
  unfold Zbv
  rw [if_neg (fun h => h.elim hf.e hf.h), if_neg hf.c]
  dsimp only
  cases Zct S.p S.js (Zil (lnX x) N) <;> rfl
 rw [hi] at hs
 unfold Zct at hs
 rw [if_neg (by omega)] at hs
 cases hto : ZcE x with
 | none =>
  rw [hto] at hs hjs
  have hs : Zbv N (lnX x) { S with line := S.line + 1 } = some { S with line := S.line + 1, p := S.p ++ [Zdr x], ls := S.ls ++ [S.line + 1] } := hs
  refine ⟨{ S with line := S.line + 1, p := S.p ++ [Zdr x], ls := S.ls ++ [S.line + 1] }, ⟨hpp.symm, ?_, hI.y, hI.n⟩, fun R => by rw [hR, hs]⟩
  show S.js = _
  rw [hjs, hI.js]
  exact (List.append_nil _).symm
 | some t =>
  rw [hto] at hs hjs
  have hs : Zbv N (lnX x) { S with line := S.line + 1 } = some { S with line := S.line + 1, p := S.p ++ [Zdr x], ls := S.ls ++ [S.line + 1], js := S.js ++ [⟨(S.p.length : Int), 76 :: Zd t⟩] } := hs
  refine ⟨{ S with line := S.line + 1, p := S.p ++ [Zdr x], ls := S.ls ++ [S.line + 1], js := S.js ++ [⟨(S.p.length : Int), 76 :: Zd t⟩] }, ⟨hpp.symm, ?_, hI.y, hI.n⟩, fun R => by rw [hR, hs]⟩
  show S.js ++ [⟨(S.p.length : Int), 76 :: Zd t⟩] = _
  rw [hjs, hI.js, hsp]
theorem Zwb (hG : Zd5 N p) (hp : p.length ≤ 512) : ∀ k, k ≤ p.length → ∃ S, ZpJ p v k k S ∧ ∀ R, RD N (Zew p v k ++ R) PS.zero = RD N R S
 | 0, _ => ⟨PS.zero, ⟨by simp [PS.zero], by simp [PS.zero, jl], fun j hj => absurd hj (by omega), fun j _ _ => rfl⟩, fun R => rfl⟩
 | k + 1, hk => by
  obtain ⟨S, hI, hR⟩ := Zwb hG hp k (by omega)
  obtain ⟨S1, hI1, hR1⟩ := Zs2 (N := N) hI (by omega) hp
  obtain ⟨S2, hI2, hR2⟩ := Zxf hG hI1 hk hp
  refine ⟨S2, hI2, fun R => ?_⟩
  rw [Zlg, List.append_assoc, List.append_assoc, hR, hR1, hR2]
theorem Zy8 (hG : Zd5 N p) (hp : p.length ≤ 512) : ∃ S, ZpJ p v p.length (p.length + 1) S ∧ RD N (Zew p v (p.length + 1)) PS.zero = .inr S := by
 obtain ⟨S, hI, hR⟩ := Zwb (v := v) hG hp p.length (Nat.le_refl _)
 obtain ⟨S1, hI1, hR1⟩ := Zs2 (N := N) hI (Nat.le_refl _) hp
 refine ⟨S1, hI1, ?_⟩
 have h0 : ZfX p p.length = [] := if_neg (by omega)
 have h1 := hR (Zim v p.length)
 have h2 := hR1 []
 rw [List.append_nil] at h2
 rw [Zlg, h0, List.append_nil, h1, h2, Zy2]
theorem Zya {x : RA} {t : Int} (h : ZcE x = some t) : ZdB (Zdr x) t = x := by
 unfold ZcE at h
 unfold Zdr ZdB
 obtain ⟨a0, a1, a2, a3⟩ := x
 dsimp only at *
 by_cases h8 : a0 = 8
 ·subst h8
  rw [if_pos rfl] at h
  injection h with h
  subst h
  rfl
 ·rw [if_neg h8] at h
  by_cases h9 : a0 = 9
  ·subst h9
   rw [if_pos rfl] at h
   injection h with h
   subst h
   rfl
  ·rw [if_neg h9] at h
   cases h
theorem Zxg {x : RA} (h : ZcE x = none) : Zdr x = x := by
 unfold ZcE at h
 unfold Zdr
 by_cases h8 : x.a0 = 8
 ·rw [if_pos h8] at h; cases h
 ·rw [if_neg h8] at h
  by_cases h9 : x.a0 = 9
  ·rw [if_pos h9] at h; cases h
  ·rw [if_neg h8, if_neg h9]
theorem Zs3 (hG : Zd5 N p) (hC : Cnt N p v p.length) {pl : List R_si} {ls : List Int} (hp : p.length ≤ 512) (hy : ∀ j, j < p.length + 1 → 0 < v.getD j 0 → Zba pl (76 :: Zd (j : Int)) = true ∧ Z2 pl (76 :: Zd (j : Int)) = (j : Int)) :
  ∀ (f i : Nat), p.length ≤ i + f → i ≤ p.length → Zeu pl ls N f i (p.take i ++ (p.drop i).map Zdr) (jl i (p.drop i)) = .inr p
 | 0, i, h, hi => by
  obtain rfl : i = p.length := by omega
  show Sum.inr _ = _
  rw [List.take_length, List.drop_length]
  simp
 | f + 1, i, h, hi => by
  rw [ZfD]
  have hlen : (p.take i ++ (p.drop i).map Zdr).length = p.length := by simp; omega
  rw [hlen]
  by_cases hlt : i < p.length
  ·rw [if_pos hlt]
   have ih := Zs3 hG hC (pl := pl) (ls := ls) hp hy f (i + 1) (by omega) (by omega)
   obtain ⟨hx, hxt⟩ := hG i hlt
   have hd : p.drop i = p.getD i RA.z :: p.drop (i + 1) := by
    rw [List.drop_eq_getElem_cons hlt]
    simp [List.getD, hlt]
   have ht : p.take (i + 1) = p.take i ++ [p.getD i RA.z] := (Zqp hlt _).symm
   have htl : (p.take i).length = i := by rw [List.length_take]; omega
   have hct := hC.t i hlt
   rw [hd]
   rw [ht, List.append_assoc] at ih
   generalize p.getD i RA.z = x at *
   have hg : (p.take i ++ (x :: p.drop (i + 1)).map Zdr).getD i RA.z = Zdr x := by
    simp only [List.getD, List.map_cons]
    rw [List.getElem?_append_right (by omega), htl, Nat.sub_self]
    rfl
   cases hto : ZcE x with
   | none =>
    have hcx := Zxg hto
    have hj : jl i (x :: p.drop (i + 1)) = jl (i + 1) (p.drop (i + 1)) := by
     conv => lhs; unfold jl
     rw [hto]
    have ha : ZfW pl N i (p.take i ++ (x :: p.drop (i + 1)).map Zdr) (jl (i + 1) (p.drop (i + 1))) = some (p.take i ++ (x :: p.drop (i + 1)).map Zdr, jl (i + 1) (p.drop (i + 1))) := by
     unfold ZfW
     rw [hg, hcx]
     have hge := ZuU (p.drop (i + 1)) (i + 1)
     generalize jl (i + 1) (p.drop (i + 1)) = J at *
     cases J with
     | nil => exact if_pos hx
     | cons j J' =>
      have := hge j (List.mem_cons_self ..)
      exact Zv (by omega) (if_pos hx)
    rw [hj, ha]
    show Zeu pl ls N f (i + 1) (p.take i ++ (Zdr x :: (p.drop (i + 1)).map Zdr)) _ = _
    rw [hcx]
    exact ih
   | some t =>
    obtain ⟨b1, b2⟩ := Zs1 hx hto
    have b3 := hxt t hto
    have hj : jl i (x :: p.drop (i + 1)) = ⟨(i : Int), 76 :: Zd t⟩ :: jl (i + 1) (p.drop (i + 1)) := by
     conv => lhs; unfold jl
     rw [hto]
    have e : (t.toNat : Int) = t := by omega
    obtain ⟨y1, y2⟩ := hy t.toNat (by omega) (hct t hto)
    rw [e] at y1 y2
    have ha : ZfW pl N i (p.take i ++ (x :: p.drop (i + 1)).map Zdr) (⟨(i : Int), 76 :: Zd t⟩ :: jl (i + 1) (p.drop (i + 1))) = some ((p.take i ++ (x :: p.drop (i + 1)).map Zdr).set i x, jl (i + 1) (p.drop (i + 1))) := by
     unfold ZfW
     dsimp only
     rw [hg, y2, Zya hto]
     exact Zn rfl <| Zn y1 <| if_pos hx
    rw [hj, ha]
    show Zeu pl ls N f (i + 1) ((p.take i ++ (x :: p.drop (i + 1)).map Zdr).set i x) _ = _
    rw [List.set_append_right _ _ (by omega), htl, Nat.sub_self]
    exact ih
  ·rw [if_neg hlt]
   obtain rfl : i = p.length := by omega
   rw [List.take_length, List.drop_length]
   simp
theorem Zwc (hG : Zd5 N p) (hC : Cnt N p v p.length) (hp : p.length ≤ 512) : Zgm (Zew p v (p.length + 1)) N = .r1 p := by
 obtain ⟨S, hI, hR⟩ := Zy8 (v := v) hG hp
 rw [Zmm, hR]
 unfold ZuP
 dsimp only
 have h := Zs3 hG hC (pl := S.pl) (ls := S.ls) hp hI.y 512 0 (by omega) (by omega)
 rw [List.take_zero, List.nil_append, List.drop_zero] at h
 rw [hI.p, hI.js, List.take_length, h]
/-! ### What is parsed may be printed -/
def isJ (x : RA) : Prop := x.a0 = 8 ∨ x.a0 = 9
instance (x : RA) : Decidable (isJ x) := inferInstanceAs (Decidable (_ ∨ _))
def jp : Nat → List RA → List Int
 | _, [] => []
 | i, x :: r => if isJ x then (i : Int) :: jp (i + 1) r else jp (i + 1) r
theorem ZuV : ∀ (l : List RA) (i : Nat), ∀ j ∈ jp i l, (i : Int) ≤ j
 | [], i, j, h => by cases h
 | x :: r, i, j, h => by
  unfold jp at h
  by_cases hx : isJ x
  ·rw [if_pos hx] at h
   rcases List.mem_cons.1 h with h | h
   ·omega
   ·have := ZuV r (i + 1) j h; omega
  ·rw [if_neg hx] at h
   have := ZuV r (i + 1) j h
   omega
theorem Zs4 (x : RA) : ∀ (a : List RA) (i : Nat), jp i (a ++ [x]) = jp i a ++ if isJ x then [((i + a.length : Nat) : Int)] else []
 | [], i => by
  show jp i [x] = [] ++ _
  unfold jp
  by_cases hx : isJ x
  ·rw [if_pos hx, if_pos hx]; rfl
  ·rw [if_neg hx, if_neg hx]; rfl
 | y :: a, i => by
  have ih := Zs4 x a (i + 1)
  rw [show i + 1 + a.length = i + (y :: a).length by simp; omega] at ih
  show jp i (y :: (a ++ [x])) = _
  unfold jp
  rw [ih]
  by_cases hy : isJ y
  ·rw [if_pos hy, if_pos hy]; rfl
  ·rw [if_neg hy, if_neg hy]
def NJ (x : Option Zy) : Prop := x ≠ some .r1 ∧ x ≠ some .r2
theorem Zy9 {c : Prop} [Decidable c] {a b : Option Zy} (h1 : NJ a) (h2 : NJ b) : NJ (if c then a else b) := by
 by_cases h : c
 ·rw [if_pos h]; exact h1
 ·rw [if_neg h]; exact h2
theorem opr {op : Int} {s : Zy} (h : Z0 op N = some s) : (s = .r1 ↔ op = 8) ∧ (s = .r2 ↔ op = 9) := by
 by_cases e8 : op = 8
 ·subst e8
  have h := h.symm.trans (show Z0 8 N = some .r1 from rfl)
  injection h with h
  subst h
  exact ⟨⟨fun _ => rfl, fun _ => rfl⟩, ⟨fun g => (by cases g), fun g => absurd g (by decide)⟩⟩
 ·by_cases e9 : op = 9
  ·subst e9
   have h := h.symm.trans (show Z0 9 N = some .r2 from rfl)
   injection h with h
   subst h
   exact ⟨⟨fun g => (by cases g), fun g => absurd g (by decide)⟩, ⟨fun _ => rfl, fun _ => rfl⟩⟩
  ·have hn : NJ (Z0 op N) := by
    unfold Z0
    rw [if_neg e8, if_neg e9]
    repeat' (first | exact ⟨fun h => (by cases h), fun h => (by cases h)⟩ | refine Zy9 ?_ ?_)
   rw [h] at hn
   exact ⟨⟨fun g => absurd (by rw [g]) hn.1, fun g => absurd g e8⟩, ⟨fun g => absurd (by rw [g]) hn.2, fun g => absurd g e9⟩⟩
theorem Zs5 {M : List Int} {x : RA} {o : Option (List Int)} (h : Zil M N = some (x, o)) : o.isSome = true ↔ isJ x := by
 unfold Zil at h
 cases hb : ZaX (wd M 0) N with
 | none => rw [hb] at h; cases h
 | some r =>
  obtain ⟨op, kn⟩ := r
  rw [hb] at h
  dsimp only at h
  cases ho : Z0 op N with
  | none => rw [ho] at h; cases h
  | some s =>
   rw [ho] at h
   dsimp only at h
   obtain ⟨o1, o2⟩ := opr ho
   cases kn with
   | false => cases h
   | true =>
    rw [if_pos rfl] at h
    unfold isJ
    cases s <;> unfold ZaJ at h <;> dsimp only at h <;> split at h <;> first | (cases h; done) | (injection h with h; injection h with h1 h2; subst h1 h2; dsimp only; simp at o1 o2 ⊢; omega)
structure Jn (S : PS) : Prop where
 j : S.js.map (·.a0) = jp 0 S.p
 m : ∀ l, Zba S.pl l = true → Z2 S.pl l ≤ (S.p.length : Int)
theorem Zyb {l : List Int} {S T : PS} (h : Jn S) (hs : Zbv N l S = some T) : Jn T := by
 unfold Zbv at hs
 split at hs
 ·injection hs with hs; subst hs; exact h
 ·split at hs
  ·split at hs
   ·cases hs
   ·injection hs with hs; subst hs
    refine ⟨h.j, fun k hk => ?_⟩
    have hk : Zba (ZaS S.pl (l.drop 1) S.p.length) k = true := hk
    show Z2 (ZaS S.pl (l.drop 1) S.p.length) k ≤ _
    rw [Zm7] at hk
    rw [ZpI]
    by_cases hb : Zaa k (l.drop 1) = true
    ·rw [if_pos hb]; exact Int.le_refl _
    ·rw [if_neg hb]
     cases hc : Zaa k (l.drop 1) with
     | true => exact absurd hc hb
     | false => rw [hc, Bool.false_or] at hk; exact h.m k hk
  ·have hm : ∀ (p' : List RA), S.p.length ≤ p'.length → ∀ k, Zba S.pl k = true → Z2 S.pl k ≤ (p'.length : Int) := fun p' hp k hk => by have := h.m k hk; omega
   split at hs
   ·cases hs
   ·rename_i p' hp
    injection hs with hs; subst hs
    unfold Zct at hp
    split at hp
    ·cases hp
    ·split at hp
     ·cases hp
     ·rename_i i hi
      injection hp with hp; subst hp
      have hj := Zs5 hi
      refine ⟨?_, hm _ (by simp)⟩
      show S.js.map (·.a0) = jp 0 (S.p ++ [i])
      rw [Zs4, if_neg (fun g => by have := hj.2 g; cases this), List.append_nil]
      exact h.j
     ·cases hp
   ·rename_i p' j' hp
    injection hs with hs; subst hs
    unfold Zct at hp
    split at hp
    ·cases hp
    ·split at hp
     ·cases hp
     ·cases hp
     ·rename_i i l' hi
      injection hp with hp hq; subst hp hq
      have hj := Zs5 hi
      refine ⟨?_, hm _ (by simp)⟩
      show (S.js ++ [(⟨(S.p.length : Int), l'⟩ : R_is)]).map (fun z : R_is => z.a0) = jp 0 (S.p ++ [i])
      rw [Zs4, if_pos (hj.1 rfl), List.map_append, h.j, Nat.zero_add]
      rfl
theorem Zxs : ∀ (n : Nat) (B : List Int) (S T : PS), B.length ≤ n → Jn S → RD N B S = .inr T → Jn T
 | n, [], S, T, _, h, e => by cases e; exact h
 | 0, x :: B, S, T, hn, h, e => by simp at hn
 | n + 1, x :: B, S, T, hn, h, e => by
  cases hh : ZaT 10 (x :: B) with
  | false => rw [Zxp (by simp) hh] at e; cases e
  | true =>
   have ha := Zh5 10 (x :: B) (by simp)
   rw [ZfM hh] at e
   cases e1 : Zbv N (Zz 10 (x :: B)) { S with line := S.line + 1 } with
   | none => rw [e1] at e; cases e
   | some S' =>
    rw [e1] at e
    exact Zxs n _ S' T (by simp at hn ha; omega) (Zyb (⟨h.j, h.m⟩ : Jn { S with line := S.line + 1 }) e1) e
theorem Zxh {n : Nat} {x : RA} {t : Int} (hc : ckB (ZdB x t) N = true) (ht : t ≤ (n : Int)) : Zlf N n (ZdB x t) := by
 refine ⟨hc, fun u hu => ?_⟩
 have key : ∀ u, ZcE (ZdB x t) = some u → u = t := fun u hu => by
  unfold ZcE ZdB at hu
  by_cases h8 : x.a0 = 8
  ·rw [if_pos h8] at hu
   dsimp only at hu
   rw [if_pos h8] at hu
   injection hu with hu; exact hu.symm
  ·rw [if_neg h8] at hu
   by_cases h9 : x.a0 = 9
   ·rw [if_pos h9] at hu
    dsimp only at hu
    rw [if_neg h8, if_pos h9] at hu
    injection hu with hu; exact hu.symm
   ·rw [if_neg h9, if_neg h8, if_neg h9] at hu
    cases hu
 rw [key u hu]
 exact ht
theorem noJ {x : RA} (h : ¬ isJ x) : ZcE x = none := by
 unfold isJ at h
 unfold ZcE
 rw [if_neg (fun e => h (.inl e)), if_neg (fun e => h (.inr e))]
theorem Zwd {l : List RA} {k j : Nat} {y : RA} (hj : j < l.length) : (l.set k y).getD j RA.z = if k = j then y else l.getD j RA.z := by
 simp only [List.getD, List.getElem?_set]
 by_cases h : k = j
 ·subst h; simp [hj]
 ·simp [h]
theorem ZnJ {pl : List R_si} {ls : List Int} {n : Nat} (hm : ∀ l, Zba pl l = true → Z2 pl l ≤ (n : Int)) : ∀ (f i : Nat) (p q : List RA) (js : List R_is), n ≤ i + f → p.length = n → js.map (·.a0) = jp i (p.drop i) → (∀ j, j < i → j < n → Zlf N n (p.getD j RA.z)) → Zeu pl ls N f i p js = .inr q → q.length = n ∧ ∀ j, j < n → Zlf N n (q.getD j RA.z)
 | 0, i, p, q, js, h, hl, hj, hg, e => by
  cases e
  exact ⟨hl, fun j hj2 => hg j (by omega) hj2⟩
 | f + 1, i, p, q, js, h, hl, hj, hg, e => by
  rw [ZfD] at e
  by_cases hlt : i < p.length
  ·rw [if_pos hlt] at e
   have hd : p.drop i = p.getD i RA.z :: p.drop (i + 1) := by
    rw [List.drop_eq_getElem_cons hlt]
    simp [List.getD, hlt]
   rw [hd] at hj
   unfold jp at hj
   have hge := ZuV (p.drop (i + 1)) (i + 1)
   have hstay : ∀ js' : List R_is, js'.map (·.a0) = jp (i + 1) (p.drop (i + 1)) → ckB (p.getD i RA.z) N = true → ¬ isJ (p.getD i RA.z) → Zeu pl ls N f (i + 1) p js' = .inr q → q.length = n ∧ ∀ j, j < n → Zlf N n (q.getD j RA.z) := fun js' h1 h2 h3 h4 =>
    ZnJ hm f (i + 1) p q js' (by omega) hl h1 (fun j hj1 hj2 => by
     rcases Nat.lt_or_ge j i with h5 | h5
     ·exact hg j h5 hj2
     ·obtain rfl : j = i := by omega
      exact ⟨h2, fun t ht => by rw [noJ h3] at ht; cases ht⟩) h4
   cases js with
   | nil =>
    have hnj : ¬ isJ (p.getD i RA.z) := fun g => by rw [if_pos g] at hj; cases hj
    rw [if_neg hnj] at hj
    unfold ZfW at e
    dsimp only at e
    by_cases hc : ckB (p.getD i RA.z) N = true
    ·rw [if_pos hc] at e
     exact hstay [] hj hc hnj e
    ·rw [if_neg hc] at e; cases e
   | cons j0 js' =>
    unfold ZfW at e
    dsimp only at e
    by_cases h0 : j0.a0 = (i : Int)
    ·rw [if_pos h0] at e
     have hJ : isJ (p.getD i RA.z) := Classical.byContradiction fun g => by
      rw [if_neg g] at hj
      have := hge j0.a0 (by rw [← hj]; simp)
      omega
     rw [if_pos hJ] at hj
     have hj' : js'.map (·.a0) = jp (i + 1) (p.drop (i + 1)) := by
      have := congrArg List.tail hj
      simpa using this
     by_cases hh : Zba pl j0.a1 = true
     ·rw [if_pos hh] at e
      have hmm := hm _ hh
      by_cases hc : ckB (ZdB (p.getD i RA.z) (Z2 pl j0.a1)) N = true
      ·rw [if_pos hc] at e
       dsimp only at e
       generalize hy : ZdB (p.getD i RA.z) (Z2 pl j0.a1) = y at *
       refine ZnJ hm f (i + 1) (p.set i y) q js' (by omega) (by rw [List.length_set]; exact hl) ?_ (fun j hj1 hj2 => ?_) e
       ·rw [hj', List.drop_set, if_pos (by omega)]
       ·rw [Zwd (by omega)]
        by_cases hij : i = j
        ·rw [if_pos hij, ← hy]
         exact Zxh (by rw [hy]; exact hc) hmm
        ·rw [if_neg hij]
         exact hg j (by omega) hj2
      ·rw [if_neg hc] at e; cases e
     ·rw [if_neg hh] at e; cases e
    ·rw [if_neg h0] at e
     have hnj : ¬ isJ (p.getD i RA.z) := fun g => by
      rw [if_pos g] at hj
      have := congrArg List.head? hj
      simp at this
      exact h0 this
     rw [if_neg hnj] at hj
     by_cases hc : ckB (p.getD i RA.z) N = true
     ·rw [if_pos hc] at e
      exact hstay (j0 :: js') hj hc hnj e
     ·rw [if_neg hc] at e; cases e
  ·rw [if_neg hlt] at e
   cases e
   exact ⟨hl, fun j hj2 => hg j (by omega) hj2⟩
theorem Zwe (pl : List R_si) (N : Nat) {ls : List Int} : ∀ (f i : Nat) (p : List RA) (js : List R_is) {q : List RA}, Zeu pl ls N f i p js = .inr q → Zeu pl [] N f i p js = Zeu pl ls N f i p js
 | 0, i, p, js, q, h => rfl
 | f + 1, i, p, js, q, h => by
  rw [ZfD] at h
  rw [ZfD, ZfD]
  by_cases hi : i < p.length
  ·rw [if_pos hi] at h
   rw [if_pos hi, if_pos hi]
   cases ho : ZfW pl N i p js with
   | none => rw [ho] at h; cases h
   | some x => rw [ho] at h; exact Zwe pl N f (i + 1) x.1 x.2 h
  ·rw [if_neg hi, if_neg hi]
theorem Zxi {M : List Int} {n e : Int} (h : Zgm M N = .r0 n e) : e = 130 := by
 rw [Zmm] at h
 unfold ZuP at h
 cases hr : RD N M PS.zero with
 | inl m => rw [hr] at h; injection h with _ h; exact h.symm
 | inr S =>
  rw [hr] at h
  dsimp only at h
  cases ha : Zeu S.pl S.ls N 512 0 S.p S.js with
  | inl m => rw [ha] at h; injection h with _ h; exact h.symm
  | inr q => rw [ha] at h; cases h
theorem ZuW {M : List Int} {q : List RA} (hb : Z1 M = true) (hl : M.length ≤ 90000) (hN : 33 ≤ N) (h : Zgm M N = .r1 q) : q.length ≤ 512 ∧ Zd5 N q := by
 have h5 := (ZwY M N hb hl hN).2 q h
 rw [Zmm] at h
 unfold ZuP at h
 cases hr : RD N M PS.zero with
 | inl m => rw [hr] at h; cases h
 | inr S =>
  rw [hr] at h
  dsimp only at h
  have hJ : Jn S := Zxs M.length M PS.zero S (Nat.le_refl _) ⟨rfl, fun l hl => by cases hl⟩ hr
  cases ha : Zeu S.pl S.ls N 512 0 S.p S.js with
  | inl m => rw [ha] at h; cases h
  | inr q' =>
   rw [ha] at h
   injection h with h
   subst h
   have hln : q'.length = S.p.length := (Zst S.pl N (k := 0) (ls := []) (fun i => by simp) 512 0 S.p S.js).2 q' (by
    rw [← ha]
    exact Zwe S.pl N 512 0 S.p S.js ha)
   obtain ⟨g1, g2⟩ := ZnJ (n := S.p.length) hJ.m 512 0 S.p q' S.js (by omega) rfl hJ.j (fun j hj => absurd hj (by omega)) ha
   refine ⟨h5, fun j hj => ?_⟩
   rw [g1]
   exact g2 j (by omega)
end
end Ev
end Go.Proofs.YtlbbiflodemagaaDoor
/- AsmBack, plainly. -/
namespace Go.Proofs.YtlbbiflodemagaaDoor
open Go.RowKit
namespace Ev
set_option linter.unusedVariables false
theorem Zqv (p : List RA) (N : Nat) (hp : p.length ≤ 512) : ∀ (k i : Nat), i + k = p.length → Zcx (Zes p p N) (k + 1) (.h1m0 i) = some (.r0 true)
 | 0, i, h => by
  refine Zcj ?_
  show Zcp p p N i = _
  unfold Zcp
  exact Zv (by omega) rfl
 | k + 1, i, h => by
  refine (ZdQ (y := .h1m0 (i + 1)) ?_).trans (Zqv p N hp k (i + 1) (by omega))
  show Zcp p p N i = _
  unfold Zcp
  exact Zn (by omega) <| Zn (by omega) <| Zv (fun h => h ⟨rfl, rfl, rfl, rfl⟩) <| Zn (by omega) rfl
theorem Zqw (p : List RA) (N : Nat) (hp : p.length ≤ 512) (hN : 600 ≤ N) : ZfL p p N = some (.r0 true) := by
 unfold ZfL
 rw [ZkC (o := ZfA p p N) (x := ref11_SameX.h1m0 0) (by unfold ZfA; exact Zv (fun h => h rfl) rfl)]
 exact ZeM (by omega) (Zqv p N hp p.length 0 (by omega))
theorem ZoN (p : List RA) (N : Nat) (hN : 90000 ≤ N) : (∃ e, e ≠ 0 ∧ ZdO p N = some (.r0 [] e) ∧ (p.length ≤ 512 → ¬ Zd5 N p)) ∨ (p.length ≤ 512 ∧ ∃ M, ZdO p N = some (.r0 M 0) ∧ Zcs M N = some (.r1 p)) := by
 rcases Zxe (N := N) (p := p) (by omega) with h | ⟨h1, h2, v, h3, h4⟩
 ·exact .inl h
 ·obtain ⟨q1, q2⟩ := ZoL h2 (v := v) (p.length + 1) (by omega)
  refine .inr ⟨h1, _, h4, ?_⟩
  rw [Zsp _ N q1 (by omega) (by omega), Zwc h2 h3 h1]
theorem Abk.step (L0 : List RA) (L1 s : List Int) (N : Nat) (hs : Z1 s = true) (ls : s.length ≤ 4000) (hN : 90000 ≤ N) : Zdk L0 L1 N (.h1m0 s) = some (.inr (.r0 true)) := by
 show ZcB L0 L1 N s = _
 unfold ZcB
 have hp := Zsp s N hs (by omega) (by omega)
 cases hr : Zgm s N with
 | r0 n e =>
  rw [hr] at hp
  have := Zxi hr
  exact Z4 hp <| Zn (by omega) rfl
 | r1 q =>
  rw [hr] at hp
  obtain ⟨g1, g2⟩ := ZuW hs (by omega) (by omega) hr
  rcases ZoN q N hN with ⟨e, _, _, h⟩ | ⟨h1, M, h2, h3⟩
  ·exact absurd g2 (h g1)
  ·exact Z4 hp <| Z4 h2 <| Z4 h3 <| Zn rfl <| Z4 (Zqw q N g1 (by omega)) <| Zn rfl rfl
theorem Zyc (L : List Int) : (L.take ((if (4000 : Int) < (((Zb L).size : Nat) : Int) then (4000 : Int) else (((Zb L).size : Nat) : Int))).toNat).length ≤ 4000 := by
 rw [List.length_take]
 split <;> omega
theorem Abk.runs (L0 : List RA) (L1 : List Int) (N : Nat) (f1 : Z1 L1 = true) (hN : 90000 ≤ N := by decide) : Zij L0 L1 N = some (.r0 true) := by
 unfold Zij
 have hst := Abk.step L0 L1 _ N (Zld fun x hx => Zfn f1 (List.mem_of_mem_take hx) : Z1 (L1.take ((if (4000 : Int) < (((Zb L1).size : Nat) : Int) then (4000 : Int) else (((Zb L1).size : Nat) : Int))).toNat) = true) (Zyc L1) hN
 generalize hq : fwL L0 = q at *
 have hin : ZdP L0 L1 N = some (.inl (.h1m0 (L1.take ((if (4000 : Int) < (((Zb L1).size : Nat) : Int) then (4000 : Int) else (((Zb L1).size : Nat) : Int))).toNat))) := by
  unfold ZdP
  rw [hq]
  rcases ZoN q N hN with ⟨e, h1, h2, _⟩ | ⟨h1, M, h2, h3⟩
  ·exact Z4 rfl <| Z4 h2 <| Zv h1 rfl
  ·exact Z4 rfl <| Z4 h2 <| Zn rfl <| Z4 h3 <| Z4 (Zqw q N h1 (by omega)) <| Zn rfl rfl
 rw [ZkC hin]
 exact ZeM (n := 1) (by omega) (Zcj hst)
end Ev
end Go.Proofs.YtlbbiflodemagaaDoor
/- A region that draws its order, whose first operations only read (and make memory in calls), and whose last ones, in a forced order among themselves, make and write new memory: but these may come up early. -/
namespace Go.Proofs.YtlbbiflodemagaaDoor
open Go.RowKit

section
variable {P : Program}

def Calm (P : Program) (W : World) (o : Oper) (a : Act) (v : Value) : Prop :=
 ∀ w, Below W.heap.size W w → o.quietAt P a (fun w' => Below w.heap.size w w') w v

def YieldsC (P : Program) (ops : Array Oper) (W : World) (o : Oper) (v : Value) (a : Act) : Prop :=
 (Region.wanted o (yielded ops a.tmps) = true ∧ Calm P W o a v) ∨ (Region.wanted o (yielded ops a.tmps) = false ∧ v = undef)
theorem Zqx {a b c : World} (h : Below a.heap.size a b) (k : Below b.heap.size b c) : Below a.heap.size a c := h.trans (k.mono h.size)

def Closed (md : Region.Mode) (ops : Array Oper) (listed : Array Bool) : Prop :=
 ∀ j oj, ops[j]? = some oj → listed.getD j false = true → ∀ e ∈ oj.after, Region.binds md e = true → listed.getD e.on false = true
def Zs6 (md : Region.Mode) (ops : Array Oper) : Nat → Nat → Nat → Bool
 | 0, _, _ => false
 | f + 1, t, i => Region.waitsFor md ops t i || (List.range ops.size).any fun k => Region.waitsFor md ops t k && Zs6 md ops f k i
theorem Closed.waits {md : Region.Mode} {ops : Array Oper} {listed : Array Bool} (h : Closed md ops listed) : ∀ (f t i : Nat), listed.getD t false = true → Zs6 md ops f t i = true → listed.getD i false = true
 | 0, _, _, _, hw => by cases hw
 | f + 1, t, i, ht, hw => by
  simp only [Zs6, Bool.or_eq_true, List.any_eq_true, Bool.and_eq_true] at hw
  rcases hw with hw | ⟨k, _, hw, hr⟩
  ·obtain ⟨o, ho, e, he, hb, rfl⟩ := Region.waitsFor_spec hw
   exact h t o ho ht e he hb
  ·obtain ⟨o, ho, e, he, hb, rfl⟩ := Region.waitsFor_spec hw
   exact h.waits f e.on i (h t o ho ht e he hb) hr

theorem YieldsC.wpOp {ops : Array Oper} {W : World} {i : Nat} {o : Oper} {v : Value} {a : Act} {w : World} (hi : ops[i]? = some o) (hy : YieldsC P ops W o v a) (hb : Below W.heap.size W w)
  {K : Act → World → Prop} {Q : Exit → Act → World → Prop} (h : ∀ w', Below w.heap.size w w' → K (a.put o.dst v) w') : wpOp P ops Q i K a w := by
 unfold Go.wpOp
 simp only [hi]
 rcases hy with ⟨hw, hv⟩ | ⟨hw, rfl⟩
 ·simp only [hw, if_true]
  exact .inl (Oper.wp_of_quiet (C := fun w' => Below w.heap.size w w') (K := fun a' => a' = a.put o.dst v) (Below.refl _ _) (fun a' w' hw' ha => by subst ha; exact h w' hw')
   ⟨v, fun w1 hw1 => by
    have h1 := hv w1 (Zqx hb hw1)
    unfold Oper.quietAt at h1 ⊢
    generalize (execOp a.eval o).run P w1 = r at *
    cases r with
    | ok n w' =>
     cases n <;> simp only [Oper.quietUpon] at h1 ⊢
     case value u => exact h1
     case skip => exact h1
     case enter f args => exact ⟨h1.1, h1.2.mono fun e w2 ⟨he, hb2⟩ => ⟨he, Zqx hw1 hb2⟩⟩
    | halt x w' => simp only [Oper.quietUpon] at h1, rfl⟩)
 ·simp only [hw, Bool.false_eq_true, if_false]
  exact h w (Below.refl _ _)

end
end Go.Proofs.YtlbbiflodemagaaDoor
/- The frame of a law whose row lists tables: from what is laid to the tables that the runner knows. -/
namespace Go.Proofs.YtlbbiflodemagaaDoor
open Go.ChangeShapes Go.WideShapes Go.ChangeAt Go.RowKit
section
variable {H : Type} {enc : TypeId × Value → H} {P : Program}
theorem ZuX {C : Checked} {os : Os} {F : FuncId} {fn : Func} {s : ChangeSpec} {tb : TypeId} {laid : List (String × DataW Unit)}
  (own : ownKnob C.prog.godebug = none) (started : os.Started) (noInit : C.prog.inits.idxOf? F = none) (hfn : C.prog.funcs[F]? = some fn)
  (hv : s.vars = []) (hrt : fn.resultTypes = #[tb]) (hub : C.prog.underlying tb = some .bool)
  (hspec : ∀ ds : List (DataW H), ds.length = fn.params.size → s.fn H ds = { results := [.lit (.bool true)], args := ds })
  (hl : laidOutB C.prog = true) (hr : (fn.params.toList.all fun t => C.prog.readableRec t && decide (t < C.prog.types.size)) = true)
  (witness : ∃ (w : World) (tape : Tape) (i : Input), w.os = os ∧ (w.forCall tape i).Shaped C.prog ∧ i.vars = [] ∧ Input.okWide C.prog (w.forCall tape i) .any w.heap.size F i ∧
   ((s.pre enc C.prog fn [] false (w.forCall tape i).memory i.args ∧ laidMetH C.prog laid (w.forCall tape i).memory) ∧ sizedMet enc C.prog fn (OpenSpec.ofChange s) false (w.forCall tape i).memory i.args) ∧ ({} : Assume).holds C.prog (lone (Frame.enter C.prog F i.args .normal) [] (w.forCall tape i)))
  (walk : ∀ (W : World) (base : Nat) (args : Array Value) (ds : List (DataW H)) (p : List MemPlace),
   (∀ (j : Nat) t v, fn.params[j]? = some t → args[j]? = some v → Value.okWide C.prog W .any base t v) →
   DataW.TrodAll enc C.prog W 0 (fun _ => true) true fn.params.toList args.toList ds p → (∀ x ∈ p, x.block < W.heap.size) →
   (DataW.weightsEach C.prog fn.params.toList ds).all (· ≤ reachBytes) = true → laidMetH C.prog laid W →
   Calls C.prog F args W (Ret (.bool true) W)) :
  ReturnsInHanded {} C os F .any (fun w args => (s.pre enc C.prog fn [] false w args ∧ laidMetH C.prog laid w) ∧ sizedMet enc C.prog fn (OpenSpec.ofChange s) false w args) (s.post enc C.prog fn false true false false) := by
 refine returnsInHanded_of_change_and (X := fun w _ => laidMetH C.prog laid w) (fun _ _ _ hh h => h.of_heap hh) own started noInit hfn witness ?_
 intro W base args ds gs before hval hW _ hsz hL _
 have hlt : ∀ x ∈ before, x.block < W.heap.size := fun x hx => hW.lt x hx
 obtain ⟨p, q, hA, hV, hps, hfz, hnd⟩ := id hW
 rw [hv] at hV
 obtain ⟨rfl, rfl⟩ := trodVars_none hV
 rw [List.append_nil] at hps
 subst hps
 have hvt : s.plain.varTypes C.prog = [] := by simp [ChangeSpec.plain, DataSpec.varTypes, hv]
 rw [hvt, List.append_nil, List.append_nil] at hsz
 refine (walk W base args ds before hval hA hlt hsz hL).mono fun e W' ⟨he, hb⟩ => ⟨_, he, ?_⟩
 have hlen : ds.length = fn.params.size := by
  have : ∀ {ts : List TypeId} {vs : List Value} {ds : List (DataW H)} {ps : List MemPlace}, DataW.TrodAll enc C.prog W 0 (fun _ => true) true ts vs ds ps → ds.length = ts.length := by
   intro ts
   induction ts with
   | nil => intro vs ds ps h; obtain ⟨_, rfl, _⟩ := trodAll_nil h; rfl
   | cons t ts ih => intro vs ds ps h; obtain ⟨_, _, _, _, _, _, _, rfl, _, _, r⟩ := trodAll_cons h; simp [ih r]
  simpa using this hA
 have hs := hspec (ds ++ []) (by simpa using hlen)
 refine ⟨ds, [], before, [], before, [], by simpa [hv] using hW, ?_, ?_, ?_, World.keptBut_mono (fun x hx => ⟨hx, .inr (.inl hx)⟩) (hb.frame (· ∈ before)), fun h => by cases h⟩
 ·rw [hs, hrt]
  exact trodAll_mk1 (shut_bool hub true)
 ·rw [hs]
  simpa using ZlJ hl hb hr hA hlt
 ·rw [hs, hv]
  rfl
end
namespace Ev
theorem Znk {P : Program} {W : World} {n : String} {g : Nat} {cs : Array Value} (hg : P.globalNamed n = some g) (h : W.var? P n = some cs) : ∃ t fr, W.heap[g]? = some (.cells cs t fr) := by
 simp only [World.var?, hg, Option.bind_some] at h
 split at h
 ·rename_i c t fr hW
  injection h with h; subst h
  exact ⟨t, fr, hW⟩
 ·cases h
def pow10 : List Int := [1, 10, 100, 1000, 10000, 100000, 1000000, 10000000, 100000000, 1000000000, 10000000000, 100000000000, 1000000000000, 10000000000000, 100000000000000, 1000000000000000, 10000000000000000, 100000000000000000, 1000000000000000000, 10000000000000000000]
theorem Zq8 {H : Type} {enc : TypeId × Value → H} {P : Program} {w : World} {base : Nat} {sp : Nat → Bool} {fuel : Nat} {t : TypeId} {ms : Array (String × TypeId)} {cs : List Value} {nm : String} {d : DataW H} {p : List MemPlace}
  (hi : P.underlying t = some (.interface ms)) (h : DataW.trod enc P w base sp false fuel t cs = some (.iface nm d, p)) : ∃ u v, cs = [.iface u v] := by
 cases fuel with
 | zero => simp [DataW.trod] at h
 | succ fuel =>
  rcases cs with _ | ⟨v, _ | ⟨v', r⟩⟩
  ·simp [DataW.trod, hi] at h
  ·cases v <;> first | exact ⟨_, _, rfl⟩ | (simp [DataW.trod, hi] at h)
  ·simp [DataW.trod, hi] at h
theorem Znl {P : Program} {W : World} {n nm : String} {d : DataW Unit} {g : Nat} {ti : TypeId} {ms : Array (String × TypeId)} (hg : P.globalNamed n = some g) (ht : (P.globals[g]?).map (·.type) = some ti) (hi : P.underlying ti = some (.interface ms))
  (h : laidMet P [(n, .iface nm d)] W) : ∃ C t fr, W.heap[g]? = some (.cells C t fr) ∧ Zwk [] C := by
 obtain ⟨ps, ⟨g0, t0, cs0, f0, p0, q0, hg0, ht0, hv0, hd0, _, _⟩, _⟩ := h
 obtain rfl := Option.some.inj (hg.symm.trans hg0)
 obtain rfl := Option.some.inj (ht.symm.trans ht0)
 obtain ⟨u, v, hl⟩ := Zq8 hi hd0
 obtain ⟨t, fr, h3⟩ := Znk hg hv0
 refine ⟨_, t, fr, h3, .iface u v, ?_, .inr ⟨_, _, rfl⟩⟩
 obtain ⟨l0⟩ := cs0
 obtain rfl : l0 = _ := hl
 rfl
theorem tabw_of_laid {W : World} {laid : List (String × DataW Unit)} (hl : (laid.filter fun x => x.1 == "internal/strconv.uint64pow10") = [("internal/strconv.uint64pow10", Go.Lib.tabData .u64 pow10)])
    {x1 : List UInt8} (he1 : (laid.filter fun x => x.1 == "strconv.ErrSyntax") = [("strconv.ErrSyntax", .iface "*errors.errorString" (.ptr (.agg [.lit (.string x1)])))])
    {x2 : List UInt8} (he2 : (laid.filter fun x => x.1 == "strconv.ErrRange") = [("strconv.ErrRange", .iface "*errors.errorString" (.ptr (.agg [.lit (.string x2)])))])
    (h : laidMetH Tryd.prog laid W) : TabW W := by
  have h1 := laidMetH.filter (fun x => x.1 == "internal/strconv.uint64pow10") h
  rw [hl, MakeChecks.laidMetH_plain _ _ _ (by rfl)] at h1
  have h2 := Go.Lib.tabIs_of_head (g := 0) (t := 109) (e := 95) (n := 20) (by kernel_rfl) (by kernel_rfl) Tryd.underlying109 Tryd.underlying95 (by kernel_rfl) (by kernel_rfl) h1
  obtain ⟨t, fr, h3⟩ := Znk (g := 0) (by kernel_rfl) h2
  have g1 := laidMetH.filter (fun x => x.1 == "strconv.ErrSyntax") h
  rw [he1, MakeChecks.laidMetH_plain _ _ _ (by rfl)] at g1
  have e1 := Znl (g := 6) (ti := 64) (by kernel_rfl) (by kernel_rfl) Tryd.underlying64 g1
  have g2 := laidMetH.filter (fun x => x.1 == "strconv.ErrRange") h
  rw [he2, MakeChecks.laidMetH_plain _ _ _ (by rfl)] at g2
  have e2 := Znl (g := 7) (ti := 64) (by kernel_rfl) (by kernel_rfl) Tryd.underlying64 g2
  intro x hx
  simp only [tabs, List.mem_cons, List.not_mem_nil, or_false] at hx
  rcases hx with rfl | rfl | rfl
  · exact ⟨_, t, fr, h3, rfl⟩
  · exact e1
  · exact e2
end Ev
end Go.Proofs.YtlbbiflodemagaaDoor
/- The law AsmBack, for every input. -/
namespace Go.Proofs.YtlbbiflodemagaaDoor
open Go.ChangeShapes Go.WideShapes Go.ChangeAt Go.RowKit
namespace Ev
namespace AsmBack
set_option linter.unusedVariables false
def el0R (x : RA) : Prop := (IntKind.i64.min ≤ x.a0 ∧ x.a0 ≤ IntKind.i64.max) ∧ (IntKind.i64.min ≤ x.a1 ∧ x.a1 ≤ IntKind.i64.max) ∧ (IntKind.i64.min ≤ x.a2 ∧ x.a2 ≤ IntKind.i64.max) ∧ (IntKind.i64.min ≤ x.a3 ∧ x.a3 ≤ IntKind.i64.max)
theorem el0 {H : Type} {enc : TypeId × Value → H} {w : World} {cs : List Value} (hl : cs.length = 4) (h : Trd enc Tryd.prog w 24 cs) : ∃ x : RA, DecL w cs (E_iiii.cel x) ∧ el0R x := by
 have h0 := Zyt (by kernel_rfl : Tryd.prog.cellsOf 24 = 4) hl h
 have h1 := ZkX 0 1 4 Tryd.underlying24 h0 0 (te := 22) (o' := 0) (by kernel_rfl) rfl (by kernel_rfl) (by kernel_rfl) (by decide)
 obtain ⟨x0, e0, b0⟩ := Zoq Tryd.underlying22 (by kernel_rfl) h1
 have h2 := ZkX 1 1 4 Tryd.underlying24 h0 1 (te := 3) (o' := 1) (by kernel_rfl) rfl (by kernel_rfl) (by kernel_rfl) (by decide)
 obtain ⟨x1, e1, b1⟩ := Zoq Tryd.underlying3 (by kernel_rfl) h2
 have h3 := ZkX 2 1 4 Tryd.underlying24 h0 2 (te := 3) (o' := 2) (by kernel_rfl) rfl (by kernel_rfl) (by kernel_rfl) (by decide)
 obtain ⟨x2, e2, b2⟩ := Zoq Tryd.underlying3 (by kernel_rfl) h3
 have h4 := ZkX 3 1 4 Tryd.underlying24 h0 3 (te := 3) (o' := 3) (by kernel_rfl) rfl (by kernel_rfl) (by kernel_rfl) (by decide)
 obtain ⟨x3, e3, b3⟩ := Zoq Tryd.underlying3 (by kernel_rfl) h4
 refine ⟨(⟨x0, x1, x2, x3⟩ : RA), ZxM (by rw [hl, Enc.clen]; rfl) (fun j y hy => ?_), ⟨b0, b1, b2, b3⟩⟩
 have := (Zm3 (w := w) (k := 0) e0 .i (Zm3 (w := w) (k := 1) e1 .i (Zm3 (w := w) (k := 2) e2 .i (Zm3 (w := w) (k := 3) e3 .i (Zys (w := w)))))) j y hy
 simpa using this
theorem own : ownKnob Tryd.prog.godebug = none := by kernel_rfl
set_option maxRecDepth 100000 in
theorem lifted (os : Os) (started : os.Started) (H : Type) (enc : TypeId × Value → H) :
  ReturnsInHanded {} Tryd.checked os 4 .any (fun w args => (Rows.asmBackSpec.pre enc Tryd.prog Tryd.f4 [] false w args ∧ laidMetH Tryd.prog Rows.asmBackRow.laid w) ∧ sizedMet enc Tryd.prog Tryd.f4 (OpenSpec.ofChange Rows.asmBackSpec) false w args) (Rows.asmBackSpec.post enc Tryd.prog Tryd.f4 false true false false) := by
 refine ZuX (laid := Rows.asmBackRow.laid) (C := Tryd.checked) own started (by kernel_rfl) Tryd.func4 rfl rfl Tryd.underlying4 ?_ (by kernel_rfl) (by kernel_rfl)
  (ChangeSpec.witness_shaped (enc := enc) (C := Tryd.checked) (os := os) (X := fun w _ => laidMetH Tryd.prog Rows.asmBackRow.laid w) false (World.laidAll Tryd.prog os Rows.asmBackRow.laid) #[.slice none 0 0, .string ⟨#[]⟩] 8 (World.laidAll_os _ _ _)
   (World.shaped_of_ZipB (by kernel_rfl) (by kernel_rfl)) (by kernel_rfl) (by kernel_rfl) (by kernel_rfl)
   (by rw [MakeChecks.laidMetH_plain _ _ _ (by kernel_rfl)]; exact laidMet_laidAll _ (by kernel_rfl) (by kernel_rfl))) ?_
 ·intro ds hlen
  have hlen : ds.length = 2 := hlen.trans (by kernel_rfl)
  match ds, hlen with
  | [_, _], _ => rfl
 intro W base args ds p hval hA hlt hsz hLaid
 have ht : TabW W := tabw_of_laid (by rfl) (by rfl) (by rfl) hLaid
 rw [Tryd.params4] at hA hval
 obtain ⟨v0, vs0, d0, ds0, p0, q0, hargs, rfl, rfl, h0, r0⟩ := trodAll_cons hA
 obtain ⟨v1, vs1, d1, ds1, p1, q1, rfl, rfl, rfl, h1, r1⟩ := trodAll_cons r0
 obtain ⟨rfl, rfl, rfl⟩ := trodAll_nil r1
 obtain rfl : args = #[v0, v1] := by cases args; simp_all
 obtain ⟨a0, l0, c0, rfl⟩ := Go.WideShapes.okWide_slice Tryd.underlying29 (hval 0 29 v0 rfl rfl)
 obtain ⟨L0, u0, e0, D0, n0, m0⟩ := ZvK (E := E_iiii) (Q := el0R) Tryd.underlying29 (by kernel_rfl) (by decide) (fun _ => el0) (ZxN h0)
 obtain rfl : u0 = .slice a0 l0 c0 := by have := e0; simp [Value.cells] at this; exact this.symm
 obtain ⟨b1, rfl⟩ := Zu5 (by kernel_rfl) (Zu6 (by kernel_rfl) (hval 1 9 v1 rfl rfl))
 obtain ⟨S1, rfl, f1⟩ := ZwN b1
 exact ZvC (Zmi L0 S1 100000 _ (Abk.runs L0 S1 100000 f1)) (Zry (show VR (ιMk W) (ms E_iiii L0) _ from D0.vr) (Zry (.atom rfl) Ztw)) rfl
theorem over : Rows.asmBackRow.holds Tryd.pinned (OpenSpec.ofChange Rows.asmBackSpec) :=
 OpenClaim.holds_of_wide 4 Tryd.f4 rfl rfl rfl rfl rfl rfl rfl ⟨rfl, rfl, rfl, rfl, rfl⟩ rfl rfl rfl rfl rfl (by kernel_rfl) Tryd.func4 (by kernel_rfl)
  (of_decide_eq_true (by kernel_rfl)) (by unfold Func.isWrapper; first | (rw [if_pos (by decide +kernel)]; kernel_rfl) | (rw [if_neg (by decide +kernel)]; exact ⟨rfl, rfl⟩))
  (fun os started H enc _ => lifted os started H enc)
theorem proved : Rows.AsmBackCardSaid :=
 Claim7.holds_tied_plain_at .later [] [.data, .data, .data, .data, .sentinel, .sentinel, .pinned] true Rows.asmBackCard.stood.harness true over (fun _ h => by cases h) (by kernel_rfl) (fun _ h => by cases h) asmBack_row_tie rfl ⟨rfl, rfl⟩ (by kernel_rfl) rfl
  (fun f fn hf hfn => by
   obtain rfl : f = 4 := Option.some.inj ((show Tryd.prog.funcNamed "gantlet/gantletlaw13.AsmBack" = some 4 by kernel_rfl).symm.trans hf) |>.symm
   obtain rfl : fn = Tryd.f4 := (Option.some.inj (Tryd.func4.symm.trans hfn)).symm
   exact ⟨by kernel_rfl, fun j t ht => by
    rw [Tryd.params4] at ht
    have hm : t ∈ [29, 9] := by simpa using Array.mem_of_getElem? ht
    have hall : ([29, 9].all fun u => !Tryd.prog.wantsStandIn u) = true := by kernel_rfl
    exact (show Tryd.prog.wantsStandIn t = false by simpa using List.all_eq_true.1 hall t hm)⟩)
  (by kernel_rfl)
#print axioms proved
end AsmBack
end Ev
end Go.Proofs.YtlbbiflodemagaaDoor
