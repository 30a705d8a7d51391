/- Mates of begins, other ways and ends: plain. -/
import Derived.Test.YtpgbennpiihajaaKmh
namespace Go.Proofs.Ytpgbennpiihajaa
open Go.RowKit
namespace Ev
set_option linter.unusedVariables false
set_option linter.unusedSimpArgs false

namespace Km
abbrev opA (L : List R_iiii) (k : Nat) : Int := (L.getD k R_iiii.z).a0
abbrev sA (L : List R_iiii) (k j : Nat) : R_ii := (skL L k).getD j R_ii.z
abbrev ln (L : List R_iiii) (k : Nat) : Nat := (skL L k).length
def own (L : List R_iiii) (e : Nat) : Int := (Zbn (skL L e)).a0
def NoF (L : List R_iiii) (i k : Nat) : Prop := ∀ j, i < j → j < k → ln L (i + 1) ≤ ln L j ∧ ¬ (ln L j = ln L (i + 1) ∧ (opA L j = 16 ∨ opA L j = 17))
def Cl (L : List R_iiii) (M : List Int) (k i : Nat) : Prop := ∃ m : Nat, i < m ∧ m < k ∧ M.getD i 0 = (m : Int) ∧ (opA L m = 16 ∨ opA L m = 17) ∧ ln L m = ln L (i + 1) ∧ NoF L i m
def Ent (L : List R_iiii) (M : List Int) (k q : Nat) (s : R_ii) : Prop := ∃ b : Nat, s.a0 = (b : Int) ∧ b < k ∧ opA L b = 15 ∧ ln L (b + 1) = q + 1 ∧
 ((s.a1 < 0 ∧ NoF L b k) ∨ ∃ e : Nat, s.a1 = (e : Int) ∧ b < e ∧ e < k ∧ opA L e = 16 ∧ ln L (e + 1) = q + 1 ∧ Cl L M k b ∧ NoF L e k)
theorem ZfQ {L : List R_iiii} {M M' : List Int} {k k' i : Nat} (hk : k ≤ k') (h : Cl L M k i) (keep : M'.getD i 0 = M.getD i 0) : Cl L M' k' i := by
 obtain ⟨m, h1, h2, h3, h4, h5, h6⟩ := h
 exact ⟨m, h1, by omega, keep.trans h3, h4, h5, h6⟩
theorem Zt6 {L : List R_iiii} {i k : Nat} (h : NoF L i k) (h1 : ln L (i + 1) ≤ ln L k) (h2 : ¬ (ln L k = ln L (i + 1) ∧ (opA L k = 16 ∨ opA L k = 17))) : NoF L i (k + 1) := fun j hj hjk => by
 by_cases e : j < k
 ·exact h j hj e
 ·obtain rfl : j = k := by omega
  exact ⟨h1, h2⟩
theorem ZlY {L : List R_iiii} {M M' : List Int} {k q : Nat} {s : R_ii} (h : Ent L M k q s) (h1 : q + 1 ≤ ln L k) (h2 : ¬ (ln L k = q + 1 ∧ (opA L k = 16 ∨ opA L k = 17))) (keep : ∀ b : Nat, s.a0 = (b : Int) → b < k → opA L b = 15 → M'.getD b 0 = M.getD b 0) : Ent L M' (k + 1) q s := by
 obtain ⟨b, b1, b2, b3, b4, b5⟩ := h
 refine ⟨b, b1, by omega, b3, b4, ?_⟩
 rcases b5 with ⟨c1, c2⟩ | ⟨e, c1, c2, c3, c4, c5, c6, c7⟩
 ·exact .inl ⟨c1, Zt6 c2 (by omega) (by rw [b4]; exact h2)⟩
 ·exact .inr ⟨e, c1, c2, by omega, c4, c5, ZfQ (by omega) c6 (keep b b1 b2 b3), Zt6 c7 (by omega) (by rw [c5]; exact h2)⟩
def In0 (L : List R_iiii) (k i : Nat) : Prop := ∃ j, j < ln L k ∧ (sA L k j).a0 = (i : Int)
def In1 (L : List R_iiii) (k i : Nat) : Prop := ∃ j, j < ln L k ∧ (sA L k j).a1 = (i : Int)
def Idx (L : List R_iiii) (k i : Nat) : Prop :=
 (opA L i = 15 → In0 L k i ∨ Cl L (mtL L k) k i) ∧
 (opA L i = 16 → In1 L k i ∨ Cl L (mtL L k) k i) ∧
 (opA L i = 17 → (mtL L k).getD i 0 = own L i) ∧
 (¬ opA L i = 15 → ¬ opA L i = 16 → ¬ opA L i = 17 → (mtL L k).getD i 0 = -1)
structure ZvM (L : List R_iiii) (k : Nat) : Prop where
 ent : ∀ j, j < ln L k → Ent L (mtL L k) k j (sA L k j)
 inc : ∀ i j, i < j → j < ln L k → (sA L k i).a0 < (sA L k j).a0
 idx : ∀ i, i < k → Idx L k i
theorem ZoA {L : List R_iiii} {k i : Nat} (h : i < k) : (mtL L k ++ [-1]).getD i 0 = (mtL L k).getD i 0 := ZdB (by rw [Zi2]; exact h)
theorem Zwt {L : List R_iiii} {k : Nat} : (mtL L k ++ [-1]).getD k 0 = -1 := by
 have := Zfx (L := mtL L k) (v := (-1 : Int)) (d := 0)
 rw [Zi2] at this; exact this
theorem step {L : List R_iiii} {N k : Nat} (hr : Rel (skL L k) (opn L k)) (hok : okB L N k = true) (h : ZvM L k) : ZvM L (k + 1) := by
 obtain ⟨o1, o2⟩ := Zi4 hok
 have hml := Zi2 L k
 by_cases h15 : opA L k = 15
 ·have e1 : skL L (k + 1) = skL L k ++ [⟨(k : Int), -1⟩] := by rw [skL, stk, if_pos h15]
  have e2 : mtL L (k + 1) = mtL L k ++ [-1] := by rw [mtL, mtk, if_neg (fun h => by have h' : (L.getD k R_iiii.z).a0 = 15 := h15; omega), if_neg (fun h => by have h' : (L.getD k R_iiii.z).a0 = 15 := h15; omega)]
  have a1 : ∀ j, j < ln L k → sA L (k + 1) j = sA L k j := fun j hj => by unfold sA; rw [e1, ZdB hj]
  have a2 : sA L (k + 1) (ln L k) = ⟨(k : Int), -1⟩ := by unfold sA ln; rw [e1, Zfx]
  have hl : ln L (k + 1) = ln L k + 1 := by unfold ln; rw [e1]; simp
  have m2 : ∀ i, i < k → (mtL L (k + 1)).getD i 0 = (mtL L k).getD i 0 := fun i hi => by rw [e2]; exact ZoA hi
  refine ⟨fun j hj => ?_, fun i j hij hj => ?_, fun i hi => ?_⟩
  ·by_cases e : j < ln L k
   ·rw [a1 j e]; exact ZlY (h.ent j e) (by omega) (fun hh => by omega) fun b _ hb _ => m2 b hb
   ·obtain rfl : j = ln L k := by omega
    rw [a2]
    exact ⟨k, rfl, by omega, h15, hl, .inl ⟨show (-1 : Int) < 0 by decide, fun j h1 h2 => by omega⟩⟩
  ·by_cases e : j < ln L k
   ·rw [a1 i (by omega), a1 j e]; exact h.inc i j hij e
   ·obtain rfl : j = ln L k := by omega
    rw [a1 i hij, a2]
    obtain ⟨b, b1, b2, -⟩ := h.ent i hij
    rw [b1]; show (b : Int) < (k : Int); omega
  ·by_cases e : i < k
   ·obtain ⟨i1, i2, i3, i4⟩ := h.idx i e
    refine ⟨fun ho => ?_, fun ho => ?_, fun ho => (m2 i e).trans (i3 ho), fun x y z => (m2 i e).trans (i4 x y z)⟩
    ·rcases i1 ho with ⟨j, j1, j2⟩ | hc
     ·exact .inl ⟨j, by omega, by rw [a1 j j1]; exact j2⟩
     ·exact .inr (ZfQ (by omega) hc (m2 i e))
    ·rcases i2 ho with ⟨j, j1, j2⟩ | hc
     ·exact .inl ⟨j, by omega, by rw [a1 j j1]; exact j2⟩
     ·exact .inr (ZfQ (by omega) hc (m2 i e))
   ·obtain rfl : i = k := by omega
    exact ⟨fun _ => .inl ⟨ln L i, by omega, by rw [a2]⟩, fun ho => by omega, fun ho => by omega, fun x => absurd h15 x⟩
 ·by_cases h16 : opA L k = 16
  ·have hp : 0 < ln L k := by unfold ln; rw [hr.1]; exact Zl6 o2 (.inl h16)
   obtain ⟨b0, b1, b2, b3, b4, b5⟩ := h.ent (ln L k - 1) (by omega)
   have ht : Zbn (skL L k) = sA L k (ln L k - 1) := rfl
   have neg : (sA L k (ln L k - 1)).a1 < 0 := by
    have hlen := hr.1
    have q := (hr.2 (ln L k - 1) (by unfold ln at *; omega)).2.1
    have : ¬ (Zbn (opn L k)).a1 = 1 := by
     intro e
     unfold ZdK at o2
     rw [if_neg h15, if_pos h16, if_neg (by unfold ln at hp; omega), if_pos e] at o2
     cases o2
    unfold Zbn at this
    rw [← hlen] at this
    by_cases hn : (sA L k (ln L k - 1)).a1 < 0
    ·exact hn
    ·exact absurd (q.1 (by unfold sA at hn; omega)) this
   have nof : NoF L b0 k := by
    rcases b5 with ⟨c1, c2⟩ | ⟨e, c1, c2, c3, -⟩
    ·exact c2
    ·rw [c1] at neg; omega
   clear b5
   have e1 : skL L (k + 1) = (skL L k).set (ln L k - 1) ⟨(b0 : Int), (k : Int)⟩ := by rw [skL, stk, if_neg h15, if_pos h16, ht, b1]
   have e2 : mtL L (k + 1) = (mtL L k ++ [-1]).set b0 (k : Int) := by rw [mtL, mtk, if_pos h16, ht, b1, Int.toNat_natCast]
   have hl : ln L (k + 1) = ln L k := by unfold ln; rw [e1]; simp
   have a1 : ∀ j, j < ln L k → j ≠ ln L k - 1 → sA L (k + 1) j = sA L k j := fun j hj hne => by unfold sA; rw [e1, ZfO (fun h => hne h.symm)]
   have a2 : sA L (k + 1) (ln L k - 1) = ⟨(b0 : Int), (k : Int)⟩ := by unfold sA; rw [e1, ZfL (by unfold ln at *; omega)]
   have a3 : ∀ j, j < ln L k → (sA L (k + 1) j).a0 = (sA L k j).a0 := fun j hj => by
    by_cases e : j = ln L k - 1
    ·rw [e, a2, b1]
    ·rw [a1 j hj e]
   have m1 : (mtL L (k + 1)).getD b0 0 = (k : Int) := by rw [e2, ZfL (by simp; omega)]
   have m2 : ∀ i, i < k → i ≠ b0 → (mtL L (k + 1)).getD i 0 = (mtL L k).getD i 0 := fun i hi hne => by rw [e2, ZfO (fun h => hne h.symm)]; exact ZoA hi
   have cl0 : Cl L (mtL L (k + 1)) (k + 1) b0 := ⟨k, b2, by omega, m1, .inl h16, by omega, nof⟩
   refine ⟨fun j hj => ?_, fun i j hij hj => ?_, fun i hi => ?_⟩
   ·by_cases e : j = ln L k - 1
    ·rw [e, a2]
     exact ⟨b0, rfl, by omega, b3, b4, .inr ⟨k, rfl, b2, by omega, h16, by omega, cl0, fun j h1 h2 => by omega⟩⟩
    ·rw [a1 j (by omega) e]
     refine ZlY (h.ent j (by omega)) (by omega) (fun hh => by omega) fun b hb hbk _ => m2 b hbk fun he => ?_
     have := h.inc j (ln L k - 1) (by omega) (by omega)
     rw [b1, hb, he] at this
     omega
   ·rw [a3 i (by omega), a3 j (by omega)]; exact h.inc i j hij (by omega)
   ·by_cases ek : i < k
    ·obtain ⟨i1, i2, i3, i4⟩ := h.idx i ek
     refine ⟨fun ho => ?_, fun ho => ?_, fun ho => (m2 i ek fun he => by rw [he] at ho; omega).trans (i3 ho), fun x y z => (m2 i ek fun he => by rw [he] at x; exact x b3).trans (i4 x y z)⟩
     ·by_cases eb : i = b0
      ·exact .inl ⟨ln L k - 1, by omega, by rw [a2, eb]⟩
      ·rcases i1 ho with ⟨j, j1, j2⟩ | hc
       ·exact .inl ⟨j, by omega, by rw [a3 j j1]; exact j2⟩
       ·exact .inr (ZfQ (by omega) hc (m2 i ek eb))
     ·rcases i2 ho with ⟨j, j1, j2⟩ | hc
      ·by_cases ej : j = ln L k - 1
       ·rw [ej] at j2; rw [j2] at neg; omega
       ·exact .inl ⟨j, by omega, by rw [a1 j j1 ej]; exact j2⟩
      ·exact .inr (ZfQ (by omega) hc (m2 i ek fun he => by rw [he] at ho; omega))
    ·obtain rfl : i = k := by omega
     exact ⟨fun ho => by omega, fun _ => .inl ⟨ln L i - 1, by omega, by rw [a2]⟩, fun ho => by omega, fun _ y => absurd h16 y⟩
  ·by_cases h17 : opA L k = 17
   ·have hp : 0 < ln L k := by unfold ln; rw [hr.1]; exact Zl6 o2 (.inr h17)
    obtain ⟨b0, b1, b2, b3, b4, b5⟩ := h.ent (ln L k - 1) (by omega)
    have ht : Zbn (skL L k) = sA L k (ln L k - 1) := rfl
    have e1 : skL L (k + 1) = (skL L k).take (ln L k - 1) := by rw [skL, stk, if_neg h15, if_neg h16, if_pos h17]
    obtain ⟨x, hx, hxk, hxm⟩ : ∃ x : Nat, mtL L (k + 1) = ((mtL L k ++ [-1]).set x (k : Int)).set k (b0 : Int) ∧ x < k ∧
      ((x = b0 ∧ (sA L k (ln L k - 1)).a1 < 0 ∧ NoF L b0 k) ∨ ((sA L k (ln L k - 1)).a1 = (x : Int) ∧ b0 < x ∧ opA L x = 16 ∧ ln L (x + 1) = ln L k ∧ Cl L (mtL L k) k b0 ∧ NoF L x k)) := by
     rcases b5 with ⟨c1, c2⟩ | ⟨e, c1, c2, c3, c4, c5, c6, c7⟩
     ·refine ⟨b0, ?_, b2, .inl ⟨rfl, c1, c2⟩⟩
      rw [mtL, mtk, if_neg h16, if_pos h17, ht, if_neg (by omega), b1, Int.toNat_natCast]
     ·refine ⟨e, ?_, c3, .inr ⟨c1, c2, c4, by omega, c6, c7⟩⟩
      rw [mtL, mtk, if_neg h16, if_pos h17, ht, if_pos (by omega), b1, c1, Int.toNat_natCast]
    clear b5
    have hl : ln L (k + 1) = ln L k - 1 := by unfold ln; rw [e1]; simp
    have a1 : ∀ j, j < ln L k - 1 → sA L (k + 1) j = sA L k j := fun j hj => by unfold sA; rw [e1, Zi1 hj]
    have m0 : (mtL L (k + 1)).getD k 0 = (b0 : Int) := by rw [hx, ZfL (by simp; omega)]
    have m1 : (mtL L (k + 1)).getD x 0 = (k : Int) := by rw [hx, ZfO (by omega), ZfL (by simp; omega)]
    have m2 : ∀ i, i < k → i ≠ x → (mtL L (k + 1)).getD i 0 = (mtL L k).getD i 0 := fun i hi hne => by rw [hx, ZfO (by omega), ZfO (fun h => hne h.symm)]; exact ZoA hi
    have newb : Cl L (mtL L (k + 1)) (k + 1) b0 := by
     rcases hxm with ⟨e, c1, c2⟩ | ⟨c1, c2, c3, c4, c5, c6⟩
     ·exact ⟨k, b2, by omega, by rw [← e]; exact m1, .inr h17, by omega, c2⟩
     ·exact ZfQ (by omega) c5 (m2 b0 b2 (by omega))
    refine ⟨fun j hj => ?_, fun i j hij hj => ?_, fun i hi => ?_⟩
    ·rw [a1 j (by omega)]
     refine ZlY (h.ent j (by omega)) (by omega) (fun hh => by omega) fun b hb hbk hb15 => m2 b hbk fun he => ?_
     have := h.inc j (ln L k - 1) (by omega) (by omega)
     rw [b1, hb] at this
     rcases hxm with ⟨e, -⟩ | ⟨c1, c2, c3, -⟩
     ·omega
     ·rw [he] at hb15; omega
    ·rw [a1 i (by omega), a1 j (by omega)]; exact h.inc i j hij (by omega)
    ·by_cases ek : i < k
     ·obtain ⟨i1, i2, i3, i4⟩ := h.idx i ek
      refine ⟨fun ho => ?_, fun ho => ?_, fun ho => (m2 i ek fun he => ?_).trans (i3 ho), fun x' y z => (m2 i ek fun he => ?_).trans (i4 x' y z)⟩
      ·by_cases eb : i = b0
       ·rw [eb]; exact .inr newb
       ·rcases i1 ho with ⟨j, j1, j2⟩ | hc
        ·by_cases ej : j = ln L k - 1
         ·rw [ej, b1] at j2; omega
         ·exact .inl ⟨j, by omega, by rw [a1 j (by omega)]; exact j2⟩
        ·refine .inr (ZfQ (by omega) hc (m2 i ek fun he => ?_))
         rcases hxm with ⟨e, -⟩ | ⟨c1, c2, c3, -⟩
         ·omega
         ·rw [he] at ho; omega
      ·by_cases ex : i = x
       ·rcases hxm with ⟨e, -⟩ | ⟨c1, c2, c3, c4, c5, c6⟩
        ·rw [ex, e] at ho; omega
        ·rw [ex]; exact .inr ⟨k, hxk, by omega, m1, .inr h17, by omega, c6⟩
       ·rcases i2 ho with ⟨j, j1, j2⟩ | hc
        ·by_cases ej : j = ln L k - 1
         ·rw [ej] at j2
          rcases hxm with ⟨e, c1, -⟩ | ⟨c1, -⟩
          ·rw [j2] at c1; omega
          ·rw [j2] at c1; omega
         ·exact .inl ⟨j, by omega, by rw [a1 j (by omega)]; exact j2⟩
        ·exact .inr (ZfQ (by omega) hc (m2 i ek ex))
      ·rcases hxm with ⟨e, -⟩ | ⟨c1, c2, c3, -⟩
       ·rw [he, e] at ho; omega
       ·rw [he] at ho; omega
      ·rcases hxm with ⟨e, -⟩ | ⟨c1, c2, c3, -⟩
       ·rw [he, e] at x'; exact x' b3
       ·rw [he] at y; exact y c3
     ·obtain rfl : i = k := by omega
      exact ⟨fun ho => by omega, fun ho => by omega, fun _ => by rw [m0]; unfold own; rw [ht, b1], fun _ _ z => absurd h17 z⟩
   ·have e1 : skL L (k + 1) = skL L k := by rw [skL, stk, if_neg h15, if_neg h16, if_neg h17]
    have e2 : mtL L (k + 1) = mtL L k ++ [-1] := by rw [mtL, mtk, if_neg h16, if_neg h17]
    have hl : ln L (k + 1) = ln L k := by unfold ln; rw [e1]
    have a1 : ∀ j, sA L (k + 1) j = sA L k j := fun j => by unfold sA; rw [e1]
    have m2 : ∀ i, i < k → (mtL L (k + 1)).getD i 0 = (mtL L k).getD i 0 := fun i hi => by rw [e2]; exact ZoA hi
    refine ⟨fun j hj => ?_, fun i j hij hj => ?_, fun i hi => ?_⟩
    ·rw [a1]; exact ZlY (h.ent j (by omega)) (by omega) (fun hh => by omega) fun b _ hb _ => m2 b hb
    ·rw [a1, a1]; exact h.inc i j hij (by omega)
    ·by_cases ek : i < k
     ·obtain ⟨i1, i2, i3, i4⟩ := h.idx i ek
      refine ⟨fun ho => ?_, fun ho => ?_, fun ho => (m2 i ek).trans (i3 ho), fun x y z => (m2 i ek).trans (i4 x y z)⟩
      ·rcases i1 ho with ⟨j, j1, j2⟩ | hc
       ·exact .inl ⟨j, by omega, by rw [a1 j]; exact j2⟩
       ·exact .inr (ZfQ (by omega) hc (m2 i ek))
      ·rcases i2 ho with ⟨j, j1, j2⟩ | hc
       ·exact .inl ⟨j, by omega, by rw [a1 j]; exact j2⟩
       ·exact .inr (ZfQ (by omega) hc (m2 i ek))
     ·obtain rfl : i = k := by omega
      exact ⟨fun ho => absurd ho h15, fun ho => absurd ho h16, fun ho => absurd ho h17, fun _ _ _ => by rw [e2]; exact Zwt⟩
theorem all {L : List R_iiii} {N : Nat} : ∀ k, (∀ j, j < k → okB L N j = true) → ZvM L k
 | 0, _ => ⟨fun j hj => absurd hj (Nat.not_lt_zero j), fun i j _ hj => absurd hj (Nat.not_lt_zero j), fun b hb => absurd hb (Nat.not_lt_zero b)⟩
 | k + 1, h => step (inv k fun j hj => h j (by omega)).1 (h k (by omega)) (all k fun j hj => h j (by omega))
theorem Zvv {L : List R_iiii} {n N : Nat} (hc : ZbI L n N = 0) {b : Nat} (hb : b < n) (ho : opA L b = 15 ∨ opA L b = 16) : Cl L (mtL L n) n b := by
 obtain ⟨f1, f2, f3, f4⟩ := Zi5 hc
 have h0 : ln L n = 0 := by unfold ln; rw [(inv n f2).1.1, f3]; rfl
 obtain ⟨i1, i2, -⟩ := (all n f2).idx b hb
 rcases ho with ho | ho
 ·rcases i1 ho with ⟨j, j1, -⟩ | h
  ·omega
  ·exact h
 ·rcases i2 ho with ⟨j, j1, -⟩ | h
  ·omega
  ·exact h
theorem ZoB (L : List R_iiii) (k : Nat) : (opA L k = 15 → ln L (k + 1) = ln L k + 1) ∧ (opA L k = 17 → ln L (k + 1) = ln L k - 1) ∧ (¬ opA L k = 15 → ¬ opA L k = 17 → ln L (k + 1) = ln L k) := by
 unfold ln
 rw [skL]
 unfold stk
 refine ⟨fun h => ?_, fun h => ?_, fun h g => ?_⟩
 ·rw [if_pos h]; simp
 ·rw [if_neg (by have h' : (L.getD k R_iiii.z).a0 = 17 := h; omega), if_neg (by have h' : (L.getD k R_iiii.z).a0 = 17 := h; omega), if_pos h]; simp
 ·rw [if_neg h]
  by_cases h16 : opA L k = 16
  ·rw [if_pos h16]; simp
  ·rw [if_neg h16, if_neg g]
theorem ZuP (L : List R_iiii) : ∀ k, ln L k ≤ k
 | 0 => Nat.le_refl _
 | k + 1 => by
  have := ZuP L k
  obtain ⟨a, b, d⟩ := ZoB L k
  by_cases h15 : opA L k = 15
  ·have := a h15; omega
  ·by_cases h17 : opA L k = 17
   ·have := b h17; omega
   ·have := d h15 h17; omega
section
variable {L : List R_iiii} {n c N : Nat} {a4 : Int}
theorem scan (hn : n ≤ L.length) (hL : n ≤ 512) {i m : Nat} (h1 : i < m) (h2 : m < n) (h4 : opA L m = 16 ∨ opA L m = 17) (h5 : ln L m = ln L (i + 1)) (h6 : NoF L i m) : ∀ d j f, j + d = m → d < f → i < j → Zcn (Zeq L n c a4 N) f (.h1m0 (ln L j - ln L (i + 1)) (j : Int)) = some (.r0 (m : Int)) := by
 intro d
 induction d with
 | zero =>
  intro j f hj hf hij
  obtain ⟨f, rfl⟩ : ∃ q, f = q + 1 := ⟨f - 1, by omega⟩
  obtain rfl : j = m := by omega
  refine Za3 ?_
  show Zdq L n c a4 N _ _ = _
  unfold Zdq
  rw [Int.toNat_natCast]
  refine Zj (by omega) <| Zj (by omega) <| Zj (by omega) <| Zj (by omega) ?_
  by_cases h17 : opA L j = 17
  ·exact Zj h17 rfl
  ·exact Z1 h17 <| Zj (h4.resolve_right h17) rfl
 | succ d ih =>
  intro j f hj hf hij
  obtain ⟨f, rfl⟩ : ∃ q, f = q + 1 := ⟨f - 1, by omega⟩
  obtain ⟨g1, g2⟩ := h6 j hij (by omega)
  obtain ⟨n15, n17, n0⟩ := ZoB L j
  have hw : IntKind.i64.wrap ((j : Int) + 1) = ((j + 1 : Nat) : Int) := by rw [w64 (by omega) (by omega)]; omega
  refine (Zau (y := .h1m0 (ln L (j + 1) - ln L (i + 1)) ((j + 1 : Nat) : Int)) ?_).trans (ih (j + 1) f (by omega) (by omega) (by omega))
  show Zdq L n c a4 N _ _ = _
  unfold Zdq
  rw [Int.toNat_natCast, hw]
  refine Zj (by omega) ?_
  by_cases hz : ln L j = ln L (i + 1)
  ·have o16 : ¬ opA L j = 16 := fun e => g2 ⟨hz, .inl e⟩
   have o17 : ¬ opA L j = 17 := fun e => g2 ⟨hz, .inr e⟩
   refine Zj (by omega) <| Zj (by omega) <| Zj (by omega) <| Z1 o17 <| Z1 o16 ?_
   by_cases o15 : opA L j = 15
   ·rw [n15 o15, show ln L j - ln L (i + 1) + 1 = ln L j + 1 - ln L (i + 1) by omega]
    exact Zj o15 rfl
   ·rw [n0 o15 o17]
    exact Z1 o15 rfl
  ·refine Z1 (by omega) <| Zj (by omega) <| Zj (by omega) ?_
   have hb : ln L j - ln L (i + 1) ≤ 1000 → True := fun _ => trivial
   by_cases o15 : opA L j = 15
   ·rw [n15 o15, show ln L j - ln L (i + 1) + 1 = ln L j + 1 - ln L (i + 1) by omega]
    refine Zj o15 (Zj ?_ rfl)
    have := ZuP L j
    omega
   ·refine Z1 o15 ?_
    by_cases o17 : opA L j = 17
    ·rw [n17 o17, show ln L j - ln L (i + 1) - 1 = ln L j - 1 - ln L (i + 1) by omega]
     refine Zj o17 (Zj ?_ rfl)
     have := ZuP L j
     omega
    ·rw [n0 o15 o17]
     exact Z1 o17 rfl
theorem Zuu (hn : n ≤ L.length) (hL : n ≤ 512) (hN : 2000 ≤ N) (hc : ZbI L n N = 0) {k : Nat} (hk : k < n) : Zgu L n c (k : Int) N = some (.r0 ((mtL L n).getD k 0)) := by
 obtain ⟨f1, f2, f3, f4⟩ := Zi5 hc
 have hw : IntKind.i64.wrap ((k : Int) + 1) = ((k + 1 : Nat) : Int) := by rw [w64 (by omega) (by omega)]; omega
 obtain ⟨-, -, i3, i4⟩ := (all n f2).idx k hk
 have go : opA L k = 15 ∨ opA L k = 16 → Zcn (Zeq L n c (k : Int) N) N (.h1m0 0 ((k + 1 : Nat) : Int)) = some (.r0 ((mtL L n).getD k 0)) := fun ho => by
  obtain ⟨m, h1, h2, h3, h4, h5, h6⟩ := Zvv hc hk ho
  rw [h3]
  have := scan (c := c) (N := N) (a4 := (k : Int)) hn hL h1 h2 h4 h5 h6 (m - (k + 1)) (k + 1) N (by omega) (by omega) (by omega)
  rw [Nat.sub_self] at this
  exact this
 unfold Zgu
 by_cases h15 : opA L k = 15
 ·have hin : ZdM L n c (k : Int) N = some (.inl (.h1m0 0 ((k + 1 : Nat) : Int))) := by
   unfold ZdM
   rw [Int.toNat_natCast, hw]
   exact Zj (by omega) <| Zj (by omega) <| Zj (by omega) <| Zj h15 rfl
  rw [ZfK hin]; exact go (.inl h15)
 ·by_cases h16 : opA L k = 16
  ·have hin : ZdM L n c (k : Int) N = some (.inl (.h1m0 0 ((k + 1 : Nat) : Int))) := by
    unfold ZdM
    rw [Int.toNat_natCast, hw]
    exact Zj (by omega) <| Zj (by omega) <| Zj (by omega) <| Z1 h15 <| Zj h16 rfl
   rw [ZfK hin]; exact go (.inr h16)
  ·refine ZhX ?_
   unfold ZdM
   rw [Int.toNat_natCast, hw]
   by_cases h17 : opA L k = 17
   ·have hbr := Zk2 (c := c) (N := N) (at_ := (k : Int)) k (by omega) hn (by omega) (.inl rfl) hL (by omega)
    have hrel := (inv k fun j hj => f2 j (by omega)).1
    have o2 := (Zi4 (f2 k hk)).2
    have hp := Zl6 o2 (.inr h17)
    have : (mtL L n).getD k 0 = (brP (opn L k)).a0 := by
     rw [i3 h17]
     unfold own brP
     rw [if_neg (by omega)]
     unfold Zbn
     rw [hrel.1]
     exact (hrel.2 _ (by omega)).1
    rw [this]
    exact Zj (by omega) <| Zj (by omega) <| Zj (by omega) <| Z1 h15 <| Z1 h16 <| Zj h17 <| Zu hbr rfl
   ·rw [i4 h15 h16 h17]
    exact Zj (by omega) <| Zj (by omega) <| Zj (by omega) <| Z1 h15 <| Z1 h16 <| Z1 h17 rfl
end
end Km
end Ev
end Go.Proofs.Ytpgbennpiihajaa
