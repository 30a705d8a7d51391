/- The law FairPicks, for every input. -/
import Derived.Test.YtgbiifdcabmffaaGreatZad
import Derived.Test.YtgbiifdcabmffaaGreatZac
import Derived.StillTail
import Derived.OrdersHeld
import Derived.WideBlind
/- Ze7 picks, as the document has it: plain. -/
namespace Go.Proofs.YtgbiifdcabmffaaGreat
open Go.RowKit
namespace Ev
namespace Fp
set_option linter.unusedVariables false
set_option linter.unusedSimpArgs false

theorem Zlx {M : List Int} {x : Int} {N : Nat} (hM : M.length ≤ 100000) : ∀ d i f, i + d = M.length → d < f → ∃ b, Zam (ZaM M x N) f (.h1m0 i) = some (.r0 b) ∧ (b = true ↔ ∃ j, i ≤ j ∧ j < M.length ∧ M.getD j 0 = x)
 | 0, i, f, hd, hf => by
  obtain ⟨f, rfl⟩ : ∃ g, f = g + 1 := ⟨f - 1, by omega⟩
  have hs : ZaM M x N (.h1m0 i) = some (.inr (.r0 false)) := by
   show Zas M x N i = _
   unfold Zas
   exact Zr (by omega) rfl
  exact ⟨false, Za8 hs, fun q => (by cases q), fun ⟨j, h1, h2, _⟩ => by omega⟩
 | d + 1, i, f, hd, hf => by
  obtain ⟨f, rfl⟩ : ∃ g, f = g + 1 := ⟨f - 1, by omega⟩
  by_cases c : M.getD i 0 = x
  ·have hs : ZaM M x N (.h1m0 i) = some (.inr (.r0 true)) := by
    show Zas M x N i = _
    unfold Zas
    exact Zb (by omega) <| Zb c rfl
   exact ⟨true, Za8 hs, fun _ => ⟨i, Nat.le_refl _, by omega, c⟩, fun _ => rfl⟩
  ·have hs : ZaM M x N (.h1m0 i) = some (.inl (.h1m0 (i + 1))) := by
    show Zas M x N i = _
    unfold Zas
    exact Zb (by omega) <| Zr c <| Zb (by omega) rfl
   obtain ⟨b, q1, q2⟩ := Zlx (N := N) hM d (i + 1) f (by omega) (by omega)
   refine ⟨b, (Zap hs).trans q1, q2.trans ⟨fun ⟨j, h1, h2⟩ => ⟨j, by omega, h2⟩, fun ⟨j, h1, h2, h3⟩ => ⟨j, ?_, h2, h3⟩⟩⟩
   by_cases e : j = i
   ·subst e; exact absurd h3 c
   ·omega
theorem Zo8 {M : List Int} {x : Int} {N : Nat} (hM : M.length ≤ 80000) (hN : 90000 ≤ N) : ∃ b, ZeH M x N = some (.r0 b) ∧ (b = true ↔ ∃ j, j < M.length ∧ M.getD j 0 = x) := by
 obtain ⟨b, q1, q2⟩ := Zlx (M := M) (x := x) (N := N) (by omega) M.length 0 N (by omega) (by omega)
 refine ⟨b, q1, q2.trans ⟨fun ⟨j, _, h2⟩ => ⟨j, h2⟩, fun ⟨j, h2⟩ => ⟨j, Nat.zero_le _, h2⟩⟩⟩
theorem Zoj {L : List Int} {i K t : Nat} (h : i + K ≤ L.length) : (∃ j, j < ((L.drop i).take K).length ∧ ((L.drop i).take K).getD j 0 = (t : Int)) ↔ ∃ j, i ≤ j ∧ j < i + K ∧ L.getD j 0 = (t : Int) := by
 have hl : ((L.drop i).take K).length = K := by simp; omega
 have hg : ∀ j, j < K → ((L.drop i).take K).getD j 0 = L.getD (i + j) 0 := fun j hj => by simp [List.getElem?_take, hj]
 rw [hl]
 constructor
 ·rintro ⟨j, h1, h2⟩
  exact ⟨i + j, by omega, by omega, by rw [← hg j h1]; exact h2⟩
 ·rintro ⟨j, h1, h2, h3⟩
  exact ⟨j - i, by omega, by rw [hg _ (by omega), show i + (j - i) = j by omega]; exact h3⟩
theorem Zly {L : List Int} {T K N i : Nat} (hT1 : 1 ≤ T) (hT : T ≤ 64) (hK : 1 ≤ K) (hL : L.length ≤ 80000) (hN : 90000 ≤ N) (hi : i + K ≤ L.length) : ∀ d t f, t + d = T → (∀ q, q < t → ∃ j, i ≤ j ∧ j < i + K ∧ L.getD j 0 = (q : Int)) →
  (Win L T i K ∧ Zam (ZO L (T : Int) (K : Int) N) (f + d + 1) (.h2m0 i t) = Zam (ZO L (T : Int) (K : Int) N) f (.h1m0 (i + 1))) ∨ (¬ Win L T i K ∧ Zam (ZO L (T : Int) (K : Int) N) (f + d + 1) (.h2m0 i t) = some (.r0 false))
 | 0, t, f, hd, hw => by
  have hs : ZO L (T : Int) (K : Int) N (.h2m0 i t) = some (.inl (.h1m0 (i + 1))) := by
   show Za2 L (T : Int) (K : Int) N i t = _
   unfold Za2
   exact Zb (by omega) <| Zb (by omega) <| Zb (by omega) <| Zr (by omega) <| Zb (by omega) rfl
  exact .inl ⟨fun q hq => hw q (by omega), Zap hs⟩
 | d + 1, t, f, hd, hw => by
  have e : IntKind.i64.wrap ((i : Int) + (K : Int)) = ((i + K : Nat) : Int) := by rw [w64 (by omega) (by omega)]; omega
  obtain ⟨b, q1, q2⟩ := Zo8 (M := (L.drop i).take K) (x := (t : Int)) (N := N) (by simp; omega) hN
  rw [Zoj hi] at q2
  have e2 : ((i + K : Nat) : Int).toNat - i = K := by omega
  cases b with
  | false =>
   have hs : ZO L (T : Int) (K : Int) N (.h2m0 i t) = some (.inr (.r0 false)) := by
    show Za2 L (T : Int) (K : Int) N i t = _
    unfold Za2
    rw [e, e2]
    exact Zb (by omega) <| Zb (by omega) <| Zb (by omega) <| Zb (by omega) <| Zb (by omega) <| Zb (by omega) <| Zbc q1 <| Zb (by decide) rfl
   exact .inr ⟨fun q => absurd (q2.2 (q t (by omega))) (by decide), Za8 hs⟩
  | true =>
   have hs : ZO L (T : Int) (K : Int) N (.h2m0 i t) = some (.inl (.h2m0 i (t + 1))) := by
    show Za2 L (T : Int) (K : Int) N i t = _
    unfold Za2
    rw [e, e2]
    exact Zb (by omega) <| Zb (by omega) <| Zb (by omega) <| Zb (by omega) <| Zb (by omega) <| Zb (by omega) <| Zbc q1 <| Zr (by decide) rfl
   rw [show f + (d + 1) + 1 = (f + d + 1) + 1 by omega, Zap hs]
   exact Zly hT1 hT hK hL hN hi d (t + 1) f (by omega) (fun q hq => by
    by_cases e : q = t
    ·subst e; exact q2.1 rfl
    ·exact hw q (by omega))
theorem Zlz {L : List Int} {T K N : Nat} (hT1 : 1 ≤ T) (hT : T ≤ 64) (hK : 1 ≤ K) (hKm : (K : Int) ≤ 9223372036854775807) (hL : L.length ≤ 80000) (hN : 90000 ≤ N) : ∀ d i f, (if K ≤ L.length then i + d = L.length - K + 1 else d = 0) → 70 * d < f → (∀ q, q < i → Win L T q K) → ∃ b, Zam (ZO L (T : Int) (K : Int) N) f (.h1m0 i) = some (.r0 b) ∧ (b = true ↔ Ze7 L T K)
 | 0, i, f, hd, hf, hw => by
  obtain ⟨f, rfl⟩ : ∃ g, f = g + 1 := ⟨f - 1, by omega⟩
  have hs : ZO L (T : Int) (K : Int) N (.h1m0 i) = some (.inr (.r0 true)) := by
   show Zbe L (T : Int) (K : Int) N i = _
   unfold Zbe
   rw [w64 (by omega) (by omega)]
   refine Zb (by omega) <| Zb (by omega) <| Zb (by omega) <| Zr ?_ rfl
   split at hd <;> omega
  refine ⟨true, Za8 hs, fun _ q hq => hw q ?_, fun _ => rfl⟩
  rw [if_pos (by omega)] at hd; omega
 | d + 1, i, f, hd, hf, hw => by
  have hKL : K ≤ L.length := by
   by_cases h : K ≤ L.length
   ·exact h
   ·rw [if_neg h] at hd; omega
  rw [if_pos hKL] at hd
  have hs : ZO L (T : Int) (K : Int) N (.h1m0 i) = some (.inl (.h2m0 i 0)) := by
   show Zbe L (T : Int) (K : Int) N i = _
   unfold Zbe
   rw [w64 (by omega) (by omega)]
   exact Zb (by omega) <| Zb (by omega) <| Zb (by omega) <| Zb (by omega) rfl
  obtain ⟨f, rfl⟩ : ∃ g, f = (g + T + 1) + 1 := ⟨f - T - 2, by omega⟩
  rw [Zap hs]
  rcases Zly (N := N) hT1 hT hK hL hN (i := i) (by omega) T 0 f (by omega) (fun q hq => by omega) with ⟨h1, h2⟩ | ⟨h1, h2⟩
  ·rw [h2]
   exact Zlz hT1 hT hK hKm hL hN d (i + 1) f (by rw [if_pos hKL]; omega) (by omega) (fun q hq => by
    by_cases e : q = i
    ·subst e; exact h1
    ·exact hw q (by omega))
  ·exact ⟨false, h2, fun q => (by cases q), fun q => absurd (q i (by omega)) h1⟩
theorem Zo9 {L : List Int} {T K N : Nat} (hT1 : 1 ≤ T) (hT : T ≤ 64) (hK : 1 ≤ K) (hKm : (K : Int) ≤ 9223372036854775807) (hL : L.length ≤ 1000) (hN : 90000 ≤ N) : ∃ b, ZbM L (T : Int) (K : Int) N = some (.r0 b) ∧ (b = true ↔ Ze7 L T K) := by
 obtain ⟨b, h1, h2⟩ := Zlz (L := L) (T := T) (K := K) (N := N) hT1 hT hK hKm (by omega) hN (if K ≤ L.length then L.length - K + 1 else 0) 0 N (by split <;> omega) (by split <;> omega) (fun q hq => by omega)
 refine ⟨b, ?_, h2⟩
 unfold ZbM Zco
 rw [if_neg (by omega), if_neg (by omega), if_neg (by omega)]
 exact h1
theorem Zok {L : List Int} {a k : Int} {N : Nat} (hk : k ≤ 9223372036854775807) (hL : L.length ≤ 1000) (hN : 90000 ≤ N) : ∃ b, Zcx L a k N = some (.r0 b) ∧ ZbM L a k N = some (.r0 b) := by
 by_cases h1 : 1 ≤ a
 ·by_cases h2 : a ≤ 64
  ·by_cases h3 : 1 ≤ k
   ·obtain ⟨T, rfl⟩ : ∃ T : Nat, a = (T : Int) := ⟨a.toNat, by omega⟩
    obtain ⟨K, rfl⟩ : ∃ K : Nat, k = (K : Int) := ⟨k.toNat, by omega⟩
    obtain ⟨b, p1, p2⟩ := a_is (L := L) (T := T) (K := K) (N := N) (by omega) (by omega) (by omega) (by omega) hN
    obtain ⟨c, q1, q2⟩ := Zo9 (L := L) (T := T) (K := K) (N := N) (by omega) (by omega) (by omega) hk hL hN
    have e : c = b := by
     have := p2.trans q2.symm
     cases b <;> cases c <;> simp_all
    subst e
    exact ⟨c, p1, q1⟩
   ·refine ⟨false, ?_, ?_⟩
    ·unfold Zcx ZcE; rw [if_pos h1, if_pos h2, if_pos (by omega)]; rfl
    ·unfold ZbM Zco; rw [if_neg (by omega), if_neg (by omega), if_pos (by omega)]; rfl
  ·refine ⟨false, ?_, ?_⟩
   ·unfold Zcx ZcE; rw [if_pos h1, if_neg h2]; rfl
   ·unfold ZbM Zco; rw [if_neg (by omega), if_pos (by omega)]; rfl
 ·refine ⟨false, ?_, ?_⟩
  ·unfold Zcx ZcE; rw [if_neg h1]; rfl
  ·unfold ZbM Zco; rw [if_pos (by omega)]; rfl
end Fp
end Ev
end Go.Proofs.YtgbiifdcabmffaaGreat
/- Picks in turn, and the law: plain. -/
namespace Go.Proofs.YtgbiifdcabmffaaGreat
open Go.RowKit
namespace Ev
namespace Fp
set_option linter.unusedVariables false
set_option linter.unusedSimpArgs false

def ZdV (T : Nat) (F : List Int) (c : Nat) : Prop := ∀ j, j < c → F.getD j 0 = ((j % T : Nat) : Int)
theorem ZhA {T c : Nat} {F : List Int} (h : ZdV T F c) (hc : c < F.length) : ZdV T (F.set c ((c % T : Nat) : Int)) (c + 1) := fun j hj => by
 rw [Zh9 hc]
 by_cases e : j = c
 ·rw [if_pos e, e]
 ·rw [if_neg e]; exact h j (by omega)
theorem ZmX {T c : Nat} (hT : 1 ≤ T) (hT64 : T ≤ 64) : Int.tmod (IntKind.i64.wrap (((c % T : Nat) : Int) + 1)) (T : Int) = (((c + 1) % T : Nat) : Int) := by
 have hl := Nat.mod_lt c (show T > 0 from hT)
 rw [w64 (by omega) (by omega)]
 have e : ((c % T : Nat) : Int) + 1 = ((c % T + 1 : Nat) : Int) := by omega
 rw [e, ← Int.ofNat_tmod, Nat.mod_add_mod]
theorem Zja {T n C N : Nat} (hT1 : 1 ≤ T) (hT : T ≤ 64) (hC : IntKind.i64.wrap ((T : Int) * (n : Int)) = (C : Int)) : ∀ d c F f, c + d + 1 = C → d < f → F.length = C → ZdV T F c → ∃ G : List Int, Zam (Zal (T : Int) (n : Int) N) f (.h1m0 ((c % T : Nat) : Int) F c) = some (.r2 G C) ∧ G.length = C ∧ ZdV T G C
 | 0, c, F, f, hd, hf, hF, h => by
  obtain ⟨f, rfl⟩ : ∃ g, f = g + 1 := ⟨f - 1, by omega⟩
  obtain rfl : C = c + 1 := by omega
  have hs : Zal (T : Int) (n : Int) N (.h1m0 ((c % T : Nat) : Int) F c) = some (.inr (.r2 (F.set c ((c % T : Nat) : Int)) (c + 1))) := by
   show ZY (T : Int) (n : Int) N ((c % T : Nat) : Int) F c = _
   unfold ZY
   rw [hC]
   exact Zb (by omega) <| Zb (by omega) <| Zb rfl rfl
  exact ⟨_, Za8 hs, by rw [List.length_set]; exact hF, ZhA h (by omega)⟩
 | d + 1, c, F, f, hd, hf, hF, h => by
  obtain ⟨f, rfl⟩ : ∃ g, f = g + 1 := ⟨f - 1, by omega⟩
  have hs : Zal (T : Int) (n : Int) N (.h1m0 ((c % T : Nat) : Int) F c) = some (.inl (.h1m0 (((c + 1) % T : Nat) : Int) (F.set c ((c % T : Nat) : Int)) (c + 1))) := by
   show ZY (T : Int) (n : Int) N ((c % T : Nat) : Int) F c = _
   unfold ZY
   rw [hC, ZmX hT1 hT]
   exact Zb (by omega) <| Zb (by omega) <| Zr (by omega) <| Zb (by omega) rfl
  rw [Zap hs]
  exact Zja hT1 hT hC d (c + 1) _ f (by omega) (by omega) (by rw [List.length_set]; exact hF) (ZhA h (by omega))
theorem ZmY {T n C N i : Nat} (hT1 : 1 ≤ T) (hT : T ≤ 64) (hC : IntKind.i64.wrap ((T : Int) * (n : Int)) = (C : Int)) (hi : i ≤ 100000) (hiT : i * T + T ≤ C) : ∀ d t F f, t + d = T → F.length = C → ZdV T F (i * T + t) → ∃ G : List Int, G.length = C ∧ ZdV T G (i * T + T) ∧ Zam (ZC (T : Int) (n : Int) N) (f + d + 1) (.h2m0 F (i * T + t) i t) = Zam (ZC (T : Int) (n : Int) N) f (.h1m0 G (i * T + T) (i + 1))
 | 0, t, F, f, hd, hF, h => by
  obtain rfl : T = t := by omega
  have hs : ZC (T : Int) (n : Int) N (.h2m0 F (i * T + T) i T) = some (.inl (.h1m0 F (i * T + T) (i + 1))) := by
   show Zav (T : Int) (n : Int) N F (i * T + T) i T = _
   unfold Zav
   exact Zr (by omega) <| Zb (by omega) rfl
  exact ⟨F, hF, h, Zap hs⟩
 | d + 1, t, F, f, hd, hF, h => by
  have hm : (i * T + t) % T = t := by rw [Nat.add_comm, Nat.add_mul_mod_self_right, Nat.mod_eq_of_lt (by omega)]
  have hs : ZC (T : Int) (n : Int) N (.h2m0 F (i * T + t) i t) = some (.inl (.h2m0 (F.set (i * T + t) (t : Int)) (i * T + t + 1) i (t + 1))) := by
   show Zav (T : Int) (n : Int) N F (i * T + t) i t = _
   unfold Zav
   rw [hC]
   exact Zb (by omega) <| Zb (by omega) <| Zb (by omega) <| Zb (by omega) rfl
  have hp := ZhA h (by omega)
  rw [hm] at hp
  obtain ⟨G, g1, g2, g3⟩ := ZmY (N := N) hT1 hT hC hi hiT d (t + 1) (F.set (i * T + t) (t : Int)) f (by omega) (by rw [List.length_set]; exact hF) hp
  refine ⟨G, g1, g2, ?_⟩
  rw [show f + (d + 1) + 1 = (f + d + 1) + 1 by omega, Zap hs]
  exact g3
theorem Zjb {T n C N : Nat} (hT1 : 1 ≤ T) (hT : T ≤ 64) (hn : n ≤ 1000) (hCn : C = n * T) (hC : IntKind.i64.wrap ((T : Int) * (n : Int)) = (C : Int)) : ∀ d i F f, i + d = n → 70 * d < f → F.length = C → ZdV T F (i * T) → ∃ G : List Int, Zam (ZC (T : Int) (n : Int) N) f (.h1m0 F (i * T) i) = some (.r1 G C) ∧ G.length = C ∧ ZdV T G C
 | 0, i, F, f, hd, hf, hF, h => by
  obtain ⟨f, rfl⟩ : ∃ g, f = g + 1 := ⟨f - 1, by omega⟩
  obtain rfl : n = i := by omega
  rw [← hCn] at h ⊢
  have hs : ZC (T : Int) (n : Int) N (.h1m0 F C n) = some (.inr (.r1 F C)) := by
   show Zau (T : Int) (n : Int) N F C n = _
   unfold Zau
   exact Zr (by omega) rfl
  exact ⟨F, Za8 hs, hF, h⟩
 | d + 1, i, F, f, hd, hf, hF, h => by
  have hb : (i + 1) * T ≤ n * T := Nat.mul_le_mul_right T (by omega)
  have hb1 : (i + 1) * T = i * T + T := Nat.succ_mul i T
  obtain ⟨f, rfl⟩ : ∃ g, f = (g + T + 1) + 1 := ⟨f - T - 2, by omega⟩
  have hs : ZC (T : Int) (n : Int) N (.h1m0 F (i * T) i) = some (.inl (.h2m0 F (i * T) i 0)) := by
   show Zau (T : Int) (n : Int) N F (i * T) i = _
   unfold Zau
   exact Zb (by omega) rfl
  obtain ⟨G, g1, g2, g3⟩ := ZmY (N := N) hT1 hT hC (i := i) (by omega) (by omega) T 0 F f (by omega) hF h
  rw [Zap hs]
  obtain ⟨G', k1, k2⟩ := Zjb (N := N) hT1 hT hn hCn hC d (i + 1) G f (by omega) (by omega) g1 (by rw [hb1]; exact g2)
  rw [hb1] at k1
  exact ⟨G', g3.trans k1, k2⟩
theorem Zol {T C : Nat} {F G : List Int} (hF : F.length = C) (hG : G.length = C) (h1 : ZdV T F C) (h2 : ZdV T G C) : F = G :=
 ZnE 0 (hF.trans hG.symm) fun i hi => by rw [h1 i (by omega), h2 i (by omega)]
theorem ZmZ {T : Nat} {G : List Int} (hT1 : 1 ≤ T) (h : ZdV T G G.length) : Ze7 G T T := by
 intro i hi t ht
 have hd := Nat.div_add_mod i T
 have hl := Nat.mod_lt i (show T > 0 from hT1)
 by_cases c : i % T ≤ t
 ·refine ⟨T * (i / T) + t, by omega, by omega, ?_⟩
  rw [h _ (by omega), Nat.mul_add_mod, Nat.mod_eq_of_lt ht]
 ·have e : T * (i / T + 1) = T * (i / T) + T := Nat.mul_succ T (i / T)
  refine ⟨T * (i / T + 1) + t, by omega, by omega, ?_⟩
  rw [h _ (by omega), Nat.mul_add_mod, Nat.mod_eq_of_lt ht]
theorem ZgA {G : List Int} {m N : Nat} (hG : G.length ≤ 100000) : ∀ d i f, i + d = G.length → d < f → Zam (ZaD G G.length G G.length m N) f (.h1m0 i) = some (.r0 true)
 | 0, i, f, hd, hf => by
  obtain ⟨f, rfl⟩ : ∃ g, f = g + 1 := ⟨f - 1, by omega⟩
  refine Za8 ?_
  show ZU G G.length G G.length m N i = _
  unfold ZU
  exact Zr (by omega) rfl
 | d + 1, i, f, hd, hf => by
  obtain ⟨f, rfl⟩ : ∃ g, f = g + 1 := ⟨f - 1, by omega⟩
  refine (Zap (y := .h1m0 (i + 1)) ?_).trans (ZgA hG d (i + 1) f (by omega) (by omega))
  show ZU G G.length G G.length m N i = _
  unfold ZU
  exact Zb (by omega) <| Zb (by omega) <| Zb (by omega) <| Zb (by omega) <| Zr (fun q => q rfl) <| Zb (by omega) rfl
theorem ZiQ {G : List Int} {m N : Nat} (hG : G.length ≤ 10000) (hN : 90000 ≤ N) : Zby G G.length G G.length m N = some (.r0 true) := by
 unfold Zby ZbF
 rw [if_neg (fun q => q rfl)]
 exact ZgA (by omega) G.length 0 N (by omega) (by omega)
theorem Zla {a n : Int} (h : ¬ (1 ≤ a ∧ a ≤ 64 ∧ 1 ≤ n)) (hn : n ≤ 1000) {N : Nat} : Zax a n N = some .r0 ∧ Zan a n N = some .r0 := by
 by_cases h1 : 1 ≤ a
 ·by_cases h2 : a ≤ 64
  ·have h3 : n < 1 := by omega
   constructor
   ·unfold Zax Zb2; rw [if_pos h1, if_pos h2, if_pos h3]; rfl
   ·unfold Zan ZaQ; rw [if_neg (by omega), if_neg (by omega), if_pos h3]; rfl
  ·constructor
   ·unfold Zax Zb2; rw [if_pos h1, if_neg h2]; rfl
   ·unfold Zan ZaQ; rw [if_neg (by omega), if_pos (by omega)]; rfl
 ·constructor
  ·unfold Zax Zb2; rw [if_neg h1]; rfl
  ·unfold Zan ZaQ; rw [if_pos (by omega)]; rfl
theorem Zlb {T n N : Nat} (hT1 : 1 ≤ T) (hT : T ≤ 64) (hn1 : 1 ≤ n) (hn : n ≤ 19) (hN : 90000 ≤ N) : ∃ G : List Int, G.length ≤ 1300 ∧ ZdV T G G.length ∧ Zax (T : Int) (n : Int) N = some (.r2 G G.length) ∧ Zan (T : Int) (n : Int) N = some (.r1 G G.length) := by
 obtain ⟨C, hCn⟩ : ∃ C, C = n * T := ⟨_, rfl⟩
 have hb : C ≤ 19 * 64 := by rw [hCn]; exact Nat.mul_le_mul hn hT
 have hb1 : 1 * 1 ≤ C := by rw [hCn]; exact Nat.mul_le_mul hn1 hT1
 have hm : (T : Int) * (n : Int) = (C : Int) := by rw [hCn, Nat.mul_comm]; exact (Int.natCast_mul T n).symm
 have hC : IntKind.i64.wrap ((T : Int) * (n : Int)) = (C : Int) := by rw [hm]; exact w64 (by omega) (by omega)
 have hr : (List.replicate C (0 : Int)).length = C := by simp
 obtain ⟨G, g1, g2, g3⟩ := Zja (N := N) hT1 hT hC (C - 1) 0 (List.replicate C 0) N (by omega) (by omega) hr (fun j hj => by omega)
 obtain ⟨G', k1, k2, k3⟩ := Zjb (N := N) hT1 hT (by omega) hCn hC n 0 (List.replicate C 0) N (by omega) (by omega) hr (fun j hj => by omega)
 obtain rfl : G' = G := Zol k2 g2 k3 g3
 refine ⟨G', by omega, by rw [k2]; exact k3, ?_, ?_⟩
 ·unfold Zax Zb2
  rw [hC, if_pos (by omega), if_pos (by omega), if_neg (by omega), if_neg (by omega), if_pos (by omega), if_pos (by omega), k2]
  rw [show ((0 % T : Nat) : Int) = 0 by rw [Nat.zero_mod]; rfl] at g1
  exact g1
 ·unfold Zan ZaQ
  rw [hC, if_neg (by omega), if_neg (by omega), if_neg (by omega), if_neg (by omega), if_pos (by omega), if_pos (by omega), k2]
  rw [Nat.zero_mul] at k1
  exact k1
theorem Zom {a : Int} (h1 : 1 ≤ a) (h2 : a ≤ 64) : ZdJ a a 100000 = some (.r0 true) := by
 unfold ZdJ Zd3
 rw [if_pos h1, if_pos h2, if_neg (by omega)]
 show Zam (Zcq a a 100000) (99999 + 1) .h1m0 = _
 refine Za8 ?_
 show Zca a a 100000 = _
 unfold Zca
 rw [if_pos h1, if_pos h1, if_pos h2]
theorem Zna : ZcO 100000 = some .r0 := by
 show Zam (ZaZ 100000) (99999 + 1) .h1m0 = _
 exact Za8 rfl
theorem runs (L : List Int) (a k b : Int) (hk : k ≤ 9223372036854775807) (hb0 : 0 ≤ b) (hb : b ≤ 255) : ZbG L a k b 100000 = some (.r0 true) := by
 obtain ⟨n, hn, hn19⟩ : ∃ n : Nat, Int.tmod b 20 = (n : Int) ∧ n ≤ 19 := by
  obtain ⟨c, rfl⟩ : ∃ c : Nat, b = (c : Int) := ⟨b.toNat, by omega⟩
  exact ⟨c % 20, (Int.ofNat_tmod c 20).symm, by omega⟩
 obtain ⟨M, hM, hMl⟩ : ∃ M, (L.take ((if (60 : Int) < (L.length : Int) then (60 : Int) else (L.length : Int))).toNat) = M ∧ M.length ≤ 1000 := ⟨_, rfl, by rw [List.length_take]; split <;> omega⟩
 obtain ⟨c, p1, p2⟩ := Zok (L := M) (a := a) (k := k) (N := 100000) hk hMl (by omega)
 unfold ZbG
 rw [hn, hM]
 refine Zb (by omega) <| Zb (by omega) ?_
 by_cases h : 1 ≤ a ∧ a ≤ 64 ∧ 1 ≤ (n : Int)
 ·obtain ⟨T, rfl⟩ : ∃ T : Nat, a = (T : Int) := ⟨a.toNat, by omega⟩
  obtain ⟨G, g1, g2, g3, g4⟩ := Zlb (T := T) (n := n) (N := 100000) (by omega) (by omega) (by omega) hn19 (by omega)
  obtain ⟨e, q1, q2⟩ := b_is (L := G) (T := T) (K := T) (N := 100000) (by omega) (by omega) (by omega) (by omega) (by omega)
  obtain rfl : e = true := q2.2 (ZmZ (by omega) g2)
  exact Zbc g3 <| Zbc g4 <| Zbc (ZiQ (by omega) (by omega)) <| Zr (by decide) <| Zbc p1 <| Zbc p2 <| Zr (fun q => q rfl) <| Zr (by omega) <| Zr (by omega) <| Zbc q1 <| Zb rfl rfl
 ·obtain ⟨g3, g4⟩ := Zla (a := a) (n := (n : Int)) h (by omega) (N := 100000)
  refine Zbc g3 <| Zbc g4 <| Zbc Zna <| Zbc p1 <| Zbc p2 <| Zr (fun q => q rfl) ?_
  by_cases h1 : a < 1
  ·exact Zb h1 rfl
  ·by_cases h2 : 64 < a
   ·exact Zr h1 <| Zb h2 rfl
   ·exact Zr h1 <| Zr h2 <| Zbc (Zom (by omega) (by omega)) <| Zb rfl rfl
end Fp
end Ev
end Go.Proofs.YtgbiifdcabmffaaGreat
/- A region that draws its order, whose first operations only read (and make memory in calls), and whose last ones, in a forced order among themselves, make and write new memory: but these may come up early. -/
namespace Go.Proofs.YtgbiifdcabmffaaGreat
open Go.RowKit

section
variable {P : Program}

def Calm (P : Program) (W : World) (o : Oper) (a : Act) (v : Value) : Prop :=
 ∀ w, Below W.heap.size W w → o.quietAt P a (fun w' => Below w.heap.size w w') w v

def YieldsC (P : Program) (ops : Array Oper) (W : World) (o : Oper) (v : Value) (a : Act) : Prop :=
 (Region.wanted o (yielded ops a.tmps) = true ∧ Calm P W o a v) ∨ (Region.wanted o (yielded ops a.tmps) = false ∧ v = undef)
theorem Zjc {a b c : World} (h : Below a.heap.size a b) (k : Below b.heap.size b c) : Below a.heap.size a c := h.trans (k.mono h.size)

def Closed (md : Region.Mode) (ops : Array Oper) (listed : Array Bool) : Prop :=
 ∀ j oj, ops[j]? = some oj → listed.getD j false = true → ∀ e ∈ oj.after, Region.binds md e = true → listed.getD e.on false = true
def Zk1 (md : Region.Mode) (ops : Array Oper) : Nat → Nat → Nat → Bool
 | 0, _, _ => false
 | f + 1, t, i => Region.waitsFor md ops t i || (List.range ops.size).any fun k => Region.waitsFor md ops t k && Zk1 md ops f k i
theorem Closed.waits {md : Region.Mode} {ops : Array Oper} {listed : Array Bool} (h : Closed md ops listed) : ∀ (f t i : Nat), listed.getD t false = true → Zk1 md ops f t i = true → listed.getD i false = true
 | 0, _, _, _, hw => by cases hw
 | f + 1, t, i, ht, hw => by
  simp only [Zk1, Bool.or_eq_true, List.any_eq_true, Bool.and_eq_true] at hw
  rcases hw with hw | ⟨k, _, hw, hr⟩
  ·obtain ⟨o, ho, e, he, hb, rfl⟩ := Region.waitsFor_spec hw
   exact h t o ho ht e he hb
  ·obtain ⟨o, ho, e, he, hb, rfl⟩ := Region.waitsFor_spec hw
   exact h.waits f e.on i (h t o ho ht e he hb) hr

theorem YieldsC.wpOp {ops : Array Oper} {W : World} {i : Nat} {o : Oper} {v : Value} {a : Act} {w : World} (hi : ops[i]? = some o) (hy : YieldsC P ops W o v a) (hb : Below W.heap.size W w)
  {K : Act → World → Prop} {Q : Exit → Act → World → Prop} (h : ∀ w', Below w.heap.size w w' → K (a.put o.dst v) w') : wpOp P ops Q i K a w := by
 unfold Go.wpOp
 simp only [hi]
 rcases hy with ⟨hw, hv⟩ | ⟨hw, rfl⟩
 ·simp only [hw, if_true]
  exact .inl (Oper.wp_of_quiet (C := fun w' => Below w.heap.size w w') (K := fun a' => a' = a.put o.dst v) (Below.refl _ _) (fun a' w' hw' ha => by subst ha; exact h w' hw')
   ⟨v, fun w1 hw1 => by
    have h1 := hv w1 (Zjc hb hw1)
    unfold Oper.quietAt at h1 ⊢
    generalize (execOp a.eval o).run P w1 = r at *
    cases r with
    | ok n w' =>
     cases n <;> simp only [Oper.quietUpon] at h1 ⊢
     case value u => exact h1
     case skip => exact h1
     case enter f args => exact ⟨h1.1, h1.2.mono fun e w2 ⟨he, hb2⟩ => ⟨he, Zjc hw1 hb2⟩⟩
    | halt x w' => simp only [Oper.quietUpon] at h1, rfl⟩)
 ·simp only [hw, Bool.false_eq_true, if_false]
  exact h w (Below.refl _ _)

end
end Go.Proofs.YtgbiifdcabmffaaGreat
/- The law FairPicks, for every input. -/
namespace Go.Proofs.YtgbiifdcabmffaaGreat
open Go.ChangeShapes Go.WideShapes Go.ChangeAt Go.RowKit
namespace Ev
namespace FairPicks
set_option linter.unusedVariables false
def el0R (x : Int) : Prop := (IntKind.i64.min ≤ x ∧ x ≤ IntKind.i64.max)
theorem el0 {H : Type} {enc : TypeId × Value → H} {w : World} {cs : List Value} (hl : cs.length = 1) (h : Trd enc Tryz.prog w 3 cs) : ∃ x : Int, DecL w cs ((Zmd .i64).cel x) ∧ el0R x := by
 have h0 := Zo4 (by kernel_rfl : Tryz.prog.cellsOf 3 = 1) hl h
 obtain ⟨x0, e0, b0⟩ := Zo5 Tryz.underlying3 (by kernel_rfl) h0
 refine ⟨(x0 : Int), Zof (by rw [hl, Enc.clen]; rfl) (fun j y hy => ?_), b0⟩
 have := (Zog (w := w) (k := 0) e0 .i (Zo3 (w := w))) j y hy
 simpa using this
theorem own : ownKnob Tryz.prog.godebug = none := by kernel_rfl
set_option maxRecDepth 100000 in
theorem lifted (os : Os) (started : os.Started) (H : Type) (enc : TypeId × Value → H) :
  ReturnsInHanded {} Tryz.checked os 3 .any (Rows.fairPicksSpec.pre6 enc Tryz.prog Tryz.f3 Rows.fairPicksRow.domain false) (Rows.fairPicksSpec.post enc Tryz.prog Tryz.f3 false true false false) := by
 refine ZmD (C := Tryz.checked) own started (by kernel_rfl) Tryz.func3 rfl rfl Tryz.underlying4 ?_ (by kernel_rfl) (by kernel_rfl)
  (ChangeSpec.witness6 (enc := enc) (C := Tryz.checked) false ⟨#[], #[.slice none 0 0, .int .i64 0, .int .i64 0, .int .u8 0], []⟩ 8 (by kernel_rfl) (by kernel_rfl) (by kernel_rfl) (by kernel_rfl)) ?_
 ·intro ds hlen
  have hlen : ds.length = 4 := hlen.trans (by kernel_rfl)
  match ds, hlen with
  | [_, _, _, _], _ => rfl
 intro W base args ds p hval hA hlt hsz
 rw [Tryz.params3] at hA hval
 obtain ⟨v0, vs0, d0, ds0, p0, q0, hargs, rfl, rfl, h0, r0⟩ := trodAll_cons hA
 obtain ⟨v1, vs1, d1, ds1, p1, q1, rfl, rfl, rfl, h1, r1⟩ := trodAll_cons r0
 obtain ⟨v2, vs2, d2, ds2, p2, q2, rfl, rfl, rfl, h2, r2⟩ := trodAll_cons r1
 obtain ⟨v3, vs3, d3, ds3, p3, q3, rfl, rfl, rfl, h3, r3⟩ := trodAll_cons r2
 obtain ⟨rfl, rfl, rfl⟩ := trodAll_nil r3
 obtain rfl : args = #[v0, v1, v2, v3] := by cases args; simp_all
 obtain ⟨a0, l0, c0, rfl⟩ := Go.WideShapes.okWide_slice Tryz.underlying22 (hval 0 22 v0 rfl rfl)
 obtain ⟨L0, u0, e0, D0, n0, m0⟩ := ZmN (E := (Zmd .i64)) (Q := el0R) Tryz.underlying22 (by kernel_rfl) (by decide) (fun _ => el0) (Zoh h0)
 obtain rfl : u0 = .slice a0 l0 c0 := by have := e0; simp [Value.cells] at this; exact this.symm
 obtain ⟨z1, rfl, w1⟩ := ZfC (k := .i64) (by kernel_rfl) (ZfD (by kernel_rfl) (hval 1 3 v1 rfl rfl))
 obtain ⟨z2, rfl, w2⟩ := ZfC (k := .i64) (by kernel_rfl) (ZfD (by kernel_rfl) (hval 2 3 v2 rfl rfl))
 obtain ⟨z3, rfl, w3⟩ := ZfC (k := .u8) (by kernel_rfl) (ZfD (by kernel_rfl) (hval 3 5 v3 rfl rfl))
 exact Zo1 (ZfL L0 z1 z2 z3 100000 _ (Fp.runs L0 z1 z2 z3 w2.2 w3.1 w3.2)) (Zf5 (show VR (ιMk W) (ms (Zmd .i64) L0) _ from D0.vr) (Zf5 (.atom rfl) (Zf5 (.atom rfl) (Zf5 (.atom rfl) ZnZ)))) rfl
theorem over : Rows.fairPicksRow.holds Tryz.pinned (OpenSpec.ofChange Rows.fairPicksSpec) :=
 OpenClaim.holds_of_wide 3 Tryz.f3 rfl rfl rfl rfl rfl rfl rfl ⟨rfl, rfl, rfl, rfl, rfl⟩ rfl rfl rfl rfl rfl (by kernel_rfl) Tryz.func3 (by kernel_rfl)
  (of_decide_eq_true (by kernel_rfl)) (by unfold Func.isWrapper; first | (rw [if_pos (by decide +kernel)]; kernel_rfl) | (rw [if_neg (by decide +kernel)]; exact ⟨rfl, rfl⟩))
  (fun os started H enc _ => lifted os started H enc)
theorem proved : Rows.FairPicksSaid := over
#print axioms proved
end FairPicks
end Ev
end Go.Proofs.YtgbiifdcabmffaaGreat
