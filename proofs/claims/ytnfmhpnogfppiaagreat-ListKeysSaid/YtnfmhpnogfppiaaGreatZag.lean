/- The law ListKeys, for every input. -/
import Derived.Test.YtnfmhpnogfppiaaGreatZaf
import Derived.Test.YtnfmhpnogfppiaaGreatZac
import Derived.StillTail
import Derived.OrdersHeld
import Derived.WideBlind
/- The ZqV: plain. -/
namespace Go.Proofs.YtnfmhpnogfppiaaGreat
open Go.RowKit
namespace Ev
namespace Pi
set_option linter.unusedVariables false
set_option linter.unusedSimpArgs false
def eqR : Z9 → Zm → Prop
 | .r0 a, .r0 b => a = b
 | .r1 l, .r1 m => l = m ∧ l.length ≤ 1000
 | _, _ => False
def ky (x : Ob) : Int := (x.a7.getD 1 R_ii.z).a1
def cnt (v : Int) (L : List Ob) : Nat := (L.filter fun x => decide (ky x ≤ v)).length
theorem Zkl (v : Int) (L : List Ob) : cnt v L ≤ L.length := List.length_filter_le ..
theorem ZrD {a b : Int} (h : a ≤ b) : ∀ L : List Ob, cnt a L ≤ cnt b L
 | [] => Nat.le_refl _
 | x :: L => by
  have ih := ZrD h L
  unfold cnt at ih ⊢
  rw [List.filter_cons, List.filter_cons]
  by_cases h1 : ky x ≤ a
  ·have h2 : ky x ≤ b := by omega
   simp only [h1, h2, decide_true, if_true, List.length_cons]; omega
  ·by_cases h2 : ky x ≤ b
   ·simp only [h1, h2, decide_true, decide_false, if_true, Bool.false_eq_true, if_false, List.length_cons]; omega
   ·simp only [h1, h2, decide_false, Bool.false_eq_true, if_false]; omega
theorem Zmk {a b : Int} (h : a < b) : ∀ (L : List Ob) (x : Ob), x ∈ L → ky x = b → cnt a L < cnt b L
 | [], x, hx, _ => by cases hx
 | y :: L, x, hx, hk => by
  have hl := ZrD (Int.le_of_lt h) L
  rcases List.mem_cons.1 hx with rfl | hx
  ·unfold cnt at hl ⊢
   rw [List.filter_cons, List.filter_cons]
   have h1 : ¬ ky x ≤ a := by omega
   have h2 : ky x ≤ b := by omega
   simp only [h1, h2, decide_true, decide_false, if_true, Bool.false_eq_true, if_false, List.length_cons]; omega
  ·have ih := Zmk h L x hx hk
   unfold cnt at ih ⊢
   rw [List.filter_cons, List.filter_cons]
   by_cases h1 : ky y ≤ a
   ·have h2 : ky y ≤ b := by omega
    simp only [h1, h2, decide_true, if_true, List.length_cons]; omega
   ·by_cases h2 : ky y ≤ b
    ·simp only [h1, h2, decide_true, decide_false, if_true, Bool.false_eq_true, if_false, List.length_cons]; omega
    ·simp only [h1, h2, decide_false, Bool.false_eq_true, if_false]; omega
section
variable {L : List Ob} {M : List RA} {a1 a2 a3 : Int} {N : Nat}
theorem ZqV (hM : MI L 0 M) (hL : L.length ≤ 1000) (hN : 2000 ≤ N) : ∀ m f g out v3 v4 v5 v6 v7 v8 v9 v10 va vb, 1 ≤ out.length → out.length ≤ cnt (out.getD (out.length - 1) 0) L → L.length ≤ cnt (out.getD (out.length - 1) 0) L + m → m < f → m + 1 < g →
  ∃ rp rd, Zb4 (ZU L a1 a2 a3 N) f (.h2m1 out M v3 v4 v5 v6 v7 v8 v9 v10 va vb) = some rp ∧ Zb4 (Za5 L a1 a2 a3 N) g (.h1m1 out out.length va vb) = some rd ∧ eqR rp rd := by
 intro m
 induction m with
 | zero =>
  intro f g out v3 v4 v5 v6 v7 v8 v9 v10 va vb h1 hc hm hf hg
  have ht := Zkl (out.getD (out.length - 1) 0) L
  obtain ⟨f, rfl⟩ : ∃ j, f = j + 1 := ⟨f - 1, by omega⟩
  obtain ⟨g, rfl⟩ : ∃ j, g = j + 1 := ⟨g - 1, by omega⟩
  have hP : ZU L a1 a2 a3 N (.h2m1 out M v3 v4 v5 v6 v7 v8 v9 v10 va vb) = Zby L a1 a2 a3 N out M v3 v4 v5 v6 v7 v8 v9 v10 va vb := rfl
  have hD : Za5 L a1 a2 a3 N (.h1m1 out out.length va vb) = Zbl L a1 a2 a3 N out out.length va vb := rfl
  unfold Zby at hP
  unfold Zbl at hD
  rw [if_pos (by omega)] at hD
  by_cases h0 : va = 2 ∧ vb = 0
  ·rw [if_pos h0] at hP hD
   exact ⟨_, _, Zr hP, Zr hD, ⟨rfl, by omega⟩⟩
  ·rw [if_neg h0] at hP hD
   rcases Zaj hM hL hN va vb with ⟨j, hj, hg, hF, hP'⟩ | ⟨hF, hP'⟩
   ·rw [hF] at hD
    rw [hP', hg] at hP
    simp only [hit, Option.bind_some] at hD
    by_cases h2 : va = 2
    ·have hb : ¬ vb = 0 := fun q => h0 ⟨h2, q⟩
     rw [if_pos ⟨h2, hb⟩] at hP
     simp only [Option.bind_some] at hP
     rw [ZmK] at hP
     simp only [Option.bind_some] at hP
     rw [if_neg (fun q => q h2)] at hD
     by_cases h5 : (L.getD j R_iiiiiiiA.z).a5 = 3
     ·rw [if_pos (by rw [decide_eq_true_eq]; exact fun q => q.1 h5)] at hP
      rw [if_pos h5] at hD
      exact ⟨_, _, Zr hP, Zr hD, rfl⟩
     ·rw [if_neg h5] at hD
      by_cases h6 : (((L.getD j R_iiiiiiiA.z).a7.length : Nat) : Int) = 2
      ·rw [if_neg (fun q => q h6)] at hD
       by_cases h7 : ((L.getD j R_iiiiiiiA.z).a7.getD 0 R_ii.z).a0 = 2
       ·rw [if_neg (fun q => q h7)] at hD
        by_cases h8 : ((L.getD j R_iiiiiiiA.z).a7.getD 1 R_ii.z).a0 = 1
        ·rw [if_neg (fun q => q h8)] at hD
         rw [if_neg (by rw [decide_eq_true_eq]; exact fun q => q ⟨h5, h6, h7, h8⟩)] at hP
         have hx : L.getD j R_iiiiiiiA.z ∈ L := by
          rw [show L.getD j R_iiiiiiiA.z = L[j] by simp [hj]]; exact List.getElem_mem hj
         rw [if_pos (by omega), if_pos (by omega), if_pos (by omega)] at hP
         rw [if_pos (by omega), if_pos (by omega)] at hD
         by_cases h9 : ((L.getD j R_iiiiiiiA.z).a7.getD 1 R_ii.z).a1 ≤ out.getD (out.length - 1) 0
         ·rw [if_pos h9] at hP hD
          exact ⟨_, _, Zr hP, Zr hD, rfl⟩
         ·have hlt := Zmk (a := out.getD (out.length - 1) 0) (b := ((L.getD j R_iiiiiiiA.z).a7.getD 1 R_ii.z).a1) (by omega) L _ hx rfl
          have hle := Zkl ((L.getD j R_iiiiiiiA.z).a7.getD 1 R_ii.z).a1 L
          exact absurd hlt (by omega)
        ·rw [if_pos h8] at hD
         rw [if_pos (by rw [decide_eq_true_eq]; exact fun q => h8 q.2.2.2)] at hP
         exact ⟨_, _, Zr hP, Zr hD, rfl⟩
       ·rw [if_pos h7] at hD
        rw [if_pos (by rw [decide_eq_true_eq]; exact fun q => h7 q.2.2.1)] at hP
        exact ⟨_, _, Zr hP, Zr hD, rfl⟩
      ·rw [if_pos h6] at hD
       rw [if_pos (by rw [decide_eq_true_eq]; exact fun q => h6 q.2.1)] at hP
       exact ⟨_, _, Zr hP, Zr hD, rfl⟩
    ·rw [if_neg (fun q => h2 q.1)] at hP
     simp only [Option.bind_some] at hP
     rw [if_pos h2] at hD
     exact ⟨_, _, Zr hP, Zr hD, rfl⟩
   ·rw [hF] at hD
    rw [hP'] at hP
    simp only [Option.bind_some] at hP hD
    exact ⟨_, _, Zr hP, Zr hD, rfl⟩
 | succ m ih =>
  intro f g out v3 v4 v5 v6 v7 v8 v9 v10 va vb h1 hc hm hf hg
  have ht := Zkl (out.getD (out.length - 1) 0) L
  obtain ⟨f, rfl⟩ : ∃ j, f = j + 1 := ⟨f - 1, by omega⟩
  obtain ⟨g, rfl⟩ : ∃ j, g = j + 1 := ⟨g - 1, by omega⟩
  have hP : ZU L a1 a2 a3 N (.h2m1 out M v3 v4 v5 v6 v7 v8 v9 v10 va vb) = Zby L a1 a2 a3 N out M v3 v4 v5 v6 v7 v8 v9 v10 va vb := rfl
  have hD : Za5 L a1 a2 a3 N (.h1m1 out out.length va vb) = Zbl L a1 a2 a3 N out out.length va vb := rfl
  unfold Zby at hP
  unfold Zbl at hD
  rw [if_pos (by omega)] at hD
  by_cases h0 : va = 2 ∧ vb = 0
  ·rw [if_pos h0] at hP hD
   exact ⟨_, _, Zr hP, Zr hD, ⟨rfl, by omega⟩⟩
  ·rw [if_neg h0] at hP hD
   rcases Zaj hM hL hN va vb with ⟨j, hj, hg, hF, hP'⟩ | ⟨hF, hP'⟩
   ·rw [hF] at hD
    rw [hP', hg] at hP
    simp only [hit, Option.bind_some] at hD
    by_cases h2 : va = 2
    ·have hb : ¬ vb = 0 := fun q => h0 ⟨h2, q⟩
     rw [if_pos ⟨h2, hb⟩] at hP
     simp only [Option.bind_some] at hP
     rw [ZmK] at hP
     simp only [Option.bind_some] at hP
     rw [if_neg (fun q => q h2)] at hD
     by_cases h5 : (L.getD j R_iiiiiiiA.z).a5 = 3
     ·rw [if_pos (by rw [decide_eq_true_eq]; exact fun q => q.1 h5)] at hP
      rw [if_pos h5] at hD
      exact ⟨_, _, Zr hP, Zr hD, rfl⟩
     ·rw [if_neg h5] at hD
      by_cases h6 : (((L.getD j R_iiiiiiiA.z).a7.length : Nat) : Int) = 2
      ·rw [if_neg (fun q => q h6)] at hD
       by_cases h7 : ((L.getD j R_iiiiiiiA.z).a7.getD 0 R_ii.z).a0 = 2
       ·rw [if_neg (fun q => q h7)] at hD
        by_cases h8 : ((L.getD j R_iiiiiiiA.z).a7.getD 1 R_ii.z).a0 = 1
        ·rw [if_neg (fun q => q h8)] at hD
         rw [if_neg (by rw [decide_eq_true_eq]; exact fun q => q ⟨h5, h6, h7, h8⟩)] at hP
         have hx : L.getD j R_iiiiiiiA.z ∈ L := by
          rw [show L.getD j R_iiiiiiiA.z = L[j] by simp [hj]]; exact List.getElem_mem hj
         rw [if_pos (by omega), if_pos (by omega), if_pos (by omega)] at hP
         rw [if_pos (by omega), if_pos (by omega)] at hD
         by_cases h9 : ((L.getD j R_iiiiiiiA.z).a7.getD 1 R_ii.z).a1 ≤ out.getD (out.length - 1) 0
         ·rw [if_pos h9] at hP hD
          exact ⟨_, _, Zr hP, Zr hD, rfl⟩
         ·have hlt := Zmk (a := out.getD (out.length - 1) 0) (b := ((L.getD j R_iiiiiiiA.z).a7.getD 1 R_ii.z).a1) (by omega) L _ hx rfl
          have hle := Zkl ((L.getD j R_iiiiiiiA.z).a7.getD 1 R_ii.z).a1 L
          rw [if_neg h9, if_pos (by omega)] at hP
          rw [if_neg h9, if_pos (by omega), if_pos (by omega)] at hD
          have el : (out ++ [((L.getD j R_iiiiiiiA.z).a7.getD 1 R_ii.z).a1]).length = out.length + 1 := by simp
          have eg : (out ++ [((L.getD j R_iiiiiiiA.z).a7.getD 1 R_ii.z).a1]).getD ((out ++ [((L.getD j R_iiiiiiiA.z).a7.getD 1 R_ii.z).a1]).length - 1) 0 = ((L.getD j R_iiiiiiiA.z).a7.getD 1 R_ii.z).a1 := by rw [el]; exact ZrB
          obtain ⟨rp, rd, k1, k2, k3⟩ := ih f g (out ++ [((L.getD j R_iiiiiiiA.z).a7.getD 1 R_ii.z).a1]) (L.getD j R_iiiiiiiA.z).a0 (L.getD j R_iiiiiiiA.z).a1 (L.getD j R_iiiiiiiA.z).a2 (L.getD j R_iiiiiiiA.z).a3 (L.getD j R_iiiiiiiA.z).a4 (L.getD j R_iiiiiiiA.z).a5 (L.getD j R_iiiiiiiA.z).a6 (L.getD j R_iiiiiiiA.z).a7 ((L.getD j R_iiiiiiiA.z).a7.getD 0 R_ii.z).a0 ((L.getD j R_iiiiiiiA.z).a7.getD 0 R_ii.z).a1 (by omega) (by rw [eg]; omega) (by rw [eg]; omega) (by omega) (by omega)
          rw [el] at k2
          exact ⟨rp, rd, (ZbY hP).trans k1, (ZbY hD).trans k2, k3⟩
        ·rw [if_pos h8] at hD
         rw [if_pos (by rw [decide_eq_true_eq]; exact fun q => h8 q.2.2.2)] at hP
         exact ⟨_, _, Zr hP, Zr hD, rfl⟩
       ·rw [if_pos h7] at hD
        rw [if_pos (by rw [decide_eq_true_eq]; exact fun q => h7 q.2.2.1)] at hP
        exact ⟨_, _, Zr hP, Zr hD, rfl⟩
      ·rw [if_pos h6] at hD
       rw [if_pos (by rw [decide_eq_true_eq]; exact fun q => h6 q.2.1)] at hP
       exact ⟨_, _, Zr hP, Zr hD, rfl⟩
    ·rw [if_neg (fun q => h2 q.1)] at hP
     simp only [Option.bind_some] at hP
     rw [if_pos h2] at hD
     exact ⟨_, _, Zr hP, Zr hD, rfl⟩
   ·rw [hF] at hD
    rw [hP'] at hP
    simp only [Option.bind_some] at hP hD
    exact ⟨_, _, Zr hP, Zr hD, rfl⟩
theorem walk0 (hM : MI L 0 M) (hL : L.length ≤ 1000) (hN : 2000 ≤ N) (f g : Nat) (v3 v4 v5 v6 v7 v8 v9 : Int) (v10 : List R_ii) (va vb : Int) (hf : L.length + 1 < f) (hg : L.length + 2 < g) :
  ∃ rp rd, Zb4 (ZU L a1 a2 a3 N) f (.h2m0 M v3 v4 v5 v6 v7 v8 v9 v10 va vb) = some rp ∧ Zb4 (Za5 L a1 a2 a3 N) g (.h1m0 va vb) = some rd ∧ eqR rp rd := by
  obtain ⟨f, rfl⟩ : ∃ j, f = j + 1 := ⟨f - 1, by omega⟩
  obtain ⟨g, rfl⟩ : ∃ j, g = j + 1 := ⟨g - 1, by omega⟩
  have hP : ZU L a1 a2 a3 N (.h2m0 M v3 v4 v5 v6 v7 v8 v9 v10 va vb) = Zc2 L a1 a2 a3 N M v3 v4 v5 v6 v7 v8 v9 v10 va vb := rfl
  have hD : Za5 L a1 a2 a3 N (.h1m0 va vb) = Zch L a1 a2 a3 N va vb := rfl
  unfold Zc2 at hP
  unfold Zch at hD
  by_cases h0 : va = 2 ∧ vb = 0
  ·rw [if_pos h0] at hP hD
   exact ⟨_, _, Zr hP, Zr hD, rfl⟩
  ·rw [if_neg h0] at hP hD
   rcases Zaj hM hL hN va vb with ⟨j, hj, hg, hF, hP'⟩ | ⟨hF, hP'⟩
   ·rw [hF] at hD
    rw [hP', hg] at hP
    simp only [hit, Option.bind_some] at hD
    by_cases h2 : va = 2
    ·have hb : ¬ vb = 0 := fun q => h0 ⟨h2, q⟩
     rw [if_pos ⟨h2, hb⟩] at hP
     simp only [Option.bind_some] at hP
     rw [ZmK] at hP
     simp only [Option.bind_some] at hP
     rw [if_neg (fun q => q h2)] at hD
     by_cases h5 : (L.getD j R_iiiiiiiA.z).a5 = 3
     ·rw [if_pos (by rw [decide_eq_true_eq]; exact fun q => q.1 h5)] at hP
      rw [if_pos h5] at hD
      exact ⟨_, _, Zr hP, Zr hD, rfl⟩
     ·rw [if_neg h5] at hD
      by_cases h6 : (((L.getD j R_iiiiiiiA.z).a7.length : Nat) : Int) = 2
      ·rw [if_neg (fun q => q h6)] at hD
       by_cases h7 : ((L.getD j R_iiiiiiiA.z).a7.getD 0 R_ii.z).a0 = 2
       ·rw [if_neg (fun q => q h7)] at hD
        by_cases h8 : ((L.getD j R_iiiiiiiA.z).a7.getD 1 R_ii.z).a0 = 1
        ·rw [if_neg (fun q => q h8)] at hD
         rw [if_neg (by rw [decide_eq_true_eq]; exact fun q => q ⟨h5, h6, h7, h8⟩)] at hP
         have hx : L.getD j R_iiiiiiiA.z ∈ L := by
          rw [show L.getD j R_iiiiiiiA.z = L[j] by simp [hj]]; exact List.getElem_mem hj
         rw [if_pos (by omega)] at hP
         have hlt := Zmk (a := ((L.getD j R_iiiiiiiA.z).a7.getD 1 R_ii.z).a1 - 1) (b := ((L.getD j R_iiiiiiiA.z).a7.getD 1 R_ii.z).a1) (by omega) L _ hx rfl
         obtain ⟨rp, rd, k1, k2, k3⟩ := ZqV (a1 := a1) (a2 := a2) (a3 := a3) hM hL hN (L.length - 1) f g [((L.getD j R_iiiiiiiA.z).a7.getD 1 R_ii.z).a1] (L.getD j R_iiiiiiiA.z).a0 (L.getD j R_iiiiiiiA.z).a1 (L.getD j R_iiiiiiiA.z).a2 (L.getD j R_iiiiiiiA.z).a3 (L.getD j R_iiiiiiiA.z).a4 (L.getD j R_iiiiiiiA.z).a5 (L.getD j R_iiiiiiiA.z).a6 (L.getD j R_iiiiiiiA.z).a7 ((L.getD j R_iiiiiiiA.z).a7.getD 0 R_ii.z).a0 ((L.getD j R_iiiiiiiA.z).a7.getD 0 R_ii.z).a1 (by simp) (show 1 ≤ cnt ((L.getD j R_iiiiiiiA.z).a7.getD 1 R_ii.z).a1 L by omega) (show L.length ≤ cnt ((L.getD j R_iiiiiiiA.z).a7.getD 1 R_ii.z).a1 L + (L.length - 1) by omega) (by omega) (by omega)
         exact ⟨rp, rd, (ZbY hP).trans k1, (ZbY hD).trans k2, k3⟩
        ·rw [if_pos h8] at hD
         rw [if_pos (by rw [decide_eq_true_eq]; exact fun q => h8 q.2.2.2)] at hP
         exact ⟨_, _, Zr hP, Zr hD, rfl⟩
       ·rw [if_pos h7] at hD
        rw [if_pos (by rw [decide_eq_true_eq]; exact fun q => h7 q.2.2.1)] at hP
        exact ⟨_, _, Zr hP, Zr hD, rfl⟩
      ·rw [if_pos h6] at hD
       rw [if_pos (by rw [decide_eq_true_eq]; exact fun q => h6 q.2.1)] at hP
       exact ⟨_, _, Zr hP, Zr hD, rfl⟩
    ·rw [if_neg (fun q => h2 q.1)] at hP
     simp only [Option.bind_some] at hP
     rw [if_pos h2] at hD
     exact ⟨_, _, Zr hP, Zr hD, rfl⟩
   ·rw [hF] at hD
    rw [hP'] at hP
    simp only [Option.bind_some] at hP hD
    exact ⟨_, _, Zr hP, Zr hD, rfl⟩
theorem Zsp (hL : L.length ≤ 1000) (hN : 10000 ≤ N) : ∃ rp rd, ZcT L a1 a2 a3 N = some rp ∧ ZbA L a1 a2 a3 N = some rd ∧ eqR rp rd := by
 obtain ⟨n, rfl⟩ : ∃ n, N = (n + 1) + L.length := ⟨N - L.length - 1, by omega⟩
 obtain ⟨M, hM, hb⟩ := built (a1 := a1) (a2 := a2) (a3 := a3) (N := (n + 1) + L.length) hL L.length (n + 1) [] (Nat.le_refl _) (ZsW L)
 have hp : ZcT L a1 a2 a3 ((n + 1) + L.length) = Zb4 (ZU L a1 a2 a3 ((n + 1) + L.length)) (n + 1) (.h1m0 (-1) M) := (Zhi (x := .h1m0 ((L.length : Int) - 1) []) (by unfold Ze6; exact ZP (by omega) rfl)).trans hb
 rw [hp]
 have hP : ZU L a1 a2 a3 ((n + 1) + L.length) (.h1m0 (-1) M) = Zbx L a1 a2 a3 ((n + 1) + L.length) (-1) M := rfl
 unfold Zbx at hP
 rw [if_neg (by omega)] at hP
 have hD : Zcr L a1 a2 a3 ((n + 1) + L.length) = Zcr L a1 a2 a3 ((n + 1) + L.length) := rfl
 conv at hD => rhs; unfold Zcr
 rcases Zaj hM hL (show 2000 ≤ (n + 1) + L.length by omega) a1 a2 with ⟨j, hj, hg, hF, hP'⟩ | ⟨hF, hP'⟩
 ·rw [hF] at hD
  rw [hP', hg] at hP
  simp only [hit, Option.bind_some] at hD
  have bad : (¬ (a1 = 2 ∧ ¬ a2 = 0)) → ∃ rp rd, Zb4 (ZU L a1 a2 a3 ((n + 1) + L.length)) (n + 1) (.h1m0 (-1) M) = some rp ∧ ZbA L a1 a2 a3 ((n + 1) + L.length) = some rd ∧ eqR rp rd := fun q => by
   rw [if_neg q] at hP
   simp only [Option.bind_some] at hP
   refine ⟨_, .r0 240, Zr hP, Zie (hD.trans ?_), rfl⟩
   refine Zph (fun _ => rfl) (fun _ => Zph (fun _ => rfl) (fun _ => Zph (fun _ => rfl) (fun h1 => ZP ?_ rfl)))
   exact Classical.byContradiction fun h2 => q ⟨Classical.byContradiction h1, h2⟩
  by_cases hq : a1 = 2 ∧ ¬ a2 = 0
  ·rw [if_pos hq] at hP
   simp only [Option.bind_some] at hP
   by_cases h3 : a3 < 0
   ·rw [if_pos h3] at hP hD
    exact ⟨_, _, Zr hP, Zie hD, rfl⟩
   ·rw [if_neg h3] at hP hD
    by_cases h4 : 7 < a3
    ·rw [if_pos h4] at hP hD
     exact ⟨_, _, Zr hP, Zie hD, rfl⟩
    ·rw [if_neg h4] at hP hD
     rw [if_neg (fun q => q hq.1), if_neg hq.2] at hD
     by_cases h5 : (((L.getD j R_iiiiiiiA.z).a7.length : Nat) : Int) ≤ a3
     ·rw [if_pos h5] at hP hD
      exact ⟨_, _, Zr hP, Zie hD, rfl⟩
     ·rw [if_neg h5] at hP hD
      obtain ⟨rp, rd, k1, k2, k3⟩ := walk0 (a1 := a1) (a2 := a2) (a3 := a3) hM hL (show 2000 ≤ (n + 1) + L.length by omega) n ((n + 1) + L.length) _ _ _ _ _ _ _ _ _ _ (by omega) (by omega)
      exact ⟨rp, rd, (ZbY hP).trans k1, (Zhi hD).trans k2, k3⟩
  ·exact bad hq
 ·rw [hF] at hD
  rw [hP'] at hP
  simp only [Option.bind_some] at hP hD
  exact ⟨_, _, Zr hP, Zie hD, rfl⟩
end
end Pi
end Ev
end Go.Proofs.YtnfmhpnogfppiaaGreat
/- The law: plain. -/
namespace Go.Proofs.YtnfmhpnogfppiaaGreat
open Go.RowKit
namespace Ev
namespace Pi
set_option linter.unusedVariables false
set_option linter.unusedSimpArgs false
theorem ZqW (l : List Int) (N : Nat) (hl : l.length ≤ 1000) (hN : 2000 ≤ N) : ZdO l l N = some (.r0 true) := by
 refine (Zhi (x := .h1m0 0) ?_).trans ?_
 ·unfold Zeh
  exact Zb1 (fun q => q rfl) rfl
 have go : ∀ d k f, k + d = l.length → d < f → Zb4 (Zc3 l l N) f (.h1m0 k) = some (.r0 true) := by
  intro d
  induction d with
  | zero =>
   intro k f hk hf
   obtain ⟨f, rfl⟩ : ∃ j, f = j + 1 := ⟨f - 1, by omega⟩
   refine Zr ?_
   show Zbm l l N k = _
   unfold Zbm
   exact Zb1 (by omega) rfl
  | succ d ih =>
   intro k f hk hf
   obtain ⟨f, rfl⟩ : ∃ j, f = j + 1 := ⟨f - 1, by omega⟩
   refine (ZbY ?_).trans (ih (k + 1) f (by omega) (by omega))
   show Zbm l l N k = _
   unfold Zbm
   exact ZP (by omega) (ZP (by omega) (Zb1 (fun q => q rfl) (ZP (by omega) rfl)))
 exact go l.length 0 N (by omega) (by omega)
theorem ZeK : ZaG 100000 = some .r0 := by kernel_rfl
theorem ZnQ : Zed 100000 = some .r0 := by kernel_rfl
theorem p0 (a b c : Int) : Zhs a b c 100000 = some .r0 := by
 have h : ZcS a b [] 100000 = some .r0 := by unfold ZcS; exact Zb1 (by simp [ZcY]) rfl
 refine (Zhi (x := list_KeysX.h1m0) rfl).trans ?_
 refine Zr (n := 99999) ?_
 show Zdh a b c 100000 = _
 unfold Zdh
 exact Zap h rfl
theorem d0 (a b c : Int) : Zdw a b c 100000 = some .r0 := by
 have h : Zg4 a b 100000 = some .r0 := by
  refine (Zhi (x := ref16_FindX.h1m0) rfl).trans ?_
  exact Zr (n := 99999) rfl
 unfold Zdw
 exact Zap h rfl
theorem round (L0 : List Ob) (a1 a2 a3 : Int) : ∀ d k f v, k + d = 14 → d < f → v.length = k → Zb4 (Zan L0 a1 a2 a3 100000) f (.h1m1 v k) = some (.r0 true) := by
 intro d
 induction d with
 | zero =>
  intro k f v hk hf hv
  obtain ⟨f, rfl⟩ : ∃ j, f = j + 1 := ⟨f - 1, by omega⟩
  refine Zr ?_
  show Zab L0 a1 a2 a3 100000 v k = _
  unfold Zab
  by_cases h : k < L0.length
  ·
   obtain ⟨rp, rd, k1, k2, k3⟩ := Zsp (L := v) (a1 := a1) (a2 := a2) (a3 := a3) (N := 100000) (by omega) (by decide)
   refine ZP (by omega) (Zb1 (by omega) ?_)
   refine Zap k1 ?_
   cases rp with
   | r0 x =>
    refine Zap k2 ?_
    cases rd with
    | r0 y => exact Zap ZnQ (ZP k3 (Zap ZeK rfl))
    | r1 m => exact k3.elim
   | r1 l =>
    refine Zap k2 ?_
    cases rd with
    | r0 y => exact k3.elim
    | r1 m =>
     obtain ⟨rfl, hl⟩ := k3
     exact Zap (ZqW l 100000 hl (by decide)) (ZP rfl (Zap ZeK rfl))
  ·
   obtain ⟨rp, rd, k1, k2, k3⟩ := Zsp (L := v) (a1 := a1) (a2 := a2) (a3 := a3) (N := 100000) (by omega) (by decide)
   refine Zb1 (by omega) ?_
   refine Zap k1 ?_
   cases rp with
   | r0 x =>
    refine Zap k2 ?_
    cases rd with
    | r0 y => exact Zap ZnQ (ZP k3 (Zap ZeK rfl))
    | r1 m => exact k3.elim
   | r1 l =>
    refine Zap k2 ?_
    cases rd with
    | r0 y => exact k3.elim
    | r1 m =>
     obtain ⟨rfl, hl⟩ := k3
     exact Zap (ZqW l 100000 hl (by decide)) (ZP rfl (Zap ZeK rfl))
 | succ d ih =>
  intro k f v hk hf hv
  obtain ⟨f, rfl⟩ : ∃ j, f = j + 1 := ⟨f - 1, by omega⟩
  by_cases h : k < L0.length
  ·have go : ∀ x : Ob, Zan L0 a1 a2 a3 100000 (.h1m1 v k) = some (.inl (.h1m1 (v ++ [x]) (k + 1))) → Zb4 (Zan L0 a1 a2 a3 100000) (f + 1) (.h1m1 v k) = some (.r0 true) := fun x hx =>
    (ZbY hx).trans (ih (k + 1) f _ (by omega) (by omega) (by simp [hv]))
   by_cases h16 : (16 : Int) < (((L0.getD k R_iiiiiiiA.z).a7.length : Nat) : Int)
   ·refine go ⟨(L0.getD k R_iiiiiiiA.z).a0, (L0.getD k R_iiiiiiiA.z).a1, (L0.getD k R_iiiiiiiA.z).a2, (L0.getD k R_iiiiiiiA.z).a3, (L0.getD k R_iiiiiiiA.z).a4, (L0.getD k R_iiiiiiiA.z).a5, (L0.getD k R_iiiiiiiA.z).a6, ((L0.getD k R_iiiiiiiA.z).a7.take 16)⟩ ?_
    show Zab L0 a1 a2 a3 100000 v k = _
    unfold Zab
    exact ZP (by omega) (ZP (by omega) (ZP h16 (ZP (by omega) rfl)))
   ·refine go ⟨(L0.getD k R_iiiiiiiA.z).a0, (L0.getD k R_iiiiiiiA.z).a1, (L0.getD k R_iiiiiiiA.z).a2, (L0.getD k R_iiiiiiiA.z).a3, (L0.getD k R_iiiiiiiA.z).a4, (L0.getD k R_iiiiiiiA.z).a5, (L0.getD k R_iiiiiiiA.z).a6, (L0.getD k R_iiiiiiiA.z).a7⟩ ?_
    show Zab L0 a1 a2 a3 100000 v k = _
    unfold Zab
    exact ZP (by omega) (ZP (by omega) (Zb1 h16 (ZP (by omega) rfl)))
  ·refine Zr ?_
   show Zab L0 a1 a2 a3 100000 v k = _
   unfold Zab
   obtain ⟨rp, rd, k1, k2, k3⟩ := Zsp (L := v) (a1 := a1) (a2 := a2) (a3 := a3) (N := 100000) (by omega) (by decide)
   refine Zb1 (by omega) ?_
   refine Zap k1 ?_
   cases rp with
   | r0 x =>
    refine Zap k2 ?_
    cases rd with
    | r0 y => exact Zap ZnQ (ZP k3 (Zap ZeK rfl))
    | r1 m => exact k3.elim
   | r1 l =>
    refine Zap k2 ?_
    cases rd with
    | r0 y => exact k3.elim
    | r1 m =>
     obtain ⟨rfl, hl⟩ := k3
     exact Zap (ZqW l 100000 hl (by decide)) (ZP rfl (Zap ZeK rfl))
theorem runs (L0 : List Ob) (a1 a2 a3 : Int) : ZhR L0 a1 a2 a3 100000 = some (.r0 true) := by
 refine (Zhi (x := law24_ListKeysX.h1m0) rfl).trans ?_
 by_cases h : 0 < L0.length
 ·have go : ∀ x : Ob, Zan L0 a1 a2 a3 100000 .h1m0 = some (.inl (.h1m1 [x] 1)) → Zb4 (Zan L0 a1 a2 a3 100000) (99999 + 1) .h1m0 = some (.r0 true) := fun x hx =>
   (ZbY hx).trans (round L0 a1 a2 a3 13 1 99999 _ (by omega) (by omega) rfl)
  by_cases h16 : (16 : Int) < (((L0.getD 0 R_iiiiiiiA.z).a7.length : Nat) : Int)
  ·refine go ⟨(L0.getD 0 R_iiiiiiiA.z).a0, (L0.getD 0 R_iiiiiiiA.z).a1, (L0.getD 0 R_iiiiiiiA.z).a2, (L0.getD 0 R_iiiiiiiA.z).a3, (L0.getD 0 R_iiiiiiiA.z).a4, (L0.getD 0 R_iiiiiiiA.z).a5, (L0.getD 0 R_iiiiiiiA.z).a6, ((L0.getD 0 R_iiiiiiiA.z).a7.take 16)⟩ ?_
   show Zau L0 a1 a2 a3 100000 = _
   unfold Zau
   exact ZP (by omega) (ZP h16 rfl)
  ·refine go ⟨(L0.getD 0 R_iiiiiiiA.z).a0, (L0.getD 0 R_iiiiiiiA.z).a1, (L0.getD 0 R_iiiiiiiA.z).a2, (L0.getD 0 R_iiiiiiiA.z).a3, (L0.getD 0 R_iiiiiiiA.z).a4, (L0.getD 0 R_iiiiiiiA.z).a5, (L0.getD 0 R_iiiiiiiA.z).a6, (L0.getD 0 R_iiiiiiiA.z).a7⟩ ?_
   show Zau L0 a1 a2 a3 100000 = _
   unfold Zau
   exact ZP (by omega) (Zb1 h16 rfl)
 ·refine Zr (n := 99999) ?_
  show Zau L0 a1 a2 a3 100000 = _
  unfold Zau
  exact Zb1 (by omega) (Zap (p0 a1 a2 a3) (Zap (d0 a1 a2 a3) (Zap ZnQ (Zap ZeK rfl))))
end Pi
end Ev
end Go.Proofs.YtnfmhpnogfppiaaGreat
/- A region that draws its order, whose first operations only read (and make memory in calls), and whose last ones, in a forced order among themselves, make and write new memory: but these may come up early. -/
namespace Go.Proofs.YtnfmhpnogfppiaaGreat
open Go.RowKit

section
variable {P : Program}

def Calm (P : Program) (W : World) (o : Oper) (a : Act) (v : Value) : Prop :=
 ∀ w, Below W.heap.size W w → o.quietAt P a (fun w' => Below w.heap.size w w') w v

def YieldsC (P : Program) (ops : Array Oper) (W : World) (o : Oper) (v : Value) (a : Act) : Prop :=
 (Region.wanted o (yielded ops a.tmps) = true ∧ Calm P W o a v) ∨ (Region.wanted o (yielded ops a.tmps) = false ∧ v = undef)
theorem Znh {a b c : World} (h : Below a.heap.size a b) (k : Below b.heap.size b c) : Below a.heap.size a c := h.trans (k.mono h.size)

def Closed (md : Region.Mode) (ops : Array Oper) (listed : Array Bool) : Prop :=
 ∀ j oj, ops[j]? = some oj → listed.getD j false = true → ∀ e ∈ oj.after, Region.binds md e = true → listed.getD e.on false = true
def Zpi (md : Region.Mode) (ops : Array Oper) : Nat → Nat → Nat → Bool
 | 0, _, _ => false
 | f + 1, t, i => Region.waitsFor md ops t i || (List.range ops.size).any fun k => Region.waitsFor md ops t k && Zpi md ops f k i
theorem Closed.waits {md : Region.Mode} {ops : Array Oper} {listed : Array Bool} (h : Closed md ops listed) : ∀ (f t i : Nat), listed.getD t false = true → Zpi md ops f t i = true → listed.getD i false = true
 | 0, _, _, _, hw => by cases hw
 | f + 1, t, i, ht, hw => by
  simp only [Zpi, Bool.or_eq_true, List.any_eq_true, Bool.and_eq_true] at hw
  rcases hw with hw | ⟨k, _, hw, hr⟩
  ·obtain ⟨o, ho, e, he, hb, rfl⟩ := Region.waitsFor_spec hw
   exact h t o ho ht e he hb
  ·obtain ⟨o, ho, e, he, hb, rfl⟩ := Region.waitsFor_spec hw
   exact h.waits f e.on i (h t o ho ht e he hb) hr

theorem YieldsC.wpOp {ops : Array Oper} {W : World} {i : Nat} {o : Oper} {v : Value} {a : Act} {w : World} (hi : ops[i]? = some o) (hy : YieldsC P ops W o v a) (hb : Below W.heap.size W w)
  {K : Act → World → Prop} {Q : Exit → Act → World → Prop} (h : ∀ w', Below w.heap.size w w' → K (a.put o.dst v) w') : wpOp P ops Q i K a w := by
 unfold Go.wpOp
 simp only [hi]
 rcases hy with ⟨hw, hv⟩ | ⟨hw, rfl⟩
 ·simp only [hw, if_true]
  exact .inl (Oper.wp_of_quiet (C := fun w' => Below w.heap.size w w') (K := fun a' => a' = a.put o.dst v) (Below.refl _ _) (fun a' w' hw' ha => by subst ha; exact h w' hw')
   ⟨v, fun w1 hw1 => by
    have h1 := hv w1 (Znh hb hw1)
    unfold Oper.quietAt at h1 ⊢
    generalize (execOp a.eval o).run P w1 = r at *
    cases r with
    | ok n w' =>
     cases n <;> simp only [Oper.quietUpon] at h1 ⊢
     case value u => exact h1
     case skip => exact h1
     case enter f args => exact ⟨h1.1, h1.2.mono fun e w2 ⟨he, hb2⟩ => ⟨he, Znh hw1 hb2⟩⟩
    | halt x w' => simp only [Oper.quietUpon] at h1, rfl⟩)
 ·simp only [hw, Bool.false_eq_true, if_false]
  exact h w (Below.refl _ _)

end
end Go.Proofs.YtnfmhpnogfppiaaGreat
/- The law ListKeys, for every input. -/
namespace Go.Proofs.YtnfmhpnogfppiaaGreat
open Go.ChangeShapes Go.WideShapes Go.ChangeAt Go.RowKit
namespace Ev
namespace ListKeys
set_option linter.unusedVariables false
def Zsq (x : R_ii) : Prop := (IntKind.i64.min ≤ x.a0 ∧ x.a0 ≤ IntKind.i64.max) ∧ (IntKind.i64.min ≤ x.a1 ∧ x.a1 ≤ IntKind.i64.max)
theorem el1 {H : Type} {enc : TypeId × Value → H} {w : World} {cs : List Value} (hl : cs.length = 2) (h : Trd enc Tryz.prog w 36 cs) : ∃ x : R_ii, DecL w cs (E_ii.cel x) ∧ Zsq x := by
 have h0 := Zr8 (by kernel_rfl : Tryz.prog.cellsOf 36 = 2) hl h
 have h1 := Zcd 0 1 2 Tryz.underlying36 h0 0 (te := 34) (o' := 0) (by kernel_rfl) rfl (by kernel_rfl) (by kernel_rfl) (by decide)
 obtain ⟨x0, e0, b0⟩ := Zff Tryz.underlying34 (by kernel_rfl) h1
 have h2 := Zcd 1 1 2 Tryz.underlying36 h0 1 (te := 3) (o' := 1) (by kernel_rfl) rfl (by kernel_rfl) (by kernel_rfl) (by decide)
 obtain ⟨x1, e1, b1⟩ := Zff Tryz.underlying3 (by kernel_rfl) h2
 refine ⟨(⟨x0, x1⟩ : R_ii), Zqg (by rw [hl, Enc.clen]; rfl) (fun j y hy => ?_), ⟨b0, b1⟩⟩
 have := (Zd9 (w := w) (k := 0) e0 .i (Zd9 (w := w) (k := 1) e1 .i (Zr7 (w := w)))) j y hy
 simpa using this
def el0R (x : R_iiiiiiiA) : Prop := (IntKind.i64.min ≤ x.a0 ∧ x.a0 ≤ IntKind.i64.max) ∧ (IntKind.i64.min ≤ x.a1 ∧ x.a1 ≤ IntKind.i64.max) ∧ (IntKind.i64.min ≤ x.a2 ∧ x.a2 ≤ IntKind.i64.max) ∧ (IntKind.i64.min ≤ x.a3 ∧ x.a3 ≤ IntKind.i64.max) ∧ (IntKind.i64.min ≤ x.a4 ∧ x.a4 ≤ IntKind.i64.max) ∧ (IntKind.i64.min ≤ x.a5 ∧ x.a5 ≤ IntKind.i64.max) ∧ (IntKind.i64.min ≤ x.a6 ∧ x.a6 ≤ IntKind.i64.max) ∧ (x.a7.length ≤ 9223372036854775807 ∧ ∀ y ∈ x.a7, Zsq y)
theorem el0 {H : Type} {enc : TypeId × Value → H} {w : World} {cs : List Value} (hl : cs.length = 8) (h : Trd enc Tryz.prog w 42 cs) : ∃ x : R_iiiiiiiA, DecL w cs (E_iiiiiiiA.cel x) ∧ el0R x := by
 have h0 := Zr8 (by kernel_rfl : Tryz.prog.cellsOf 42 = 8) hl h
 have h1 := Zcd 0 2 8 Tryz.underlying42 h0 0 (te := 36) (o' := 0) (by kernel_rfl) rfl (by kernel_rfl) (by kernel_rfl) (by decide)
 have h2 := Zcd 0 1 2 Tryz.underlying36 h1 0 (te := 34) (o' := 0) (by kernel_rfl) rfl (by kernel_rfl) (by kernel_rfl) (by decide)
 obtain ⟨x0, e0, b0⟩ := Zff Tryz.underlying34 (by kernel_rfl) h2
 have h3 := Zcd 1 1 2 Tryz.underlying36 h1 1 (te := 3) (o' := 1) (by kernel_rfl) rfl (by kernel_rfl) (by kernel_rfl) (by decide)
 obtain ⟨x1, e1, b1⟩ := Zff Tryz.underlying3 (by kernel_rfl) h3
 have h4 := Zcd 2 5 8 Tryz.underlying42 h0 1 (te := 39) (o' := 2) (by kernel_rfl) rfl (by kernel_rfl) (by kernel_rfl) (by decide)
 have h5 := Zcd 0 1 5 Tryz.underlying39 h4 0 (te := 3) (o' := 2) (by kernel_rfl) rfl (by kernel_rfl) (by kernel_rfl) (by decide)
 obtain ⟨x2, e2, b2⟩ := Zff Tryz.underlying3 (by kernel_rfl) h5
 have h6 := Zcd 1 1 5 Tryz.underlying39 h4 1 (te := 3) (o' := 3) (by kernel_rfl) rfl (by kernel_rfl) (by kernel_rfl) (by decide)
 obtain ⟨x3, e3, b3⟩ := Zff Tryz.underlying3 (by kernel_rfl) h6
 have h7 := Zcd 2 1 5 Tryz.underlying39 h4 2 (te := 3) (o' := 4) (by kernel_rfl) rfl (by kernel_rfl) (by kernel_rfl) (by decide)
 obtain ⟨x4, e4, b4⟩ := Zff Tryz.underlying3 (by kernel_rfl) h7
 have h8 := Zcd 3 1 5 Tryz.underlying39 h4 3 (te := 37) (o' := 5) (by kernel_rfl) rfl (by kernel_rfl) (by kernel_rfl) (by decide)
 obtain ⟨x5, e5, b5⟩ := Zff Tryz.underlying37 (by kernel_rfl) h8
 have h9 := Zcd 4 1 5 Tryz.underlying39 h4 4 (te := 3) (o' := 6) (by kernel_rfl) rfl (by kernel_rfl) (by kernel_rfl) (by decide)
 obtain ⟨x6, e6, b6⟩ := Zff Tryz.underlying3 (by kernel_rfl) h9
 have h10 := Zcd 7 1 8 Tryz.underlying42 h0 2 (te := 40) (o' := 7) (by kernel_rfl) rfl (by kernel_rfl) (by kernel_rfl) (by decide)
 obtain ⟨x7, v7, e7, d7, b7⟩ := Zso (E := E_ii) (Q := Zsq) Tryz.underlying40 (by kernel_rfl) (by kernel_rfl) (by decide) (fun _ => el1) h10
 refine ⟨(⟨x0, x1, x2, x3, x4, x5, x6, x7⟩ : R_iiiiiiiA), Zqg (by rw [hl, Enc.clen]; rfl) (fun j y hy => ?_), ⟨b0, b1, b2, b3, b4, b5, b6, b7⟩⟩
 have := (Zd9 (w := w) (k := 0) e0 .i (Zd9 (w := w) (k := 1) e1 .i (Zd9 (w := w) (k := 2) e2 .i (Zd9 (w := w) (k := 3) e3 .i (Zd9 (w := w) (k := 4) e4 .i (Zd9 (w := w) (k := 5) e5 .i (Zd9 (w := w) (k := 6) e6 .i (Zd9 (w := w) (k := 7) e7 d7 (Zr7 (w := w)))))))))) j y hy
 simpa using this
noncomputable def ZsG : List TypeId := (Tryz.prog.cellTypes Tryz.prog.depth 36).getD []
theorem own : ownKnob Tryz.prog.godebug = none := by kernel_rfl
set_option maxRecDepth 100000 in
theorem lifted (os : Os) (started : os.Started) (H : Type) (enc : TypeId × Value → H) :
  ReturnsInHanded {} Tryz.checked os 4 .any (Rows.listKeysSpec.pre6 enc Tryz.prog Tryz.f4 Rows.listKeysRow.domain false) (Rows.listKeysSpec.post enc Tryz.prog Tryz.f4 false true false false) := by
 refine Zrv (C := Tryz.checked) own started (by kernel_rfl) Tryz.func4 rfl rfl Tryz.underlying4 ?_ (by kernel_rfl) (by kernel_rfl)
  (ChangeSpec.witness6 (enc := enc) (C := Tryz.checked) false ⟨#[], #[.slice none 0 0, .agg #[.int .i64 0, .int .i64 0], .int .i64 0], []⟩ 8 (by kernel_rfl) (by kernel_rfl) (by kernel_rfl) (by kernel_rfl)) ?_
 ·intro ds hlen
  have hlen : ds.length = 3 := hlen.trans (by kernel_rfl)
  match ds, hlen with
  | [_, _, _], _ => rfl
 intro W base args ds p hval hA hlt hsz
 rw [Tryz.params4] at hA hval
 obtain ⟨v0, vs0, d0, ds0, p0, q0, hargs, rfl, rfl, h0, r0⟩ := trodAll_cons hA
 obtain ⟨v1, vs1, d1, ds1, p1, q1, rfl, rfl, rfl, h1, r1⟩ := trodAll_cons r0
 obtain ⟨v2, vs2, d2, ds2, p2, q2, rfl, rfl, rfl, h2, r2⟩ := trodAll_cons r1
 obtain ⟨rfl, rfl, rfl⟩ := trodAll_nil r2
 obtain rfl : args = #[v0, v1, v2] := by cases args; simp_all
 obtain ⟨a0, l0, c0, rfl⟩ := Go.WideShapes.okWide_slice Tryz.underlying33 (hval 0 33 v0 rfl rfl)
 obtain ⟨L0, u0, e0, D0, n0, m0⟩ := Znf (E := E_iiiiiiiA) (Q := el0R) Tryz.underlying33 (by kernel_rfl) (by decide) (fun _ => el0) (Zqh h0)
 obtain rfl : u0 = .slice a0 l0 c0 := by have := e0; simp [Value.cells] at this; exact this.symm
 obtain ⟨cs1, rfl, hl1, hc1⟩ := Zo6 (ts := ZsG) (by kernel_rfl) (by kernel_rfl) (by kernel_rfl) (hval 1 36 v1 rfl rfl)
 obtain ⟨x1, D1, m1⟩ := el1 (show cs1.length = 2 from hl1.trans (by kernel_rfl)) (by have q := Zqh h1; simp [Value.cells] at q; exact q)
 obtain ⟨z2, rfl, w2⟩ := ZqN (k := .i64) (by kernel_rfl) (ZqO (by kernel_rfl) (hval 2 3 v2 rfl rfl))
 exact ZsR (ZiY L0 x1.a0 x1.a1 z2 100000 _ (Pi.runs L0 x1.a0 x1.a1 z2)) (ZkU (show VR (ιMk W) (ms E_iiiiiiiA L0) _ from D0.vr) (ZkU (show VR (ιMk W) (.agg #[Value.int .i64 x1.a0, Value.int .i64 x1.a1]) _ from .aggl D1.vr) (ZkU (.atom rfl) Zs7))) rfl
theorem over : Rows.listKeysRow.holds Tryz.pinned (OpenSpec.ofChange Rows.listKeysSpec) :=
 OpenClaim.holds_of_wide 4 Tryz.f4 rfl rfl rfl rfl rfl rfl rfl ⟨rfl, rfl, rfl, rfl, rfl⟩ rfl rfl rfl rfl rfl (by kernel_rfl) Tryz.func4 (by kernel_rfl)
  (of_decide_eq_true (by kernel_rfl)) (by unfold Func.isWrapper; first | (rw [if_pos (by decide +kernel)]; kernel_rfl) | (rw [if_neg (by decide +kernel)]; exact ⟨rfl, rfl⟩))
  (fun os started H enc _ => lifted os started H enc)
theorem proved : Rows.ListKeysSaid := over
#print axioms proved
end ListKeys
end Ev
end Go.Proofs.YtnfmhpnogfppiaaGreat
