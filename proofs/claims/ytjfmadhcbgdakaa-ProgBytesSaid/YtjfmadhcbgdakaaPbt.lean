/- ProgBytes: the law's plain functions are true. -/
import Derived.Test.YtjfmadhcbgdakaaPbg
namespace Go.Proofs.Ytjfmadhcbgdakaa
open Go.RowKit
namespace Ev
set_option linter.unusedVariables false
set_option linter.unusedSimpArgs false
theorem ZsW {L : List R_iiii} {n c N : Nat} (hn : n ≤ L.length) (hN : 50000 ≤ N) : (∃ e, Zc9 L n c N = some (.r0 e) ∧ ZbB L n c N = some (.r0 e)) ∨ ∃ y, Zc9 L n c N = some (.r1 y) ∧ ZbB L n c N = some (.r1 y) := by
 rcases Zqw (c := c) hn hN with ⟨h, e⟩ | ⟨h, ⟨g, e⟩ | ⟨Y, g, e⟩⟩ <;> rcases ZpR (c := c) hn hN with ⟨h', e'⟩ | ⟨h', ⟨g', e'⟩ | ⟨Y', g', e'⟩⟩
 ·exact .inl ⟨_, e, e'⟩
 ·omega
 ·omega
 ·omega
 ·exact .inl ⟨_, e, e'⟩
 ·rw [g] at g'; cases g'
 ·omega
 ·rw [g] at g'; cases g'
 ·rw [g] at g'
  obtain rfl := Option.some.inj g'
  exact .inr ⟨_, e, e'⟩
theorem ZsX {L : List Int} {n c N : Nat} (hb : ∀ i, i < L.length → 0 ≤ L.getD i 0 ∧ L.getD i 0 ≤ 255) (h6 : n ≤ 6000) (hn : n ≤ L.length) (hc : n ≤ c) (hN : 50000 ≤ N) : (∃ z, Zb7 L n c N = some (.r0 z) ∧ Zb3 L n c N = some (.r0 z)) ∨ ∃ p, Zb7 L n c N = some (.r1 p) ∧ Zb3 L n c N = some (.r1 p) := by
 by_cases h7 : n < 7
 ·exact .inl ⟨6, ZdH (Zd (by omega) rfl), ZdH (Zd (by omega) rfl)⟩
 obtain ⟨b1, b2⟩ := hb 4 (by omega)
 obtain ⟨b3, b4⟩ := hb 5 (by omega)
 obtain ⟨nn, hnn⟩ : ∃ nn : Nat, (nn : Int) = 256 * L.getD 4 0 + L.getD 5 0 := ⟨(256 * L.getD 4 0 + L.getD 5 0).toNat, by omega⟩
 rcases ZsV hb (by omega) h6 hn hc hN hnn with ⟨p, g, e⟩ | ⟨g, e⟩ <;> rcases ZuO hb (by omega) h6 hn hc hN hnn with ⟨p', g', e'⟩ | ⟨g', e'⟩
 ·have hp : p = p' := (Zpb (R := []) (S := []) (by omega) g.2.2.1 g'.2.2.1 (g.1.trans g'.1.symm) rfl (by rw [List.append_nil]; exact Zek hb 6 (n - 7)) (by rw [List.append_nil, List.length_take]; omega)).1
  subst hp
  by_cases z : nn = 0
  ·rw [if_pos z] at e e'; exact .inl ⟨0, e, e'⟩
  ·rw [if_neg z] at e e'; exact .inr ⟨p, e, e'⟩
 ·exact absurd g (g' p)
 ·exact absurd g' (g p')
 ·exact .inl ⟨110, e, e'⟩
theorem Zn5 {p : List R_iiii} {N : Nat} (hp : p.length < 9223372036854775807) (hN : p.length < N) : ZeU p p N = some (.r0 true) := by
 refine (ZaC (show ZfT p p N = some (.inl (.h1m0 0)) from Zw (fun h => h rfl) rfl)).trans ?_
 have loop : ∀ d j f, j + d = p.length → d < f → ZaP (Zei p p N) f (.h1m0 j) = some (.r0 true) := by
  intro d
  induction d with
  | zero =>
   intro j f hj hf
   obtain ⟨f, rfl⟩ : ∃ g, f = g + 1 := ⟨f - 1, by omega⟩
   refine ZO ?_
   show Zc0 p p N j = _
   unfold Zc0
   exact Zw (by omega) rfl
  | succ d ih =>
   intro j f hj hf
   obtain ⟨f, rfl⟩ : ∃ g, f = g + 1 := ⟨f - 1, by omega⟩
   refine (Zy (y := .h1m0 (j + 1)) ?_).trans (ih (j + 1) f (by omega) (by omega))
   show Zc0 p p N j = _
   unfold Zc0
   exact Zd (by omega) <| Zd (by omega) <| Zw (fun h => h ⟨rfl, rfl, rfl, rfl⟩) <| Zd (by omega) rfl
 exact loop p.length 0 N (by omega) (by omega)
theorem Zh1 {N : Nat} (hN : 1 ≤ N) : ZdR N = some .r0 := by
 refine (ZaC (show ZgL N = some (.inl .h1m0) from rfl)).trans (Zbv (n := 0 + 1) (by omega) (ZO rfl))
theorem Zpc {L : List Int} {n c N : Nat} (hb : ∀ i, i < L.length → 0 ≤ L.getD i 0 ∧ L.getD i 0 ≤ 255) (h6 : n ≤ 6000) (hn : n ≤ L.length) (hc : n ≤ c) (hN : 50000 ≤ N) {p : List R_iiii} (h : Zb7 L n c N = some (.r1 p)) : p.length ≤ 512 := by
 by_cases h7 : n < 7
 ·rw [show Zb7 L n c N = some (.r0 6) from ZdH (Zd (by omega) rfl)] at h; cases h
 obtain ⟨b1, b2⟩ := hb 4 (by omega)
 obtain ⟨b3, b4⟩ := hb 5 (by omega)
 obtain ⟨nn, hnn⟩ : ∃ nn : Nat, (nn : Int) = 256 * L.getD 4 0 + L.getD 5 0 := ⟨(256 * L.getD 4 0 + L.getD 5 0).toNat, by omega⟩
 rcases ZsV hb (by omega) h6 hn hc hN hnn with ⟨q, g, e⟩ | ⟨g, e⟩
 ·rw [h] at e
  by_cases z : nn = 0
  ·rw [if_pos z] at e; cases e
  ·rw [if_neg z] at e
   injection e with e; injection e with e; subst e
   rw [g.1]; exact g.2.1
 ·rw [h] at e; cases e
namespace Pb
theorem five {n : Nat} : ((((if (520 : Int) < (n : Int) then (520 : Int) else (n : Int))).toNat - 0)) ≤ n := by split <;> omega
theorem six {n : Nat} : ((((if (6000 : Int) < (n : Int) then (6000 : Int) else (n : Int))).toNat - 0)) ≤ n ∧ ((((if (6000 : Int) < (n : Int) then (6000 : Int) else (n : Int))).toNat - 0)) ≤ 6000 := by constructor <;> split <;> omega
section
variable {L1 : List R_iiii} {L5 : List Int} {n2 n3 n6 n7 N : Nat}
theorem runs (hp : n2 ≤ L1.length) (hc : n2 ≤ n3) (hb : ∀ i, i < L5.length → 0 ≤ L5.getD i 0 ∧ L5.getD i 0 ≤ 255) (h6 : n6 ≤ L5.length) (h7 : n6 ≤ n7) (hN : 50000 ≤ N) : Zj9 L1 n2 n3 L5 n6 n7 N = some (.r0 true) := by
 refine (ZaC (show ZeG L1 n2 n3 L5 n6 n7 N = some (.inl .h1m0) from Zd (by split <;> omega) <| Zd (by split <;> omega) rfl)).trans ?_
 have f5 := five (n := n2)
 obtain ⟨g5, g6⟩ := six (n := n6)
 rcases ZsW (L := L1) (n := ((((if (520 : Int) < (n2 : Int) then (520 : Int) else (n2 : Int))).toNat - 0))) (c := n3 - 0) (N := N) (by omega) hN with ⟨e, x, y⟩ | ⟨e, x, y⟩ <;>
 rcases ZsX (L := L5) (n := ((((if (6000 : Int) < (n6 : Int) then (6000 : Int) else (n6 : Int))).toNat - 0))) (c := n7 - 0) (N := N) hb g6 (by omega) (by omega) hN with ⟨z, u, v⟩ | ⟨z, u, v⟩
 ·refine Zbv (n := 0 + 1 + 1 + 1) (by omega) ((Zy (y := .h2m0 e e) (Zp x <| Zp y rfl)).trans ((Zy (y := .h3m0 e e z z) (Zp u <| Zp v rfl)).trans (ZO ?_)))
  exact Zd rfl <| Zp (Zh1 (by omega)) <| Zd rfl rfl
 ·have hl := Zpc hb g6 (by omega) (by omega) hN u
  refine Zbv (n := 0 + 1 + 1 + 1) (by omega) ((Zy (y := .h2m0 e e) (Zp x <| Zp y rfl)).trans ((Zy (y := .h3m1 e e z z) (Zp u <| Zp v rfl)).trans (ZO ?_)))
  exact Zd rfl <| Zp (Zn5 (by omega) (by omega)) <| Zd rfl rfl
 ·refine Zbv (n := 0 + 1 + 1 + 1) (by omega) ((Zy (y := .h2m1 e e) (Zp x <| Zp y rfl)).trans ((Zy (y := .h3m2 e e z z) (Zp u <| Zp v rfl)).trans (ZO ?_)))
  exact Zd (Zex _) <| Zp (Zh1 (by omega)) <| Zd rfl rfl
 ·have hl := Zpc hb g6 (by omega) (by omega) hN u
  refine Zbv (n := 0 + 1 + 1 + 1) (by omega) ((Zy (y := .h2m1 e e) (Zp x <| Zp y rfl)).trans ((Zy (y := .h3m3 e e z z) (Zp u <| Zp v rfl)).trans (ZO ?_)))
  exact Zd (Zex _) <| Zp (Zn5 (by omega) (by omega)) <| Zd rfl rfl
theorem runs2 (hp : n2 ≤ L1.length) (hc : n2 ≤ n3) (hN : 50000 ≤ N) : ZhY L1 n2 n3 N = some (.r0 true) := by
 refine (ZaC (show Zem L1 n2 n3 N = some (.inl .h1m0) from Zd (by split <;> omega) rfl)).trans ?_
 have f5 := five (n := n2)
 rcases ZsW (L := L1) (n := ((((if (520 : Int) < (n2 : Int) then (520 : Int) else (n2 : Int))).toNat - 0))) (c := n3 - 0) (N := N) (by omega) hN with ⟨e, x, y⟩ | ⟨e, x, y⟩
 ·refine Zbv (n := 0 + 1 + 1 + 1) (by omega) ((Zy (y := .h2m0 e e) (Zp x <| Zp y rfl)).trans ((Zy (y := .h3m0 e e) rfl).trans (ZO ?_)))
  exact Zd rfl <| Zp (Zh1 (by omega)) rfl
 ·refine Zbv (n := 0 + 1 + 1 + 1) (by omega) ((Zy (y := .h2m1 e e) (Zp x <| Zp y rfl)).trans ((Zy (y := .h3m1 e e) rfl).trans (ZO ?_)))
  exact Zd (Zex _) <| Zp (Zh1 (by omega)) rfl
theorem runs3 (hb : ∀ i, i < L5.length → 0 ≤ L5.getD i 0 ∧ L5.getD i 0 ≤ 255) (h6 : n6 ≤ L5.length) (h7 : n6 ≤ n7) (hN : 50000 ≤ N) : ZhZ L5 n6 n7 N = some (.r0 true) := by
 refine (ZaC (show Zen L5 n6 n7 N = some (.inl .h1m0) from Zd (by split <;> omega) rfl)).trans ?_
 obtain ⟨g5, g6⟩ := six (n := n6)
 have x := Zjk hN
 have y := ZeI hN
 rcases ZsX (L := L5) (n := ((((if (6000 : Int) < (n6 : Int) then (6000 : Int) else (n6 : Int))).toNat - 0))) (c := n7 - 0) (N := N) hb g6 (by omega) (by omega) hN with ⟨z, u, v⟩ | ⟨z, u, v⟩
 ·refine Zbv (n := 0 + 1 + 1 + 1) (by omega) ((Zy (y := .h2m0 (Zbs 0 []) (Zbs 0 [])) (Zp x <| Zp y rfl)).trans ((Zy (y := .h3m0 (Zbs 0 []) (Zbs 0 []) z z) (Zp u <| Zp v rfl)).trans (ZO ?_)))
  show ZcB L5 n6 n7 N (Zbs 0 []) (Zbs 0 []) z z = _
  unfold ZcB
  exact Zd (Zex (Zbs 0 [])) <| Zp (Zh1 (N := N) (by omega)) <| Zd rfl rfl
 ·have hl := Zpc hb g6 (by omega) (by omega) hN u
  refine Zbv (n := 0 + 1 + 1 + 1) (by omega) ((Zy (y := .h2m0 (Zbs 0 []) (Zbs 0 [])) (Zp x <| Zp y rfl)).trans ((Zy (y := .h3m1 (Zbs 0 []) (Zbs 0 []) z z) (Zp u <| Zp v rfl)).trans (ZO ?_)))
  show ZcC L5 n6 n7 N (Zbs 0 []) (Zbs 0 []) z z = _
  unfold ZcC
  exact Zd (Zex (Zbs 0 [])) <| Zp (Zn5 (p := z) (N := N) (by omega) (by omega)) <| Zd rfl rfl
theorem runs4 (hN : 50000 ≤ N) : Zia N = some (.r0 true) := by
 refine (ZaC (show Zeo N = some (.inl .h1m0) from rfl)).trans ?_
 have x := Zjk hN
 have y := ZeI hN
 refine Zbv (n := 0 + 1 + 1 + 1) (by omega) ((Zy (y := .h2m0 (Zbs 0 []) (Zbs 0 [])) (Zp x <| Zp y rfl)).trans ((Zy (y := .h3m0 (Zbs 0 []) (Zbs 0 [])) rfl).trans (ZO ?_)))
 show ZcD N (Zbs 0 []) (Zbs 0 []) = _
 unfold ZcD
 exact Zd (Zex (Zbs 0 [])) <| Zp (Zh1 (N := N) (by omega)) rfl
end
end Pb
end Ev
end Go.Proofs.Ytjfmadhcbgdakaa
