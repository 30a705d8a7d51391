/- The program's look, and the document's answer: where something is wrong first, and why. -/
import Derived.Test.YtpgbennpiihajaaKjz
namespace Go.Proofs.Ytpgbennpiihajaa
open Go.RowKit
namespace Ev
set_option linter.unusedVariables false
set_option linter.unusedSimpArgs false

section
variable {L : List R_iiii} {n c N : Nat}
theorem Zpa {d k : Nat} (h : ¬ okB L N k = true) : Zed L n N (d + 1) k = ((k : Int), Zbv (opn L k) (L.getD k R_iiii.z) N) := by unfold Zed fb; rw [if_neg h]
theorem Zea {d k : Nat} (h : okB L N k = true) : Zed L n N (d + 1) k = Zed L n N d (k + 1) := by unfold Zed; rw [fb, if_pos h]
theorem Zga {k : Nat} : Zed L n N 0 k = if (opn L n).length = 0 then Zbm L n n 0 else ((n : Int), 120) := rfl
theorem Zgx {l : List R_ii} {x : R_iiii} {N : Nat} (h : ¬ (Zcm x N && ZcI l x.a0) = true) : Zbv l x N ≠ 0 := by
 unfold Zbv
 rw [if_neg h]
 split <;> decide
theorem ZhK {k : Nat} (h : okB L N k = true) : Zcm (L.getD k R_iiii.z) N = true ∧ ZcI (opn L k) (L.getD k R_iiii.z).a0 = true := by
 unfold okB at h; rwa [Bool.and_eq_true] at h
theorem Zeb {k : Nat} (h : ∀ j, j < k → okB L N j = true) (hk : okB L N k = true) : ∀ j, j < k + 1 → okB L N j = true := fun j hj => by
 by_cases e : j < k
 ·exact h j e
 ·obtain rfl : j = k := by omega
  exact hk
theorem ZoF {d k : Nat} {r : ZR} (h : ¬ okB L N k = true) (h1 : rW r = (k : Int)) (h2 : rE r = Zbv (opn L k) (L.getD k R_iiii.z) N) : Zfo L n N (d + 1) k r := by
 unfold Zfo
 rw [Zpa h]
 exact ⟨h1, h2, fun e => absurd e (Zgx h)⟩
theorem Ziz (h : ∀ j, j < n → okB L N j = true) (h0 : (opn L n).length = 0) : (brs L n ++ [(⟨-1, 0⟩ : R_ii)]).length = n + 1 ∧ ∀ j, j ≤ n → (brs L n ++ [(⟨-1, 0⟩ : R_ii)]).getD j R_ii.z = brP (opn L j) := by
 refine ⟨by simp [Zdo], fun j hj => ?_⟩
 by_cases e : j < n
 ·rw [Zdw (by rw [Zdo]; exact e)]; exact Zr7 n h j e
 ·obtain rfl : j = n := by omega
  have := ZfZ (L := brs L j) (v := (⟨-1, 0⟩ : R_ii)) (d := R_ii.z)
  rw [Zdo] at this
  rw [this]; unfold brP; rw [if_pos h0]
theorem Zou (hn : n ≤ L.length) (hL : n ≤ 512) (hN : 520 ≤ N) : ∀ d k f, k + d = n → d < f → (∀ j, j < k → okB L N j = true) →
  ∃ r, Zds (ZbG L n c N) f (.h1m1 k (skL L k) (brs L k) (mtL L k) (blL L k) (dpL L k)) = some r ∧ Zfo L n N d k r := by
 intro d
 induction d with
 | zero =>
  intro k f hk hf ha
  obtain ⟨f, rfl⟩ : ∃ j, f = j + 1 := ⟨f - 1, by omega⟩
  obtain rfl : k = n := by omega
  obtain ⟨hr, hb⟩ := inv k ha
  by_cases h0 : (opn L k).length = 0
  ·obtain ⟨g1, g2⟩ := Ziz ha h0
   refine ⟨.r2 (skL L k) (brs L k ++ [⟨-1, 0⟩]) (mtL L k) (blL L k) (dpL L k) (Zbm L k k 0).1 (Zbm L k k 0).2, ZaL ?_, ?_⟩
   ·show Zbr L k c N k _ _ _ _ _ = _
    unfold Zbr
    refine Zae (by omega) (Zae (by have := hr.1; omega) (Zl (by rw [Zdo]; omega) (Z9 (a := .r0 (Zbm L k k 0).1 (Zbm L k k 0).2) ?_ rfl)))
    exact Zs7 hn hL (Zot (by omega) ha) g1 g2 k 0 N (by omega) (by omega)
   ·unfold Zfo
    rw [Zga, if_pos h0]
    exact ⟨rfl, rfl, fun _ => ⟨rfl, rfl, rfl, rfl⟩⟩
  ·refine ⟨.r2 (skL L k) (brs L k) (mtL L k) (blL L k) (dpL L k) (k : Int) 120, ZaL ?_, ?_⟩
   ·show Zbr L k c N k _ _ _ _ _ = _
    unfold Zbr
    exact Zae (by omega) (Zl (by have := hr.1; omega) rfl)
   ·unfold Zfo
    rw [Zga, if_neg h0]
    exact ⟨rfl, rfl, fun e => absurd e (show (120 : Int) ≠ 0 by decide)⟩
 | succ d ih =>
  intro k f hk hf ha
  obtain ⟨f, rfl⟩ : ∃ j, f = j + 1 := ⟨f - 1, by omega⟩
  obtain ⟨hr, hb⟩ := inv k ha
  by_cases hok : okB L N k = true
  ·obtain ⟨o1, o2⟩ := ZhK hok
   obtain ⟨r, h1, h2⟩ := ih (k + 1) f (by omega) (by omega) (Zeb ha hok)
   refine ⟨r, (Zbx ?_).trans h1, ?_⟩
   ·exact Zt2 (by omega) hn hL (by omega) hr (Zkn L k) hb (Zdo L k) (ZmD L k) (ZmE L k) o1 o2
   ·unfold Zfo at h2 ⊢; rw [Zea hok]; exact h2
  ·refine ⟨_, ZaL (Zt3 (by omega) hn (by omega) hr (Zkn L k) (Zgx hok)), ZoF hok rfl rfl⟩
theorem ZoG (x : R_iiii) {B : List R_ii} {M : List Int} {d w e : Int} (hN : 4 ≤ N) : ZbN x.a0 x.a1 x.a2 x.a3 L n c B M d w e N = some (.r0 (Zbv [] x N)) := by
 obtain ⟨h1, h2, h3⟩ := Zhi x hN
 unfold ZbN Zbv ZcI
 generalize Z2 x.a0 x.a1 x.a2 x.a3 N = q at h1 ⊢
 subst h1
 generalize Zcm x N = b
 clear h2 h3
 generalize x.a0 = op
 by_cases h15 : op = 15
 ·subst h15; cases b <;> simp
 ·by_cases h16 : op = 16
  ·subst h16; cases b <;> simp
  ·by_cases h17 : op = 17
   ·subst h17; cases b <;> simp
   ·by_cases h18 : op = 18
    ·subst h18; cases b <;> simp
    ·by_cases h20 : op = 20
     ·subst h20; cases b <;> simp
     ·cases b <;> simp [h15, h16, h17, h18, h20]
theorem ZoH (x : R_iiii) {d w e : Int} (hN : 4 ≤ N) : Zch x.a0 x.a1 x.a2 x.a3 L n c d w e N = some (.r0 (Zbv [] x N)) := by
 obtain ⟨h1, h2, h3⟩ := Zhi x hN
 unfold Zch Zbv ZcI
 generalize Z2 x.a0 x.a1 x.a2 x.a3 N = q at h1 ⊢
 subst h1
 generalize Zcm x N = b
 clear h2 h3
 generalize x.a0 = op
 by_cases h15 : op = 15
 ·subst h15; cases b <;> simp
 ·by_cases h16 : op = 16
  ·subst h16; cases b <;> simp
  ·by_cases h17 : op = 17
   ·subst h17; cases b <;> simp
   ·by_cases h18 : op = 18
    ·subst h18; cases b <;> simp
    ·by_cases h20 : op = 20
     ·subst h20; cases b <;> simp
     ·cases b <;> simp [h15, h16, h17, h18, h20]
def Clr (L : List R_iiii) (k : Nat) : Prop := skL L k = [] ∧ opn L k = [] ∧ blL L k = [] ∧ dpL L k = 0
theorem ZkE {k : Nat} (h : Clr L k) (h15 : (L.getD k R_iiii.z).a0 ≠ 15) (hok : okB L N k = true) : Clr L (k + 1) ∧ brs L (k + 1) = brs L k ++ [⟨-1, 0⟩] ∧ mtL L (k + 1) = mtL L k ++ [-1] ∧ (L.getD k R_iiii.z).a0 ≠ 16 ∧ (L.getD k R_iiii.z).a0 ≠ 17 := by
 obtain ⟨h1, h2, h3, h4⟩ := h
 obtain ⟨o1, o2⟩ := ZhK hok
 rw [h2] at o2
 unfold ZcI at o2
 rw [if_neg h15] at o2
 by_cases h16 : (L.getD k R_iiii.z).a0 = 16
 ·rw [if_pos h16] at o2; cases o2
 ·rw [if_neg h16] at o2
  by_cases h17 : (L.getD k R_iiii.z).a0 = 17
  ·rw [if_pos h17] at o2; cases o2
  ·refine ⟨⟨?_, ?_, ?_, ?_⟩, ?_, ?_, h16, h17⟩
   ·rw [skL, stk, if_neg h15, if_neg h16, if_neg h17]; exact h1
   ·rw [opn, Zhm, if_neg h15, if_neg h16, if_neg h17]; exact h2
   ·rw [blL, blk, if_neg h15]; exact h3
   ·rw [dpL, dpk, if_neg h15]; exact h4
   ·rw [brs, h1]; rfl
   ·rw [mtL, mtk, if_neg h16, if_neg h17]
theorem Zjv {k : Nat} (h : Clr L k) (h15 : (L.getD k R_iiii.z).a0 = 15) : skL L (k + 1) = [⟨(k : Int), -1⟩] ∧ brs L (k + 1) = brs L k ++ [⟨-1, 0⟩] ∧ mtL L (k + 1) = mtL L k ++ [-1] ∧ blL L (k + 1) = [(k : Int)] ∧ dpL L (k + 1) = 1 := by
 obtain ⟨h1, h2, h3, h4⟩ := h
 refine ⟨?_, ?_, ?_, ?_, ?_⟩
 ·rw [skL, stk, if_pos h15, h1]; rfl
 ·rw [brs, h1]; rfl
 ·rw [mtL, mtk, if_neg (by omega), if_neg (by omega)]
 ·rw [blL, blk, if_pos h15, h1, h3]; rfl
 ·rw [dpL, dpk, if_pos h15, h1, h4]; rfl
theorem Zsd (hn : n ≤ L.length) (hL : n ≤ 512) (hN : 520 ≤ N) : ∀ d k f, k + d = n → d < f → (∀ j, j < k → okB L N j = true) → Clr L k →
  ∃ r, Zds (ZbG L n c N) f (.h1m2 k (brs L k) (mtL L k)) = some r ∧ Zfo L n N d k r := by
 intro d
 induction d with
 | zero =>
  intro k f hk hf ha hc
  obtain ⟨f, rfl⟩ : ∃ j, f = j + 1 := ⟨f - 1, by omega⟩
  obtain rfl : k = n := by omega
  have h0 : (opn L k).length = 0 := by rw [hc.2.1]; rfl
  obtain ⟨g1, g2⟩ := Ziz ha h0
  refine ⟨.r3 (brs L k ++ [⟨-1, 0⟩]) (mtL L k) (Zbm L k k 0).1 (Zbm L k k 0).2, ZaL ?_, ?_⟩
  ·show ZbT L k c N k _ _ = _
   unfold ZbT
   refine Zae (by omega) (Zl (by rw [Zdo]; omega) (Z9 (a := .r0 (Zbm L k k 0).1 (Zbm L k k 0).2) ?_ rfl))
   exact Zs6 hn hL (Zot (by omega) ha) g1 g2 k 0 N (by omega) (by omega)
  ·unfold Zfo
   rw [Zga, if_pos h0]
   exact ⟨rfl, rfl, fun _ => ⟨rfl, rfl, hc.2.2.1.symm, hc.2.2.2.symm⟩⟩
 | succ d ih =>
  intro k f hk hf ha hc
  obtain ⟨f, rfl⟩ : ∃ j, f = j + 1 := ⟨f - 1, by omega⟩
  have hstep : ∀ x, ZbT L n c N k (brs L k) (mtL L k) = x → ZbG L n c N (.h1m2 k (brs L k) (mtL L k)) = x := fun x h => h
  have hl1 := Zdo L k
  have hl2 := ZmD L k
  by_cases hok : okB L N k = true
  ·obtain ⟨o1, o2⟩ := ZhK hok
   have he : Zbv [] (L.getD k R_iiii.z) N = 0 := by
    have : Zbv (opn L k) (L.getD k R_iiii.z) N = 0 := by unfold Zbv; rw [o1, o2]; rfl
    rw [hc.2.1] at this; exact this
   by_cases h15 : (L.getD k R_iiii.z).a0 = 15
   ·obtain ⟨e1, e2, e3, e4, e5⟩ := Zjv hc h15
    obtain ⟨r, h1, h2⟩ := Zou (c := c) hn hL hN d (k + 1) f (by omega) (by omega) (Zeb ha hok)
    refine ⟨r, (Zbx ?_).trans h1, ?_⟩
    ·refine hstep _ ?_
     unfold ZbT
     rw [e1, e2, e3, e4, e5]
     refine Zl (by omega) (Zl (by omega) (Z9 (ZoG _ (by omega)) (Zae (by rw [he]; decide) (Z9 (Z9 rfl (Zl (by omega) (Zl (by omega) (Zl h15 rfl)))) (Zl (by omega) rfl)))))
    ·unfold Zfo at h2 ⊢; rw [Zea hok]; exact h2
   ·obtain ⟨c1, e2, e3, h16, h17⟩ := ZkE hc h15 hok
    obtain ⟨r, h1, h2⟩ := ih (k + 1) f (by omega) (by omega) (Zeb ha hok) c1
    refine ⟨r, (Zbx ?_).trans h1, ?_⟩
    ·refine hstep _ ?_
     unfold ZbT
     rw [e2, e3]
     refine Zl (by omega) (Zl (by omega) (Z9 (ZoG _ (by omega)) (Zae (by rw [he]; decide) (Z9 (Z9 rfl (Zl (by omega) (Zl (by omega) (Zae h15 (Zae h16 (Zae h17 rfl)))))) (Zl (by omega) rfl)))))
    ·unfold Zfo at h2 ⊢; rw [Zea hok]; exact h2
  ·have he := Zgx hok
   refine ⟨.r3 (brs L k) (mtL L k) (k : Int) (Zbv (opn L k) (L.getD k R_iiii.z) N), ZaL (hstep _ ?_), ZoF hok rfl rfl⟩
   unfold ZbT
   rw [hc.2.1] at he ⊢
   exact Zl (by omega) (Zl (by omega) (Z9 (ZoG _ (by omega)) (Zl he rfl)))
theorem Zt5 (h1 : 1 ≤ n) (hn : n ≤ L.length) (hL : n ≤ 512) (hN : 520 ≤ N) : ∃ r, Zcq L n c N = some r ∧ Zfo L n N n 0 r := by
 obtain ⟨f, rfl⟩ : ∃ j, N = j + 1 := ⟨N - 1, by omega⟩
 obtain ⟨m, rfl⟩ : ∃ m, n = m + 1 := ⟨n - 1, by omega⟩
 have hin : ZeW L (m + 1) c (f + 1) = some (.inl .h1m0) := by
  unfold ZeW
  exact Zae (by omega) (Zae (by omega) rfl)
 have hc : Clr L 0 := ⟨rfl, rfl, rfl, rfl⟩
 have ha : ∀ j, j < 0 → okB L (f + 1) j = true := fun j hj => absurd hj (Nat.not_lt_zero j)
 have hstep : ∀ x, ZcF L (m + 1) c (f + 1) = x → ZbG L (m + 1) c (f + 1) .h1m0 = x := fun x h => h
 unfold Zcq
 rw [Zos hin]
 by_cases hok : okB L (f + 1) 0 = true
 ·obtain ⟨o1, o2⟩ := ZhK hok
  have he : Zbv [] (L.getD 0 R_iiii.z) (f + 1) = 0 := by
   have : Zbv (opn L 0) (L.getD 0 R_iiii.z) (f + 1) = 0 := by unfold Zbv; rw [o1, o2]; rfl
   exact this
  by_cases h15 : (L.getD 0 R_iiii.z).a0 = 15
  ·obtain ⟨e1, e2, e3, e4, e5⟩ := Zjv hc h15
   obtain ⟨r, h1, h2⟩ := Zou (c := c) hn hL hN m (0 + 1) f (by omega) (by omega) (Zeb ha hok)
   refine ⟨r, (Zbx ?_).trans h1, ?_⟩
   ·refine hstep _ ?_
    unfold ZcF
    rw [e1, e2, e3, e4, e5]
    refine Zl (by omega) (Zl (by omega) (Z9 (ZoH _ (by omega)) (Zae (by rw [he]; decide) (Z9 (Z9 rfl (Zl h15 rfl)) rfl))))
   ·unfold Zfo at h2 ⊢; rw [Zea hok]; exact h2
  ·obtain ⟨c1, e2, e3, h16, h17⟩ := ZkE hc h15 hok
   obtain ⟨r, h1, h2⟩ := Zsd (c := c) hn hL hN m (0 + 1) f (by omega) (by omega) (Zeb ha hok) c1
   refine ⟨r, (Zbx ?_).trans h1, ?_⟩
   ·refine hstep _ ?_
    unfold ZcF
    rw [e2, e3]
    refine Zl (by omega) (Zl (by omega) (Z9 (ZoH _ (by omega)) (Zae (by rw [he]; decide) (Z9 (Z9 rfl (Zae h15 (Zae h16 (Zae h17 rfl)))) rfl))))
   ·unfold Zfo at h2 ⊢; rw [Zea hok]; exact h2
 ·have he := Zgx hok
  refine ⟨.r0 (Zbv (opn L 0) (L.getD 0 R_iiii.z) (f + 1)), ZaL (hstep _ ?_), ZoF hok rfl rfl⟩
  unfold ZcF
  exact Zl (by omega) (Zl (by omega) (Z9 (ZoH _ (by omega)) (Zl he rfl)))
theorem ZtW {L : List R_iiii} {c N : Nat} : Zcq L 0 c N = some (.r0 120) := Zkm rfl
end
end Ev
end Go.Proofs.Ytpgbennpiihajaa
