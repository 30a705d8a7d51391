/- The program's look, and the document's answer: where something is wrong first, and why. -/
import Derived.Test.YtpgbennpiihajaaKmz
namespace Go.Proofs.Ytpgbennpiihajaa
open Go.RowKit
namespace Ev
set_option linter.unusedVariables false
set_option linter.unusedSimpArgs false

section
variable {L : List R_iiii} {n c N : Nat}
theorem Zk4 {d k : Nat} (h : ¬ okB L N k = true) : Zf7 L n N (d + 1) k = ((k : Int), Zef (opn L k) (L.getD k R_iiii.z) N) := by unfold Zf7 fb; rw [if_neg h]
theorem Zgm {d k : Nat} (h : okB L N k = true) : Zf7 L n N (d + 1) k = Zf7 L n N d (k + 1) := by unfold Zf7; rw [fb, if_pos h]
theorem Zi3 {k : Nat} : Zf7 L n N 0 k = if (opn L n).length = 0 then Zdz L n n 0 else ((n : Int), 120) := rfl
theorem Zov {l : List R_ii} {x : R_iiii} {N : Nat} (h : ¬ (ZeX x N && ZdK l x.a0) = true) : Zef l x N ≠ 0 := by
 unfold Zef
 rw [if_neg h]
 split <;> decide
theorem Zi4 {k : Nat} (h : okB L N k = true) : ZeX (L.getD k R_iiii.z) N = true ∧ ZdK (opn L k) (L.getD k R_iiii.z).a0 = true := by
 unfold okB at h; rwa [Bool.and_eq_true] at h
theorem Zgn {k : Nat} (h : ∀ j, j < k → okB L N j = true) (hk : okB L N k = true) : ∀ j, j < k + 1 → okB L N j = true := fun j hj => by
 by_cases e : j < k
 ·exact h j e
 ·obtain rfl : j = k := by omega
  exact hk
theorem Zrk {d k : Nat} {r : ZT} (h : ¬ okB L N k = true) (h1 : rW r = (k : Int)) (h2 : rE r = Zef (opn L k) (L.getD k R_iiii.z) N) : Zg8 L n N (d + 1) k r := by
 unfold Zg8
 rw [Zk4 h]
 exact ⟨h1, h2, fun e => absurd e (Zov h)⟩
theorem Zl7 (h : ∀ j, j < n → okB L N j = true) (h0 : (opn L n).length = 0) : (brs L n ++ [(⟨-1, 0⟩ : R_ii)]).length = n + 1 ∧ ∀ j, j ≤ n → (brs L n ++ [(⟨-1, 0⟩ : R_ii)]).getD j R_ii.z = brP (opn L j) := by
 refine ⟨by simp [ZfP], fun j hj => ?_⟩
 by_cases e : j < n
 ·rw [ZdB (by rw [ZfP]; exact e)]; exact Zur n h j e
 ·obtain rfl : j = n := by omega
  have := Zfx (L := brs L j) (v := (⟨-1, 0⟩ : R_ii)) (d := R_ii.z)
  rw [ZfP] at this
  rw [this]; unfold brP; rw [if_pos h0]
theorem ZqS (hn : n ≤ L.length) (hL : n ≤ 512) (hN : 520 ≤ N) : ∀ d k f, k + d = n → d < f → (∀ j, j < k → okB L N j = true) →
  ∃ r, Zcn (ZbX L n c N) f (.h1m1 k (skL L k) (brs L k) (mtL L k) (blL L k) (dpL L k)) = some r ∧ Zg8 L n N d k r := by
 intro d
 induction d with
 | zero =>
  intro k f hk hf ha
  obtain ⟨f, rfl⟩ : ∃ j, f = j + 1 := ⟨f - 1, by omega⟩
  obtain rfl : k = n := by omega
  obtain ⟨hr, hb⟩ := inv k ha
  by_cases h0 : (opn L k).length = 0
  ·obtain ⟨g1, g2⟩ := Zl7 ha h0
   refine ⟨.r2 (skL L k) (brs L k ++ [⟨-1, 0⟩]) (mtL L k) (blL L k) (dpL L k) (Zdz L k k 0).1 (Zdz L k k 0).2, Za3 ?_, ?_⟩
   ·show Zb5 L k c N k _ _ _ _ _ = _
    unfold Zb5
    refine Z1 (by omega) (Z1 (by have := hr.1; omega) (Zj (by rw [ZfP]; omega) (Zu (a := .r0 (Zdz L k k 0).1 (Zdz L k k 0).2) ?_ rfl)))
    exact Zvt hn hL (Zsv (by omega) ha) g1 g2 k 0 N (by omega) (by omega)
   ·unfold Zg8
    rw [Zi3, if_pos h0]
    exact ⟨rfl, rfl, fun _ => ⟨rfl, rfl, rfl, rfl⟩⟩
  ·refine ⟨.r2 (skL L k) (brs L k) (mtL L k) (blL L k) (dpL L k) (k : Int) 120, Za3 ?_, ?_⟩
   ·show Zb5 L k c N k _ _ _ _ _ = _
    unfold Zb5
    exact Z1 (by omega) (Zj (by have := hr.1; omega) rfl)
   ·unfold Zg8
    rw [Zi3, if_neg h0]
    exact ⟨rfl, rfl, fun e => absurd e (show (120 : Int) ≠ 0 by decide)⟩
 | succ d ih =>
  intro k f hk hf ha
  obtain ⟨f, rfl⟩ : ∃ j, f = j + 1 := ⟨f - 1, by omega⟩
  obtain ⟨hr, hb⟩ := inv k ha
  by_cases hok : okB L N k = true
  ·obtain ⟨o1, o2⟩ := Zi4 hok
   obtain ⟨r, h1, h2⟩ := ih (k + 1) f (by omega) (by omega) (Zgn ha hok)
   refine ⟨r, (Zau ?_).trans h1, ?_⟩
   ·exact Zwp (by omega) hn hL (by omega) hr (Zjo L k) hb (ZfP L k) (Zi2 L k) (ZqQ L k) o1 o2
   ·unfold Zg8 at h2 ⊢; rw [Zgm hok]; exact h2
  ·refine ⟨_, Za3 (Zwq (by omega) hn (by omega) hr (Zjo L k) (Zov hok)), Zrk hok rfl rfl⟩
theorem Zrl (x : R_iiii) {B : List R_ii} {M : List Int} {d w e : Int} (hN : 4 ≤ N) : Zcg x.a0 x.a1 x.a2 x.a3 L n c B M d w e N = some (.r0 (Zef [] x N)) := by
 obtain ⟨h1, h2, h3⟩ := ZhY x hN
 unfold Zcg Zef ZdK
 generalize ZG x.a0 x.a1 x.a2 x.a3 N = q at h1 ⊢
 subst h1
 generalize ZeX x N = b
 clear h2 h3
 generalize x.a0 = op
 by_cases h15 : op = 15
 ·subst h15; cases b <;> simp
 ·by_cases h16 : op = 16
  ·subst h16; cases b <;> simp
  ·by_cases h17 : op = 17
   ·subst h17; cases b <;> simp
   ·by_cases h18 : op = 18
    ·subst h18; cases b <;> simp
    ·by_cases h20 : op = 20
     ·subst h20; cases b <;> simp
     ·cases b <;> simp [h15, h16, h17, h18, h20]
theorem Zrm (x : R_iiii) {d w e : Int} (hN : 4 ≤ N) : Zc6 x.a0 x.a1 x.a2 x.a3 L n c d w e N = some (.r0 (Zef [] x N)) := by
 obtain ⟨h1, h2, h3⟩ := ZhY x hN
 unfold Zc6 Zef ZdK
 generalize ZG x.a0 x.a1 x.a2 x.a3 N = q at h1 ⊢
 subst h1
 generalize ZeX x N = b
 clear h2 h3
 generalize x.a0 = op
 by_cases h15 : op = 15
 ·subst h15; cases b <;> simp
 ·by_cases h16 : op = 16
  ·subst h16; cases b <;> simp
  ·by_cases h17 : op = 17
   ·subst h17; cases b <;> simp
   ·by_cases h18 : op = 18
    ·subst h18; cases b <;> simp
    ·by_cases h20 : op = 20
     ·subst h20; cases b <;> simp
     ·cases b <;> simp [h15, h16, h17, h18, h20]
def Clr (L : List R_iiii) (k : Nat) : Prop := skL L k = [] ∧ opn L k = [] ∧ blL L k = [] ∧ dpL L k = 0
theorem Zt5 {k : Nat} (h : Clr L k) (h15 : (L.getD k R_iiii.z).a0 ≠ 15) (hok : okB L N k = true) : Clr L (k + 1) ∧ brs L (k + 1) = brs L k ++ [⟨-1, 0⟩] ∧ mtL L (k + 1) = mtL L k ++ [-1] ∧ (L.getD k R_iiii.z).a0 ≠ 16 ∧ (L.getD k R_iiii.z).a0 ≠ 17 := by
 obtain ⟨h1, h2, h3, h4⟩ := h
 obtain ⟨o1, o2⟩ := Zi4 hok
 rw [h2] at o2
 unfold ZdK at o2
 rw [if_neg h15] at o2
 by_cases h16 : (L.getD k R_iiii.z).a0 = 16
 ·rw [if_pos h16] at o2; cases o2
 ·rw [if_neg h16] at o2
  by_cases h17 : (L.getD k R_iiii.z).a0 = 17
  ·rw [if_pos h17] at o2; cases o2
  ·refine ⟨⟨?_, ?_, ?_, ?_⟩, ?_, ?_, h16, h17⟩
   ·rw [skL, stk, if_neg h15, if_neg h16, if_neg h17]; exact h1
   ·rw [opn, Zf6, if_neg h15, if_neg h16, if_neg h17]; exact h2
   ·rw [blL, blk, if_neg h15]; exact h3
   ·rw [dpL, dpk, if_neg h15]; exact h4
   ·rw [brs, h1]; rfl
   ·rw [mtL, mtk, if_neg h16, if_neg h17]
theorem Zr8 {k : Nat} (h : Clr L k) (h15 : (L.getD k R_iiii.z).a0 = 15) : skL L (k + 1) = [⟨(k : Int), -1⟩] ∧ brs L (k + 1) = brs L k ++ [⟨-1, 0⟩] ∧ mtL L (k + 1) = mtL L k ++ [-1] ∧ blL L (k + 1) = [(k : Int)] ∧ dpL L (k + 1) = 1 := by
 obtain ⟨h1, h2, h3, h4⟩ := h
 refine ⟨?_, ?_, ?_, ?_, ?_⟩
 ·rw [skL, stk, if_pos h15, h1]; rfl
 ·rw [brs, h1]; rfl
 ·rw [mtL, mtk, if_neg (by omega), if_neg (by omega)]
 ·rw [blL, blk, if_pos h15, h1, h3]; rfl
 ·rw [dpL, dpk, if_pos h15, h1, h4]; rfl
theorem ZuO (hn : n ≤ L.length) (hL : n ≤ 512) (hN : 520 ≤ N) : ∀ d k f, k + d = n → d < f → (∀ j, j < k → okB L N j = true) → Clr L k →
  ∃ r, Zcn (ZbX L n c N) f (.h1m2 k (brs L k) (mtL L k)) = some r ∧ Zg8 L n N d k r := by
 intro d
 induction d with
 | zero =>
  intro k f hk hf ha hc
  obtain ⟨f, rfl⟩ : ∃ j, f = j + 1 := ⟨f - 1, by omega⟩
  obtain rfl : k = n := by omega
  have h0 : (opn L k).length = 0 := by rw [hc.2.1]; rfl
  obtain ⟨g1, g2⟩ := Zl7 ha h0
  refine ⟨.r3 (brs L k ++ [⟨-1, 0⟩]) (mtL L k) (Zdz L k k 0).1 (Zdz L k k 0).2, Za3 ?_, ?_⟩
  ·show Zci L k c N k _ _ = _
   unfold Zci
   refine Z1 (by omega) (Zj (by rw [ZfP]; omega) (Zu (a := .r0 (Zdz L k k 0).1 (Zdz L k k 0).2) ?_ rfl))
   exact Zvs hn hL (Zsv (by omega) ha) g1 g2 k 0 N (by omega) (by omega)
  ·unfold Zg8
   rw [Zi3, if_pos h0]
   exact ⟨rfl, rfl, fun _ => ⟨rfl, rfl, hc.2.2.1.symm, hc.2.2.2.symm⟩⟩
 | succ d ih =>
  intro k f hk hf ha hc
  obtain ⟨f, rfl⟩ : ∃ j, f = j + 1 := ⟨f - 1, by omega⟩
  have hstep : ∀ x, Zci L n c N k (brs L k) (mtL L k) = x → ZbX L n c N (.h1m2 k (brs L k) (mtL L k)) = x := fun x h => h
  have hl1 := ZfP L k
  have hl2 := Zi2 L k
  by_cases hok : okB L N k = true
  ·obtain ⟨o1, o2⟩ := Zi4 hok
   have he : Zef [] (L.getD k R_iiii.z) N = 0 := by
    have : Zef (opn L k) (L.getD k R_iiii.z) N = 0 := by unfold Zef; rw [o1, o2]; rfl
    rw [hc.2.1] at this; exact this
   by_cases h15 : (L.getD k R_iiii.z).a0 = 15
   ·obtain ⟨e1, e2, e3, e4, e5⟩ := Zr8 hc h15
    obtain ⟨r, h1, h2⟩ := ZqS (c := c) hn hL hN d (k + 1) f (by omega) (by omega) (Zgn ha hok)
    refine ⟨r, (Zau ?_).trans h1, ?_⟩
    ·refine hstep _ ?_
     unfold Zci
     rw [e1, e2, e3, e4, e5]
     refine Zj (by omega) (Zj (by omega) (Zu (Zrl _ (by omega)) (Z1 (by rw [he]; decide) (Zu (Zu rfl (Zj (by omega) (Zj (by omega) (Zj h15 rfl)))) (Zj (by omega) rfl)))))
    ·unfold Zg8 at h2 ⊢; rw [Zgm hok]; exact h2
   ·obtain ⟨c1, e2, e3, h16, h17⟩ := Zt5 hc h15 hok
    obtain ⟨r, h1, h2⟩ := ih (k + 1) f (by omega) (by omega) (Zgn ha hok) c1
    refine ⟨r, (Zau ?_).trans h1, ?_⟩
    ·refine hstep _ ?_
     unfold Zci
     rw [e2, e3]
     refine Zj (by omega) (Zj (by omega) (Zu (Zrl _ (by omega)) (Z1 (by rw [he]; decide) (Zu (Zu rfl (Zj (by omega) (Zj (by omega) (Z1 h15 (Z1 h16 (Z1 h17 rfl)))))) (Zj (by omega) rfl)))))
    ·unfold Zg8 at h2 ⊢; rw [Zgm hok]; exact h2
  ·have he := Zov hok
   refine ⟨.r3 (brs L k) (mtL L k) (k : Int) (Zef (opn L k) (L.getD k R_iiii.z) N), Za3 (hstep _ ?_), Zrk hok rfl rfl⟩
   unfold Zci
   rw [hc.2.1] at he ⊢
   exact Zj (by omega) (Zj (by omega) (Zu (Zrl _ (by omega)) (Zj he rfl)))
theorem Zws (h1 : 1 ≤ n) (hn : n ≤ L.length) (hL : n ≤ 512) (hN : 520 ≤ N) : ∃ r, ZbP L n c N = some r ∧ Zg8 L n N n 0 r := by
 obtain ⟨f, rfl⟩ : ∃ j, N = j + 1 := ⟨N - 1, by omega⟩
 obtain ⟨m, rfl⟩ : ∃ m, n = m + 1 := ⟨n - 1, by omega⟩
 have hin : Zgg L (m + 1) c (f + 1) = some (.inl .h1m0) := by
  unfold Zgg
  exact Z1 (by omega) (Z1 (by omega) rfl)
 have hc : Clr L 0 := ⟨rfl, rfl, rfl, rfl⟩
 have ha : ∀ j, j < 0 → okB L (f + 1) j = true := fun j hj => absurd hj (Nat.not_lt_zero j)
 have hstep : ∀ x, Zdo L (m + 1) c (f + 1) = x → ZbX L (m + 1) c (f + 1) .h1m0 = x := fun x h => h
 unfold ZbP
 rw [ZfK hin]
 by_cases hok : okB L (f + 1) 0 = true
 ·obtain ⟨o1, o2⟩ := Zi4 hok
  have he : Zef [] (L.getD 0 R_iiii.z) (f + 1) = 0 := by
   have : Zef (opn L 0) (L.getD 0 R_iiii.z) (f + 1) = 0 := by unfold Zef; rw [o1, o2]; rfl
   exact this
  by_cases h15 : (L.getD 0 R_iiii.z).a0 = 15
  ·obtain ⟨e1, e2, e3, e4, e5⟩ := Zr8 hc h15
   obtain ⟨r, h1, h2⟩ := ZqS (c := c) hn hL hN m (0 + 1) f (by omega) (by omega) (Zgn ha hok)
   refine ⟨r, (Zau ?_).trans h1, ?_⟩
   ·refine hstep _ ?_
    unfold Zdo
    rw [e1, e2, e3, e4, e5]
    refine Zj (by omega) (Zj (by omega) (Zu (Zrm _ (by omega)) (Z1 (by rw [he]; decide) (Zu (Zu rfl (Zj h15 rfl)) rfl))))
   ·unfold Zg8 at h2 ⊢; rw [Zgm hok]; exact h2
  ·obtain ⟨c1, e2, e3, h16, h17⟩ := Zt5 hc h15 hok
   obtain ⟨r, h1, h2⟩ := ZuO (c := c) hn hL hN m (0 + 1) f (by omega) (by omega) (Zgn ha hok) c1
   refine ⟨r, (Zau ?_).trans h1, ?_⟩
   ·refine hstep _ ?_
    unfold Zdo
    rw [e2, e3]
    refine Zj (by omega) (Zj (by omega) (Zu (Zrm _ (by omega)) (Z1 (by rw [he]; decide) (Zu (Zu rfl (Z1 h15 (Z1 h16 (Z1 h17 rfl)))) rfl))))
   ·unfold Zg8 at h2 ⊢; rw [Zgm hok]; exact h2
 ·have he := Zov hok
  refine ⟨.r0 (Zef (opn L 0) (L.getD 0 R_iiii.z) (f + 1)), Za3 (hstep _ ?_), Zrk hok rfl rfl⟩
  unfold Zdo
  exact Zj (by omega) (Zj (by omega) (Zu (Zrm _ (by omega)) (Zj he rfl)))
theorem ZwB {L : List R_iiii} {c N : Nat} : ZbP L 0 c N = some (.r0 120) := ZhX rfl
end
end Ev
end Go.Proofs.Ytpgbennpiihajaa
