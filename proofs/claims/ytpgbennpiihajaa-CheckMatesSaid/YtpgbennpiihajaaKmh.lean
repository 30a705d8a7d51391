/- The document's answer, plain: the same. -/
import Derived.Test.YtpgbennpiihajaaKmg
namespace Go.Proofs.Ytpgbennpiihajaa
open Go.RowKit
namespace Ev
set_option linter.unusedVariables false
set_option linter.unusedSimpArgs false

section
variable {L : List R_iiii} {n c N : Nat}
theorem Zwb (hn : n ≤ L.length) (hL : n ≤ 512) (hN : 520 ≤ N) (hj : JF L n) : ∀ d k f, k + d = n → d < f →
  Zcn (Zbj L n c N) f (.h2m0 k) = some (.r0 (Zdz L n d k).1) := by
 intro d
 induction d with
 | zero =>
  intro k f hk hf
  obtain ⟨f, rfl⟩ : ∃ j, f = j + 1 := ⟨f - 1, by omega⟩
  refine Za3 ?_
  show ZbR L n c N k = _
  unfold ZbR
  exact Z1 (by omega) rfl
 | succ d ih =>
  intro k f hk hf
  obtain ⟨f, rfl⟩ : ∃ j, f = j + 1 := ⟨f - 1, by omega⟩
  obtain ⟨j1, j2⟩ := hj k (by omega)
  have bk : Zcp L n c (k : Int) N = some (.r0 (brP (opn L k)).a0 (brP (opn L k)).a1) := Zk2 k (by omega) hn (by omega) (.inl rfl) hL hN
  have bt : ¬ (n : Int) < tgt (L.getD k R_iiii.z) → Zcp L n c (tgt (L.getD k R_iiii.z)) N = some (.r0 (brP (opn L (tgt (L.getD k R_iiii.z)).toNat)).a0 (brP (opn L (tgt (L.getD k R_iiii.z)).toNat)).a1) := fun h => Zk2 _ (by omega) hn (by omega) (.inl (by omega)) hL hN
  by_cases hb : ZkR L n k = true
  ·rw [ZlW hb]
   refine Za3 ?_
   rw [ZhZ, Bool.and_eq_true] at hb
   show ZbR L n c N k = _
   unfold ZbR
   refine Zj (by omega) (Zj (by omega) (Zu (ZqR _ _) (Zj hb.1 (Zeg (fun _ => rfl) (fun h => Zu (bt h) (Zu bk (Zj ?_ rfl)))))))
   have := hb.2
   unfold jb at this
   rw [decide_eq_false h, Bool.false_or, Bool.not_eq_true', decide_eq_false_iff_not] at this
   exact this
  ·rw [Zou hb]
   refine (Zau (y := .h2m0 (k + 1)) ?_).trans (ih (k + 1) f (by omega) (by omega))
   rw [ZhZ, Bool.and_eq_true] at hb
   show ZbR L n c N k = _
   unfold ZbR
   refine Zj (by omega) (Zj (by omega) (Zu (ZqR _ _) (Zeg (fun h1 => ?_) (fun h1 => Zj (by omega) rfl))))
   have hb : ¬ jb L n k (tgt (L.getD k R_iiii.z)) = true := fun e => hb ⟨h1, e⟩
   unfold jb at hb
   simp only [Bool.or_eq_true, decide_eq_true_eq, Bool.not_eq_true', decide_eq_false_iff_not, not_or, Decidable.not_not] at hb
   exact Z1 hb.1 (Zu (bt hb.1) (Zu bk (Z1 (fun h => h hb.2) (Zj (by omega) rfl))))
theorem ZwC (hn : n ≤ L.length) (hL : n ≤ 512) (hN : 520 ≤ N) : ∀ d k f, k + d = n → d + n + 2 ≤ f → (∀ j, j < k → okB L N j = true) →
  Zcn (Zbj L n c N) f (.h1m1 (opn L k) k) = some (.r0 (Zf7 L n N d k).1) := by
 intro d
 induction d with
 | zero =>
  intro k f hk hf ha
  obtain ⟨f, rfl⟩ : ∃ j, f = j + 1 := ⟨f - 1, by omega⟩
  obtain rfl : k = n := by omega
  rw [Zi3]
  have hstep : ∀ x, ZbQ L k c N (opn L k) k = x → Zbj L k c N (.h1m1 (opn L k) k) = x := fun x h => h
  by_cases h0 : (opn L k).length = 0
  ·rw [if_pos h0]
   refine (Zau (y := .h2m0 0) (hstep _ ?_)).trans (Zwb hn hL hN (Zsv (by omega) ha) k 0 f (by omega) (by omega))
   unfold ZbQ
   exact Z1 (by omega) (Z1 (by omega) rfl)
  ·rw [if_neg h0]
   refine Za3 (hstep _ ?_)
   unfold ZbQ
   exact Z1 (by omega) (Zj (by omega) rfl)
 | succ d ih =>
  intro k f hk hf ha
  obtain ⟨f, rfl⟩ : ∃ j, f = j + 1 := ⟨f - 1, by omega⟩
  have hstep : ∀ x, ZbQ L n c N (opn L k) k = x → Zbj L n c N (.h1m1 (opn L k) k) = x := fun x h => h
  obtain ⟨r, s1, s2, s3⟩ := Zwa (opn L k) (L.getD k R_iiii.z).a0 (L.getD k R_iiii.z).a1 (L.getD k R_iiii.z).a2 (L.getD k R_iiii.z).a3 k N (Zjo L k)
  obtain ⟨-, f2, -⟩ := ZhY (L.getD k R_iiii.z) (show 4 ≤ N by omega)
  by_cases hok : okB L N k = true
  ·obtain ⟨o1, o2⟩ := Zi4 hok
   rw [Zgm hok]
   refine (Zau (y := .h1m1 (opn L (k + 1)) (k + 1)) (hstep _ ?_)).trans (ih (k + 1) f (by omega) (by omega) (Zgn ha hok))
   have hs : opn L (k + 1) = outL (opn L k) r := s2.symm
   rw [hs]
   unfold ZbQ
   refine Zj (by omega) (Zj (by omega) (Zu s1 ?_))
   rw [o1] at f2
   rw [o2] at s3
   cases r with
   | r0 b => exact Zu f2 (Z1 (by decide) (Z1 (fun h => h s3) (Zj (by omega) rfl)))
   | r1 l => exact Zu f2 (Z1 (by decide) (Zj (by omega) rfl))
   | r2 => exact Zu f2 (Z1 (by decide) (Zj (by omega) rfl))
  ·rw [Zk4 hok]
   refine Za3 (hstep _ ?_)
   unfold ZbQ
   refine Zj (by omega) (Zj (by omega) (Zu s1 ?_))
   unfold okB at hok
   rw [Bool.and_eq_true] at hok
   cases r with
   | r0 b => exact Zu f2 (Zeg (fun _ => rfl) (fun h => Zj (fun e => hok ⟨Decidable.not_not.1 h, s3.symm.trans e⟩) rfl))
   | r1 l => exact Zu f2 (Zj (fun h => hok ⟨h, s3.symm⟩) rfl)
   | r2 => exact Zu f2 (Zj (fun h => hok ⟨h, s3.symm⟩) rfl)
theorem ZwD (hn : n ≤ L.length) (hL : n ≤ 512) (hN : 520 ≤ N) : ∀ d k f, k + d = n → d + n + 2 ≤ f → (∀ j, j < k → okB L N j = true) → opn L k = [] →
  Zcn (Zbj L n c N) f (.h1m0 k) = some (.r0 (Zf7 L n N d k).1) := by
 intro d
 induction d with
 | zero =>
  intro k f hk hf ha h0
  obtain ⟨f, rfl⟩ : ∃ j, f = j + 1 := ⟨f - 1, by omega⟩
  obtain rfl : k = n := by omega
  have hstep : ∀ x, Zb7 L k c N k = x → Zbj L k c N (.h1m0 k) = x := fun x h => h
  rw [Zi3, if_pos (by rw [h0]; rfl)]
  refine (Zau (y := .h2m0 0) (hstep _ ?_)).trans (Zwb hn hL hN (Zsv (by omega) ha) k 0 f (by omega) (by omega))
  unfold Zb7
  exact Z1 (by omega) rfl
 | succ d ih =>
  intro k f hk hf ha h0
  obtain ⟨f, rfl⟩ : ∃ j, f = j + 1 := ⟨f - 1, by omega⟩
  have hstep : ∀ x, Zb7 L n c N k = x → Zbj L n c N (.h1m0 k) = x := fun x h => h
  obtain ⟨-, f2, -⟩ := ZhY (L.getD k R_iiii.z) (show 4 ≤ N by omega)
  have s1 := ZvZ (L.getD k R_iiii.z).a0 (L.getD k R_iiii.z).a1 (L.getD k R_iiii.z).a2 (L.getD k R_iiii.z).a3 k N
  by_cases h15 : (L.getD k R_iiii.z).a0 = 15
  ·rw [if_pos h15] at s1
   have hB : ZdK (opn L k) (L.getD k R_iiii.z).a0 = true := by rw [h0, h15]; rfl
   by_cases hf1 : ZeX (L.getD k R_iiii.z) N = true
   ·have hok : okB L N k = true := by unfold okB; rw [hf1, hB]; rfl
    rw [Zgm hok]
    have hs : opn L (k + 1) = [⟨(k : Int), 0⟩] := by rw [opn, h0, h15]; rfl
    refine (Zau (y := .h1m1 (opn L (k + 1)) (k + 1)) (hstep _ ?_)).trans (ZwC hn hL hN d (k + 1) f (by omega) (by omega) (Zgn ha hok))
    rw [hs]
    unfold Zb7
    rw [hf1] at f2
    exact Zj (by omega) (Zj (by omega) (Zu s1 (Zu f2 (Z1 (by decide) (Zj (by omega) rfl)))))
   ·have hok : ¬ okB L N k = true := by unfold okB; rw [Bool.and_eq_true]; exact fun h => hf1 h.1
    rw [Zk4 hok]
    refine Za3 (hstep _ ?_)
    unfold Zb7
    exact Zj (by omega) (Zj (by omega) (Zu s1 (Zu f2 (Zj hf1 rfl))))
  ·rw [if_neg h15] at s1
   by_cases hok : okB L N k = true
   ·obtain ⟨o1, o2⟩ := Zi4 hok
    rw [Zgm hok]
    have hs : opn L (k + 1) = [] := by
     rw [opn, h0]
     unfold Zf6
     rw [if_neg h15]
     by_cases h16 : (L.getD k R_iiii.z).a0 = 16
     ·rw [if_pos h16]; rfl
     ·rw [if_neg h16]; by_cases h17 : (L.getD k R_iiii.z).a0 = 17
      ·rw [if_pos h17]; rfl
      ·rw [if_neg h17]
    refine (Zau (y := .h1m0 (k + 1)) (hstep _ ?_)).trans (ih (k + 1) f (by omega) (by omega) (Zgn ha hok) hs)
    unfold Zb7
    rw [o1] at f2
    rw [h0] at o2
    exact Zj (by omega) (Zj (by omega) (Zu s1 (Zu f2 (Z1 (by decide) (Z1 (fun h => h o2) (Zj (by omega) rfl))))))
   ·rw [Zk4 hok]
    refine Za3 (hstep _ ?_)
    unfold Zb7
    unfold okB at hok
    rw [Bool.and_eq_true, h0] at hok
    exact Zj (by omega) (Zj (by omega) (Zu s1 (Zu f2 (Zeg (fun _ => rfl) (fun h => Zj (fun e => hok ⟨Decidable.not_not.1 h, e⟩) rfl)))))
theorem Zrn {L : List R_iiii} {N : Nat} : ∀ d k {j}, fb L N d k = some j → j < k + d ∧ ¬ okB L N j = true
 | 0, k, j, h => by cases h
 | d + 1, k, j, h => by
  unfold fb at h
  by_cases hk : okB L N k = true
  ·rw [if_pos hk] at h; have := Zrn d (k + 1) h; exact ⟨by omega, this.2⟩
  ·rw [if_neg hk] at h; cases h; exact ⟨by omega, hk⟩
theorem Zus {L : List R_iiii} {N : Nat} : ∀ d k, fb L N d k = none → ∀ j, k ≤ j → j < k + d → okB L N j = true
 | 0, k, h, j, h1, h2 => by omega
 | d + 1, k, h, j, h1, h2 => by
  unfold fb at h
  by_cases hk : okB L N k = true
  ·rw [if_pos hk] at h
   by_cases e : j = k
   ·rw [e]; exact hk
   ·exact Zus d (k + 1) h j (by omega) (by omega)
  ·rw [if_neg hk] at h; cases h
theorem Zut {L : List R_iiii} {n : Nat} : ∀ d k {j}, fj L n d k = some j → j < k + d ∧ ZkR L n j = true
 | 0, k, j, h => by cases h
 | d + 1, k, j, h => by
  unfold fj at h
  by_cases hk : ZkR L n k = true
  ·rw [if_pos hk] at h; cases h; exact ⟨by omega, hk⟩
  ·rw [if_neg hk] at h; have := Zut d (k + 1) h; exact ⟨by omega, this.2⟩
def Zl8 (L : List R_iiii) (n N : Nat) : Int := if n = 0 then 0 else (Zf7 L n N n 0).1
def ZbI (L : List R_iiii) (n N : Nat) : Int := if n = 0 then 120 else (Zf7 L n N n 0).2
theorem Zvu (hn : n ≤ L.length) (hL : n ≤ 512) (hN : 2000 ≤ N) : ZgL L n c N = some (.r0 (Zl8 L n N)) := by
 unfold Zl8 ZgL
 by_cases h : n = 0
 ·rw [if_pos h]
  refine ZhX ?_
  unfold ZeC
  exact Zj (by omega) rfl
 ·rw [if_neg h]
  have hin : ZeC L n c N = some (.inl (.h1m0 0)) := by
   unfold ZeC
   exact Z1 (by omega) (Z1 (by omega) rfl)
  rw [ZfK hin]
  exact ZwD hn hL (by omega) n 0 N (by omega) (by omega) (fun j hj => absurd hj (Nat.not_lt_zero j)) rfl
theorem Zfy (hn : n ≤ L.length) (hL : n ≤ 512) (hN : 2000 ≤ N) : Zdk L n c N = some (.r0 (ZbI L n N)) := by
 unfold Zdk
 refine Zu (Zvu hn hL hN) ?_
 show (if Zl8 L n N < 0 then _ else _) = _
 unfold Zl8 ZbI
 by_cases h : n = 0
 ·rw [if_pos h, if_pos h]
  exact Z1 (by decide) (Z1 (by omega) rfl)
 ·rw [if_neg h, if_neg h]
  unfold Zf7
  cases hfb : fb L N n 0 with
  | some j =>
   obtain ⟨j1, j2⟩ := Zrn n 0 hfb
   dsimp only
   refine Z1 (by omega) (Zj (by omega) (Zj (by omega) (Zj (by omega) ?_)))
   rw [Int.toNat_natCast]
   obtain ⟨-, -, -, -, f15⟩ := ZhY (L.getD j R_iiii.z) (show 4 ≤ N by omega)
   show _ = some (ref12_CheckR.r0 (Zef (opn L j) (L.getD j R_iiii.z) N))
   unfold Zef
   unfold okB at j2
   rw [if_neg j2]
   by_cases e : (L.getD j R_iiii.z).a0 = 15
   ·have := f15 e
    by_cases e2 : ZeX (L.getD j R_iiii.z) N = true
    ·rw [if_pos ⟨e, this.1 e2⟩, if_pos ⟨e, e2⟩]
    ·rw [if_neg (fun h => e2 (this.2 h.2)), if_neg (fun h => e2 h.2)]
   ·rw [if_neg (fun h => e h.1), if_neg (fun h => e h.1)]
  | none =>
   dsimp only
   by_cases h0 : (opn L n).length = 0
   ·simp only [if_pos h0]
    cases hfj : fj L n n 0 with
    | none => rfl
    | some j =>
     dsimp only
     obtain ⟨j1, j2⟩ := Zut n 0 hfj
     refine Z1 (by omega) (Zj (by omega) (Zj (by omega) (Zj (by omega) ?_)))
     rw [Int.toNat_natCast]
     rw [ZhZ, Bool.and_eq_true] at j2
     have := of_decide_eq_true j2.1
     exact Z1 (by omega) rfl
   ·simp only [if_neg h0]
    exact Z1 (by omega) (Z1 (by omega) rfl)
theorem ZlX (hn : n ≤ L.length) (hL : n ≤ 512) (hN : 520 ≤ N) : ∃ r, ZbP L n c N = some r ∧ rW r = Zl8 L n N ∧ rE r = ZbI L n N ∧ (ZbI L n N = 0 → rB r = brs L n ++ [⟨-1, 0⟩] ∧ rM r = mtL L n ∧ rD r = blL L n ∧ rd r = dpL L n) := by
 by_cases h : n = 0
 ·subst h
  refine ⟨_, ZwB, rfl, rfl, fun e => ?_⟩
  unfold ZbI at e; rw [if_pos rfl] at e; cases e
 ·obtain ⟨r, h1, h2, h3, h4⟩ := Zws (c := c) (show 1 ≤ n by omega) hn hL hN
  refine ⟨r, h1, ?_⟩
  unfold Zl8 ZbI
  rw [if_neg h, if_neg h]
  exact ⟨h2, h3, h4⟩
theorem Zi5 (h : ZbI L n N = 0) : 1 ≤ n ∧ (∀ j, j < n → okB L N j = true) ∧ opn L n = [] ∧ fj L n n 0 = none := by
 unfold ZbI at h
 by_cases h0 : n = 0
 ·rw [if_pos h0] at h; cases h
 ·rw [if_neg h0] at h
  unfold Zf7 at h
  cases hfb : fb L N n 0 with
  | some j =>
   rw [hfb] at h
   obtain ⟨j1, j2⟩ := Zrn n 0 hfb
   exact absurd h (Zov j2)
  | none =>
   rw [hfb] at h
   by_cases e : (opn L n).length = 0
   ·have h : (if (opn L n).length = 0 then (match fj L n n 0 with
     | some j => ((j : Int), (120 : Int))
     | none => (-1, 0)) else ((n : Int), 120)).2 = 0 := h
    rw [if_pos e] at h
    cases hfj : fj L n n 0 with
    | some j => rw [hfj] at h; cases h
    | none => exact ⟨by omega, fun j hj => Zus n 0 hfb j (by omega) (by omega), List.length_eq_zero_iff.1 e, rfl⟩
   ·have h : (if (opn L n).length = 0 then (match fj L n n 0 with
     | some j => ((j : Int), (120 : Int))
     | none => (-1, 0)) else ((n : Int), 120)).2 = 0 := h
    rw [if_neg e] at h; cases h
end
end Ev
end Go.Proofs.Ytpgbennpiihajaa
