/- The look of a program of one's own: plain. -/
import Derived.Test.YtpgbennpiihajaaKjh
namespace Go.Proofs.Ytpgbennpiihajaa
open Go.RowKit
namespace Ev
set_option linter.unusedVariables false
set_option linter.unusedSimpArgs false
theorem idp {α : Type} {a b : α} (h : a = b) : a = b := h
section
variable {L : List R_iiii} {n c N : Nat} {s l B : List R_ii} {M D : List Int} {d w e : Int} {k : Nat}
theorem ZqO (x : R_iiii) (hr : Rel s l) (hb : l.length ≤ 8) (hN : 4 ≤ N) : ZbP x.a0 x.a1 x.a2 x.a3 s L B M D d w e N = some (.r0 (Zbv l x N)) := by
 obtain ⟨h1, h2, h3⟩ := Zhi x hN
 unfold ZbP Zbv ZcI
 generalize Z2 x.a0 x.a1 x.a2 x.a3 N = q at h1 ⊢
 subst h1
 generalize Zcm x N = b
 clear h2 h3
 generalize x.a0 = op
 have hl := hr.1
 have c8 : ((8 : Int) ≤ (s.length : Int)) ↔ 8 ≤ l.length := by omega
 have c0 : ((s.length : Int) = 0) ↔ l.length = 0 := by omega
 have cp : ((0 : Int) < (s.length : Int)) ↔ 0 < l.length := by omega
 have cm : ((s.length : Int) - 1 ≤ 9223372036854775807) ↔ True := by constructor <;> intro _ <;> first | trivial | omega
 simp only [c8, c0, cp, cm, Option.bind_some, if_true]
 by_cases h15 : op = 15
 ·subst h15
  by_cases h8 : 8 ≤ l.length
  ·have h9 : ¬ l.length < 8 := by omega
   cases b <;> simp [h8, h9]
  ·have h9 : l.length < 8 := by omega
   cases b <;> simp [h8, h9]
 ·by_cases h16 : op = 16
  ·subst h16
   by_cases h0 : l.length = 0
   ·simp [h0]
   ·have ct : (0 ≤ (s.getD (s.length - 1) R_ii.z).a1) ↔ (ZaJ l).a1 = 1 := by
     rw [hl]; exact (hr.2 (l.length - 1) (by omega)).2.1
    simp only [ct]
    by_cases h1 : (ZaJ l).a1 = 1 <;> cases b <;> simp [h0, h1]
  ·by_cases h17 : op = 17
   ·subst h17
    by_cases h0 : l.length = 0
    ·simp [h0]
    ·have h9 : 0 < l.length := by omega
     cases b <;> simp [h0, h9]
   ·by_cases h18 : op = 18
    ·subst h18
     by_cases h0 : l.length = 0
     ·simp [h0]
     ·have h9 : 0 < l.length := by omega
      cases b <;> simp [h0, h9]
    ·by_cases h20 : op = 20
     ·subst h20
      by_cases h0 : l.length = 0
      ·cases b <;> simp [h0]
      ·have h9 : 0 < l.length := by omega
       cases b <;> simp [h0, h9]
     ·cases b <;> simp [h15, h16, h17, h18, h20]
theorem ZsY : Zbg s L B M D d w e N = if (s.length : Int) - 1 ≤ 9223372036854775807 then some (.r0 (arP s).a0 (arP s).a1) else Zbg s L B M D d w e N := by
 by_cases h : (s.length : Int) - 1 ≤ 9223372036854775807
 ·rw [if_pos h]
  unfold Zbg arP ZaJ
  by_cases h0 : s.length = 0
  ·rw [if_pos (by omega), if_pos h0]
  ·rw [if_neg (by omega), if_neg h0, if_pos h]
   by_cases h1 : (0 : Int) ≤ (s.getD (s.length - 1) R_ii.z).a1
   ·rw [if_pos h1, if_pos h1]
   ·rw [if_neg h1, if_neg h1]
 ·rw [if_neg h]
theorem Zt6 (hs : s.length ≤ 1000) : Zbg s L B M D d w e N = some (.r0 (arP s).a0 (arP s).a1) := by
 rw [ZsY, if_pos (by omega)]
def ZqP (s B : List R_ii) (M D : List Int) (d : Int) (op : Int) (k : Nat) : Zam :=
 if op = 15 then if s.length = 0 then .r0 (B ++ [arP s]) else .r1 (stk s op k) (B ++ [arP s]) (mtk M s op k) (dpk d s op)
 else if op = 17 then .r1 (stk s op k) (B ++ [arP s]) (mtk M s op k) d else .r2 (stk s op k) (B ++ [arP s]) (mtk M s op k)
theorem ZsZ {op : Int} (hk : k < 512) (hr : Rel s l) (hl8 : l.length ≤ 8) (hb : Bd s k) (hB : B.length = k) (hM : M.length = k) (hD : D.length ≤ k) (ho : ZcI l op = true) :
  Zbz (k : Int) op s L B M D d w e N = some (ZqP s B M D d op k) := by
 have hsl := hr.1
 have ht : ((s.length : Int) - 1).toNat = s.length - 1 := by omega
 have hat : ((k : Int)).toNat = k := Int.toNat_natCast k
 unfold Zbz
 refine Z9 (Zt6 (by omega)) (Zl (by omega) (Zl (by omega) ?_))
 unfold ZqP
 by_cases h15 : op = 15
 ·rw [if_pos h15, if_pos h15]
  by_cases h0 : s.length = 0
  ·rw [if_pos h0]
   exact Zl (by omega) (Zl (by omega) rfl)
  ·rw [if_neg h0]
   have e1 : stk s op k = s ++ [⟨(k : Int), -1⟩] := if_pos h15
   have e2 : mtk M s op k = M ++ [-1] := by unfold mtk; rw [if_neg (by omega), if_neg (by omega)]
   have e3 : dpk d s op = (if ((s.length + 1 : Nat) : Int) > d then ((s.length + 1 : Nat) : Int) else d) := if_pos h15
   rw [e1, e2, e3]
   exact Zae (by omega) (Zl (by omega) rfl)
 ·rw [if_neg h15, if_neg h15]
  by_cases h16 : op = 16
  ·have hp := ZmT ho (.inl h16)
   obtain ⟨b1, b2, b3⟩ := hb (s.length - 1) (by omega)
   have e1 : stk s op k = s.set (s.length - 1) ⟨(ZaJ s).a0, (k : Int)⟩ := by unfold stk; rw [if_neg h15, if_pos h16]
   have e2 : mtk M s op k = (M ++ [-1]).set (ZaJ s).a0.toNat k := if_pos h16
   have h17 : ¬ op = 17 := by omega
   rw [if_pos h16, if_neg h17, ht, e1, e2]
   exact Zl (by omega) (Zl (by omega) (Zl b1 (Zl (by omega) rfl)))
  ·rw [if_neg h16]
   by_cases h17 : op = 17
   ·have hp := ZmT ho (.inr h17)
    obtain ⟨b1, b2, b3⟩ := hb (s.length - 1) (by omega)
    rw [if_pos h17, if_pos h17, ht, hat]
    have e1 : stk s op k = s.take (s.length - 1) := by unfold stk; rw [if_neg h15, if_neg h16, if_pos h17]
    have e2 : mtk M s op k = ((M ++ [-1]).set (if 0 ≤ (ZaJ s).a1 then (ZaJ s).a1 else (ZaJ s).a0).toNat k).set k (ZaJ s).a0 := by unfold mtk; rw [if_neg h16, if_pos h17]
    rw [e1, e2]
    by_cases h1 : (0 : Int) ≤ (s.getD (s.length - 1) R_ii.z).a1
    ·rw [show ZaJ s = s.getD (s.length - 1) R_ii.z from rfl, if_pos h1, if_pos h1]
     refine Zl (by omega) (Zl (by omega) (Zl (by omega) (Zl (by omega) (Zl (by omega) (Z9 (a := .r0) ?_ rfl)))))
     unfold ZbL
     exact Zl (by omega) (Zl (by omega) rfl)
    ·rw [show ZaJ s = s.getD (s.length - 1) R_ii.z from rfl, if_neg h1, if_neg h1]
     refine Zl (by omega) (Zl (by omega) (Zl b1 (Zl (by omega) (Zl (by omega) (Zl (by omega) (Z9 (a := .r0) ?_ rfl))))))
     unfold ZbL
     exact Zl (by omega) (Zl (by omega) rfl)
   ·rw [if_neg h17, if_neg h17]
    have e1 : stk s op k = s := by unfold stk; rw [if_neg h15, if_neg h16, if_neg h17]
    have e2 : mtk M s op k = M ++ [-1] := by unfold mtk; rw [if_neg h16, if_neg h17]
    rw [e1, e2]
theorem Zta (hk : k < n) (hn : n = L.length) (hL : n ≤ 512) (hN : 4 ≤ N) (hr : Rel s l) (hl8 : l.length ≤ 8) (hb : Bd s k) (hB : B.length = k) (hM : M.length = k) (hD : D.length ≤ k)
  (hf : Zcm (L.getD k R_iiii.z) N = true) (ho : ZcI l (L.getD k R_iiii.z).a0 = true) :
  Zbe L N k s B M D d = some (.inl (.h1m1 (k + 1) (stk s (L.getD k R_iiii.z).a0 k) (B ++ [arP s]) (mtk M s (L.getD k R_iiii.z).a0 k) (blk D s (L.getD k R_iiii.z).a0 k) (dpk d s (L.getD k R_iiii.z).a0))) := by
 unfold Zbe
 try rw [← hn]
 have he : Zbv l (L.getD k R_iiii.z) N = 0 := by unfold Zbv; rw [hf, ho]; rfl
 refine Zl (by omega) (idp (Z9 (ZqO (L.getD k R_iiii.z) hr hl8 hN) (Zae (by rw [he]; decide) (Z9 (ZsZ (by omega) hr hl8 hb hB hM hD ho) ?_))))
 generalize (L.getD k R_iiii.z).a0 = op at ho ⊢
 unfold ZqP
 by_cases h15 : op = 15
 ·rw [if_pos h15]
  by_cases h0 : s.length = 0
  ·rw [if_pos h0]
   have e1 : stk s op k = s ++ [⟨(k : Int), -1⟩] := if_pos h15
   have e2 : mtk M s op k = M ++ [-1] := by unfold mtk; rw [if_neg (by omega), if_neg (by omega)]
   have e3 : dpk d s op = (if ((s.length + 1 : Nat) : Int) > d then ((s.length + 1 : Nat) : Int) else d) := if_pos h15
   have e4 : blk D s op k = D ++ [(k : Int)] := by unfold blk; rw [if_pos h15, if_pos h0]
   rw [e1, e2, e3, e4]
   exact Zl (by omega) rfl
  ·rw [if_neg h0]
   have : blk D s op k = D := by unfold blk; rw [if_pos h15, if_neg h0]
   rw [this]
   exact Zl (by omega) rfl
 ·rw [if_neg h15]
  have h1 : blk D s op k = D := by unfold blk; rw [if_neg h15]
  have h2 : dpk d s op = d := by unfold dpk; rw [if_neg h15]
  rw [h1, h2]
  by_cases h17 : op = 17
  ·rw [if_pos h17]; exact Zl (by omega) rfl
  ·rw [if_neg h17]; exact Zl (by omega) rfl
theorem Ztb (hk : k < n) (hn : n = L.length) (hN : 4 ≤ N) (hr : Rel s l) (hl8 : l.length ≤ 8) (h : Zbv l (L.getD k R_iiii.z) N ≠ 0) :
  Zbe L N k s B M D d = some (.inr (.r2 s B M D d (k : Int) (Zbv l (L.getD k R_iiii.z) N))) := by
 unfold Zbe
 try rw [← hn]
 exact Zl (by omega) (idp (Z9 (ZqO (L.getD k R_iiii.z) hr hl8 hN) (Zl h rfl)))
end
section
variable {L : List R_iiii} {n c N : Nat} {s B : List R_ii} {M D : List Int} {d_ : Int}
def rWo : ZI → Int
 | .r0 _ => 0
 | .r1 w _ => w
 | .r2 _ _ _ _ _ w _ => w
 | .r3 _ _ w _ => w
def rEo : ZI → Int
 | .r0 e => e
 | .r1 _ e => e
 | .r2 _ _ _ _ _ _ e => e
 | .r3 _ _ _ e => e
def rBo : ZI → List R_ii
 | .r2 _ b _ _ _ _ _ => b
 | .r3 b _ _ _ => b
 | _ => []
def rMo : ZI → List Int
 | .r2 _ _ m _ _ _ _ => m
 | .r3 _ m _ _ => m
 | _ => []
def rDo : ZI → List Int
 | .r2 _ _ _ d _ _ _ => d
 | _ => []
def rdo : ZI → Int
 | .r2 _ _ _ _ d _ _ => d
 | _ => 0
def Ze1 (L : List R_iiii) (n N d k : Nat) (r : ZI) : Prop := rWo r = (Zed L n N d k).1 ∧ rEo r = (Zed L n N d k).2 ∧
 ((Zed L n N d k).2 = 0 → rBo r = brs L n ++ [⟨-1, 0⟩] ∧ rMo r = mtL L n ∧ rDo r = blL L n ∧ rdo r = dpL L n)
theorem Zse (hn : n = L.length) (hL : n ≤ 512) (hj : JF L n) (hB : B.length = n + 1) (hg : ∀ j, j ≤ n → B.getD j R_ii.z = brP (opn L j)) : ∀ d k f, k + d = n → d < f →
  Zds (Zcz L B M d_ (-1) 0 N) f (.h1m0 k) = some (.r0 (Zbm L n d k).1 (Zbm L n d k).2) := by
 intro d
 induction d with
 | zero =>
  intro k f hk hf
  obtain ⟨f, rfl⟩ : ∃ j, f = j + 1 := ⟨f - 1, by omega⟩
  refine ZaL ?_
  show ZaV L B M d_ (-1) 0 N k = _
  unfold ZaV
  try rw [← hn]
  exact Zae (by omega) rfl
 | succ d ih =>
  intro k f hk hf
  obtain ⟨f, rfl⟩ : ∃ j, f = j + 1 := ⟨f - 1, by omega⟩
  obtain ⟨j1, j2⟩ := hj k (by omega)
  by_cases hb : Zhj L n k = true
  ·rw [Zir hb]
   refine ZaL ?_
   rw [ZeF, Bool.and_eq_true] at hb
   show ZaV L B M d_ (-1) 0 N k = _
   unfold ZaV
   try rw [← hn]
   refine Zl (by omega) (idp (Z9 (Ze3 _ _) (Zl hb.1 (ZdO (fun _ => rfl) (fun h => Zl j1 (Zl (by omega) (Zl (by omega) (Zl ?_ rfl))))))))
   rw [hg _ (by omega), hg k (by omega)]
   have := hb.2
   unfold jb at this
   rw [decide_eq_false h, Bool.false_or, Bool.not_eq_true', decide_eq_false_iff_not] at this
   exact this
  ·rw [Zju hb]
   refine (Zbx (y := .h1m0 (k + 1)) ?_).trans (ih (k + 1) f (by omega) (by omega))
   rw [ZeF, Bool.and_eq_true] at hb
   show ZaV L B M d_ (-1) 0 N k = _
   unfold ZaV
   try rw [← hn]
   refine Zl (by omega) (idp (Z9 (Ze3 _ _) (ZdO (fun h1 => ?_) (fun h1 => Zl (by omega) rfl))))
   have hb : ¬ jb L n k (tgt (L.getD k R_iiii.z)) = true := fun e => hb ⟨h1, e⟩
   unfold jb at hb
   simp only [Bool.or_eq_true, decide_eq_true_eq, Bool.not_eq_true', decide_eq_false_iff_not, not_or, Decidable.not_not] at hb
   refine Zae hb.1 (Zl j1 (Zl (by omega) (Zl (by omega) (Zae ?_ (Zl (by omega) rfl)))))
   rw [hg _ (by omega), hg k (by omega)]
   exact fun h => h hb.2
theorem Zsf (hn : n = L.length) (hL : n ≤ 512) (hj : JF L n) (hB : B.length = n + 1) (hg : ∀ j, j ≤ n → B.getD j R_ii.z = brP (opn L j)) : ∀ d k f, k + d = n → d < f →
  Zds (Zc0 s L B M D d_ (-1) 0 N) f (.h1m0 k) = some (.r0 (Zbm L n d k).1 (Zbm L n d k).2) := by
 intro d
 induction d with
 | zero =>
  intro k f hk hf
  obtain ⟨f, rfl⟩ : ∃ j, f = j + 1 := ⟨f - 1, by omega⟩
  refine ZaL ?_
  show ZaW s L B M D d_ (-1) 0 N k = _
  unfold ZaW
  try rw [← hn]
  exact Zae (by omega) rfl
 | succ d ih =>
  intro k f hk hf
  obtain ⟨f, rfl⟩ : ∃ j, f = j + 1 := ⟨f - 1, by omega⟩
  obtain ⟨j1, j2⟩ := hj k (by omega)
  by_cases hb : Zhj L n k = true
  ·rw [Zir hb]
   refine ZaL ?_
   rw [ZeF, Bool.and_eq_true] at hb
   show ZaW s L B M D d_ (-1) 0 N k = _
   unfold ZaW
   try rw [← hn]
   refine Zl (by omega) (idp (Z9 (Ze3 _ _) (Zl hb.1 (ZdO (fun _ => rfl) (fun h => Zl j1 (Zl (by omega) (Zl (by omega) (Zl ?_ rfl))))))))
   rw [hg _ (by omega), hg k (by omega)]
   have := hb.2
   unfold jb at this
   rw [decide_eq_false h, Bool.false_or, Bool.not_eq_true', decide_eq_false_iff_not] at this
   exact this
  ·rw [Zju hb]
   refine (Zbx (y := .h1m0 (k + 1)) ?_).trans (ih (k + 1) f (by omega) (by omega))
   rw [ZeF, Bool.and_eq_true] at hb
   show ZaW s L B M D d_ (-1) 0 N k = _
   unfold ZaW
   try rw [← hn]
   refine Zl (by omega) (idp (Z9 (Ze3 _ _) (ZdO (fun h1 => ?_) (fun h1 => Zl (by omega) rfl))))
   have hb : ¬ jb L n k (tgt (L.getD k R_iiii.z)) = true := fun e => hb ⟨h1, e⟩
   unfold jb at hb
   simp only [Bool.or_eq_true, decide_eq_true_eq, Bool.not_eq_true', decide_eq_false_iff_not, not_or, Decidable.not_not] at hb
   refine Zae hb.1 (Zl j1 (Zl (by omega) (Zl (by omega) (Zae ?_ (Zl (by omega) rfl)))))
   rw [hg _ (by omega), hg k (by omega)]
   exact fun h => h hb.2
end
section
variable {L : List R_iiii} {n c N : Nat}
theorem ZnS {d k : Nat} {r : ZI} (h : ¬ okB L N k = true) (h1 : rWo r = (k : Int)) (h2 : rEo r = Zbv (opn L k) (L.getD k R_iiii.z) N) : Ze1 L n N (d + 1) k r := by
 unfold Ze1
 rw [Zpa h]
 exact ⟨h1, h2, fun e => absurd e (Zgx h)⟩
theorem Zn1 (hn : n = L.length) (hL : n ≤ 512) (hN : 520 ≤ N) : ∀ d k f, k + d = n → d < f → (∀ j, j < k → okB L N j = true) →
  ∃ r, Zds (Zbs L N) f (.h1m1 k (skL L k) (brs L k) (mtL L k) (blL L k) (dpL L k)) = some r ∧ Ze1 L n N d k r := by
 intro d
 induction d with
 | zero =>
  intro k f hk hf ha
  obtain ⟨f, rfl⟩ : ∃ j, f = j + 1 := ⟨f - 1, by omega⟩
  obtain rfl : k = n := by omega
  obtain ⟨hr, hb⟩ := inv k ha
  by_cases h0 : (opn L k).length = 0
  ·obtain ⟨g1, g2⟩ := Ziz ha h0
   refine ⟨.r2 (skL L k) (brs L k ++ [⟨-1, 0⟩]) (mtL L k) (blL L k) (dpL L k) (Zbm L k k 0).1 (Zbm L k k 0).2, ZaL ?_, ?_⟩
   ·show Zbe L N k _ _ _ _ _ = _
    unfold Zbe
    try rw [← hn]
    refine Zae (by omega) (Zae (by have := hr.1; omega) (Zl (by rw [Zdo]; omega) (Z9 (a := .r0 (Zbm L k k 0).1 (Zbm L k k 0).2) ?_ rfl)))
    exact Zsf hn hL (Zot (by omega) ha) g1 g2 k 0 N (by omega) (by omega)
   ·unfold Ze1
    rw [Zga, if_pos h0]
    exact ⟨rfl, rfl, fun _ => ⟨rfl, rfl, rfl, rfl⟩⟩
  ·refine ⟨.r2 (skL L k) (brs L k) (mtL L k) (blL L k) (dpL L k) (k : Int) 120, ZaL ?_, ?_⟩
   ·show Zbe L N k _ _ _ _ _ = _
    unfold Zbe
    try rw [← hn]
    exact Zae (by omega) (Zl (by have := hr.1; omega) rfl)
   ·unfold Ze1
    rw [Zga, if_neg h0]
    exact ⟨rfl, rfl, fun e => absurd e (show (120 : Int) ≠ 0 by decide)⟩
 | succ d ih =>
  intro k f hk hf ha
  obtain ⟨f, rfl⟩ : ∃ j, f = j + 1 := ⟨f - 1, by omega⟩
  obtain ⟨hr, hb⟩ := inv k ha
  by_cases hok : okB L N k = true
  ·obtain ⟨o1, o2⟩ := ZhK hok
   obtain ⟨r, h1, h2⟩ := ih (k + 1) f (by omega) (by omega) (Zeb ha hok)
   refine ⟨r, (Zbx ?_).trans h1, ?_⟩
   ·exact Zta (by omega) hn hL (by omega) hr (Zkn L k) hb (Zdo L k) (ZmD L k) (ZmE L k) o1 o2
   ·unfold Ze1 at h2 ⊢; rw [Zea hok]; exact h2
  ·refine ⟨_, ZaL (Ztb (by omega) hn (by omega) hr (Zkn L k) (Zgx hok)), ZnS hok rfl rfl⟩
theorem ZnT (x : R_iiii) {B : List R_ii} {M : List Int} {d w e : Int} (hN : 4 ≤ N) : ZbQ x.a0 x.a1 x.a2 x.a3 L B M d w e N = some (.r0 (Zbv [] x N)) := by
 obtain ⟨h1, h2, h3⟩ := Zhi x hN
 unfold ZbQ Zbv ZcI
 generalize Z2 x.a0 x.a1 x.a2 x.a3 N = q at h1 ⊢
 subst h1
 generalize Zcm x N = b
 clear h2 h3
 generalize x.a0 = op
 by_cases h15 : op = 15
 ·subst h15; cases b <;> simp
 ·by_cases h16 : op = 16
  ·subst h16; cases b <;> simp
  ·by_cases h17 : op = 17
   ·subst h17; cases b <;> simp
   ·by_cases h18 : op = 18
    ·subst h18; cases b <;> simp
    ·by_cases h20 : op = 20
     ·subst h20; cases b <;> simp
     ·cases b <;> simp [h15, h16, h17, h18, h20]
theorem ZnU (x : R_iiii) {d w e : Int} (hN : 4 ≤ N) : ZbO x.a0 x.a1 x.a2 x.a3 L d w e N = some (.r0 (Zbv [] x N)) := by
 obtain ⟨h1, h2, h3⟩ := Zhi x hN
 unfold ZbO Zbv ZcI
 generalize Z2 x.a0 x.a1 x.a2 x.a3 N = q at h1 ⊢
 subst h1
 generalize Zcm x N = b
 clear h2 h3
 generalize x.a0 = op
 by_cases h15 : op = 15
 ·subst h15; cases b <;> simp
 ·by_cases h16 : op = 16
  ·subst h16; cases b <;> simp
  ·by_cases h17 : op = 17
   ·subst h17; cases b <;> simp
   ·by_cases h18 : op = 18
    ·subst h18; cases b <;> simp
    ·by_cases h20 : op = 20
     ·subst h20; cases b <;> simp
     ·cases b <;> simp [h15, h16, h17, h18, h20]
theorem Zrp (hn : n = L.length) (hL : n ≤ 512) (hN : 520 ≤ N) : ∀ d k f, k + d = n → d < f → (∀ j, j < k → okB L N j = true) → Clr L k →
  ∃ r, Zds (Zbs L N) f (.h1m2 k (brs L k) (mtL L k)) = some r ∧ Ze1 L n N d k r := by
 intro d
 induction d with
 | zero =>
  intro k f hk hf ha hc
  obtain ⟨f, rfl⟩ : ∃ j, f = j + 1 := ⟨f - 1, by omega⟩
  obtain rfl : k = n := by omega
  have h0 : (opn L k).length = 0 := by rw [hc.2.1]; rfl
  obtain ⟨g1, g2⟩ := Ziz ha h0
  refine ⟨.r3 (brs L k ++ [⟨-1, 0⟩]) (mtL L k) (Zbm L k k 0).1 (Zbm L k k 0).2, ZaL ?_, ?_⟩
  ·show Zb0 L N k _ _ = _
   unfold Zb0
   try rw [← hn]
   refine Zae (by omega) (Zl (by rw [Zdo]; omega) (Z9 (a := .r0 (Zbm L k k 0).1 (Zbm L k k 0).2) ?_ rfl))
   exact Zse hn hL (Zot (by omega) ha) g1 g2 k 0 N (by omega) (by omega)
  ·unfold Ze1
   rw [Zga, if_pos h0]
   exact ⟨rfl, rfl, fun _ => ⟨rfl, rfl, hc.2.2.1.symm, hc.2.2.2.symm⟩⟩
 | succ d ih =>
  intro k f hk hf ha hc
  obtain ⟨f, rfl⟩ : ∃ j, f = j + 1 := ⟨f - 1, by omega⟩
  have hstep : ∀ x, Zb0 L N k (brs L k) (mtL L k) = x → Zbs L N (.h1m2 k (brs L k) (mtL L k)) = x := fun x h => h
  have hl1 := Zdo L k
  have hl2 := ZmD L k
  by_cases hok : okB L N k = true
  ·obtain ⟨o1, o2⟩ := ZhK hok
   have he : Zbv [] (L.getD k R_iiii.z) N = 0 := by
    have : Zbv (opn L k) (L.getD k R_iiii.z) N = 0 := by unfold Zbv; rw [o1, o2]; rfl
    rw [hc.2.1] at this; exact this
   by_cases h15 : (L.getD k R_iiii.z).a0 = 15
   ·obtain ⟨e1, e2, e3, e4, e5⟩ := Zjv hc h15
    obtain ⟨r, h1, h2⟩ := Zn1 hn hL hN d (k + 1) f (by omega) (by omega) (Zeb ha hok)
    refine ⟨r, (Zbx ?_).trans h1, ?_⟩
    ·refine hstep _ ?_
     unfold Zb0
     try rw [← hn]
     rw [e1, e2, e3, e4, e5]
     refine Zl (by omega) (idp (Z9 (ZnT _ (by omega)) (Zae (by rw [he]; decide) (Z9 (Z9 rfl (Zl (by omega) (Zl (by omega) (Zl h15 rfl)))) (Zl (by omega) rfl)))))
    ·unfold Ze1 at h2 ⊢; rw [Zea hok]; exact h2
   ·obtain ⟨c1, e2, e3, h16, h17⟩ := ZkE hc h15 hok
    obtain ⟨r, h1, h2⟩ := ih (k + 1) f (by omega) (by omega) (Zeb ha hok) c1
    refine ⟨r, (Zbx ?_).trans h1, ?_⟩
    ·refine hstep _ ?_
     unfold Zb0
     try rw [← hn]
     rw [e2, e3]
     refine Zl (by omega) (idp (Z9 (ZnT _ (by omega)) (Zae (by rw [he]; decide) (Z9 (Z9 rfl (Zl (by omega) (Zl (by omega) (Zae h15 (Zae h16 (Zae h17 rfl)))))) (Zl (by omega) rfl)))))
    ·unfold Ze1 at h2 ⊢; rw [Zea hok]; exact h2
  ·have he := Zgx hok
   refine ⟨.r3 (brs L k) (mtL L k) (k : Int) (Zbv (opn L k) (L.getD k R_iiii.z) N), ZaL (hstep _ ?_), ZnS hok rfl rfl⟩
   unfold Zb0
   try rw [← hn]
   rw [hc.2.1] at he ⊢
   exact Zl (by omega) (idp (Z9 (ZnT _ (by omega)) (Zl he rfl)))
theorem Ztc (h1 : 1 ≤ n) (hn : n = L.length) (hL : n ≤ 512) (hN : 520 ≤ N) : ∃ r, ZbE L N = some r ∧ Ze1 L n N n 0 r := by
 obtain ⟨f, rfl⟩ : ∃ j, N = j + 1 := ⟨N - 1, by omega⟩
 obtain ⟨m, rfl⟩ : ∃ m, n = m + 1 := ⟨n - 1, by omega⟩
 have hin : Zei L (f + 1) = some (.inl .h1m0) := by
  unfold Zei
  try rw [← hn]
  exact Zae (by omega) (Zae (by omega) rfl)
 have hc : Clr L 0 := ⟨rfl, rfl, rfl, rfl⟩
 have ha : ∀ j, j < 0 → okB L (f + 1) j = true := fun j hj => absurd hj (Nat.not_lt_zero j)
 have hstep : ∀ x, Zci L (f + 1) = x → Zbs L (f + 1) .h1m0 = x := fun x h => h
 unfold ZbE
 rw [Zos hin]
 by_cases hok : okB L (f + 1) 0 = true
 ·obtain ⟨o1, o2⟩ := ZhK hok
  have he : Zbv [] (L.getD 0 R_iiii.z) (f + 1) = 0 := by
   have : Zbv (opn L 0) (L.getD 0 R_iiii.z) (f + 1) = 0 := by unfold Zbv; rw [o1, o2]; rfl
   exact this
  by_cases h15 : (L.getD 0 R_iiii.z).a0 = 15
  ·obtain ⟨e1, e2, e3, e4, e5⟩ := Zjv hc h15
   obtain ⟨r, h1, h2⟩ := Zn1 hn hL hN m (0 + 1) f (by omega) (by omega) (Zeb ha hok)
   refine ⟨r, (Zbx ?_).trans h1, ?_⟩
   ·refine hstep _ ?_
    unfold Zci
    try rw [← hn]
    rw [e1, e2, e3, e4, e5]
    refine Zl (by omega) (idp (Z9 (ZnU _ (by omega)) (Zae (by rw [he]; decide) (Z9 (Z9 rfl (Zl h15 rfl)) rfl))))
   ·unfold Ze1 at h2 ⊢; rw [Zea hok]; exact h2
  ·obtain ⟨c1, e2, e3, h16, h17⟩ := ZkE hc h15 hok
   obtain ⟨r, h1, h2⟩ := Zrp hn hL hN m (0 + 1) f (by omega) (by omega) (Zeb ha hok) c1
   refine ⟨r, (Zbx ?_).trans h1, ?_⟩
   ·refine hstep _ ?_
    unfold Zci
    try rw [← hn]
    rw [e2, e3]
    refine Zl (by omega) (idp (Z9 (ZnU _ (by omega)) (Zae (by rw [he]; decide) (Z9 (Z9 rfl (Zae h15 (Zae h16 (Zae h17 rfl)))) rfl))))
   ·unfold Ze1 at h2 ⊢; rw [Zea hok]; exact h2
 ·have he := Zgx hok
  refine ⟨.r0 (Zbv (opn L 0) (L.getD 0 R_iiii.z) (f + 1)), ZaL (hstep _ ?_), ZnS hok rfl rfl⟩
  unfold Zci
  try rw [← hn]
  exact Zl (by omega) (idp (Z9 (ZnU _ (by omega)) (Zl he rfl)))
theorem Zt7 {N : Nat} : ZbE [] N = some (.r0 120) := Zkm rfl
end
section
variable {L : List R_iiii} {n c N : Nat}
theorem Zpb (hn : n = L.length) (hL : n ≤ 512) (hN : 520 ≤ N) : ∃ r, ZbE L N = some r ∧ rWo r = Zov L n N ∧ rEo r = Zbj L n N ∧ (Zbj L n N = 0 → rBo r = brs L n ++ [⟨-1, 0⟩] ∧ rMo r = mtL L n ∧ rDo r = blL L n ∧ rdo r = dpL L n) := by
 by_cases h : n = 0
 ·subst h
  obtain rfl := List.length_eq_zero_iff.1 hn.symm
  refine ⟨_, Zt7, rfl, rfl, fun e => ?_⟩
  unfold Zbj at e; rw [if_pos rfl] at e; cases e
 ·obtain ⟨r, h1, h2, h3, h4⟩ := Ztc (show 1 ≤ n by omega) hn hL hN
  refine ⟨r, h1, ?_⟩
  unfold Zov Zbj
  rw [if_neg h, if_neg h]
  exact ⟨h2, h3, h4⟩
theorem Ztd (hn : n = L.length) (hL : n ≤ 512) (hN : 520 ≤ N) : ZdG L N = some (.r0 (Zbj L n N)) := by
 obtain ⟨r, h1, h2, h3, h4⟩ := Zpb hn hL hN
 rw [← h3]
 refine Z9 h1 ?_
 cases r <;> rfl
end
end Ev
end Go.Proofs.Ytpgbennpiihajaa
