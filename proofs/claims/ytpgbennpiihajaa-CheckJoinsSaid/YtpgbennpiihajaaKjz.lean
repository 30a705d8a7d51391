/- The program's scan of a whole program: plain. -/
import Derived.Test.YtpgbennpiihajaaKjy
namespace Go.Proofs.Ytpgbennpiihajaa
open Go.RowKit
namespace Ev
set_option linter.unusedVariables false
set_option linter.unusedSimpArgs false

theorem ZhJ {α : Type} {l : List α} {m j : Nat} {d : α} (h : j < m) : (l.take m).getD j d = l.getD j d := by
 rw [List.getD_eq_getElem?_getD, List.getD_eq_getElem?_getD, List.getElem?_take_of_lt h]
theorem Zt4 {s l : List R_ii} {op : Int} {k : Nat} (hr : Rel s l) (ho : ZcI l op = true) : Rel (stk s op k) (Zhm l op k) := by
 have hl := hr.1
 unfold stk Zhm
 unfold ZcI at ho
 by_cases h15 : op = 15
 ·rw [if_pos h15] at ho
  have ho := of_decide_eq_true ho
  rw [if_pos h15, if_pos h15, if_neg (by omega)]
  refine ⟨by simp [hl], fun j hj => ?_⟩
  have hj : j < l.length + 1 := by simpa using hj
  by_cases e : j < l.length
  ·rw [Zdw (by omega), Zdw e]; exact hr.2 j e
  ·obtain rfl : j = l.length := by omega
   rw [ZfZ, ← hl, ZfZ]
   exact ⟨rfl, ⟨fun h => absurd h (show ¬ (0 : Int) ≤ -1 by decide), fun h => absurd h (show ¬ (0 : Int) = 1 by decide)⟩, .inl rfl⟩
 ·rw [if_neg h15] at ho
  rw [if_neg h15, if_neg h15]
  by_cases h16 : op = 16
  ·rw [if_pos h16] at ho
   rw [if_pos h16, if_pos h16]
   by_cases h0 : l.length = 0
   ·rw [if_pos h0] at ho; cases ho
   ·rw [if_neg h0] at ho
    by_cases h1 : (ZaJ l).a1 = 1
    ·rw [if_pos h1] at ho; cases ho
    ·rw [if_neg h0, if_neg h1]
     refine ⟨by simp [hl]; omega, fun j hj => ?_⟩
     have hj : j < l.length := by simp at hj; omega
     rw [ZqM (by omega)]
     by_cases e : j = s.length - 1
     ·rw [if_pos e]
      have e2 : j = (l.take (l.length - 1)).length := by simp; omega
      have e3 : (l.take (l.length - 1) ++ [(⟨(ZaJ l).a0, 1⟩ : R_ii)]).getD j R_ii.z = ⟨(ZaJ l).a0, 1⟩ := by rw [e2, ZfZ]
      rw [e3]
      refine ⟨?_, ⟨fun _ => rfl, fun _ => Int.natCast_nonneg k⟩, .inr rfl⟩
      unfold ZaJ
      rw [hl]; exact (hr.2 (l.length - 1) (by omega)).1
     ·rw [if_neg e, Zdw (by simp; omega), ZhJ (by omega)]
      exact hr.2 j hj
  ·rw [if_neg h16] at ho
   rw [if_neg h16, if_neg h16]
   by_cases h17 : op = 17
   ·rw [if_pos h17, if_pos h17]
    refine ⟨by simp [hl], fun j hj => ?_⟩
    have hj : j < l.length - 1 := by simp at hj; omega
    rw [ZhJ (by omega), ZhJ hj]
    exact hr.2 j (by omega)
   ·rw [if_neg h17, if_neg h17]; exact hr
theorem ZtV {s : List R_ii} {op : Int} {k : Nat} (hb : Bd s k) (hs : op = 16 → 0 < s.length) : Bd (stk s op k) (k + 1) := by
 have up : Bd s (k + 1) := fun j hj => by obtain ⟨b1, b2, b3⟩ := hb j hj; exact ⟨b1, by omega, by omega⟩
 unfold stk
 by_cases h15 : op = 15
 ·rw [if_pos h15]
  intro j hj
  have hj : j < s.length + 1 := by simpa using hj
  by_cases e : j < s.length
  ·rw [Zdw e]; exact up j e
  ·obtain rfl : j = s.length := by omega
   rw [ZfZ]
   exact ⟨Int.natCast_nonneg k, (show (k : Int) < ((k + 1 : Nat) : Int) by omega), (show (-1 : Int) < ((k + 1 : Nat) : Int) by omega)⟩
 ·rw [if_neg h15]
  by_cases h16 : op = 16
  ·rw [if_pos h16]
   intro j hj
   have hj : j < s.length := by simpa using hj
   rw [ZqM (by omega)]
   by_cases e : j = s.length - 1
   ·rw [if_pos e]
    obtain ⟨b1, b2, b3⟩ := up (s.length - 1) (by omega)
    exact ⟨b1, b2, (show (k : Int) < ((k + 1 : Nat) : Int) by omega)⟩
   ·rw [if_neg e]; exact up j hj
  ·rw [if_neg h16]
   by_cases h17 : op = 17
   ·rw [if_pos h17]
    intro j hj
    have hj : j < s.length - 1 := by simp at hj; omega
    rw [ZhJ hj]; exact up j (by omega)
   ·rw [if_neg h17]; exact up
section
variable (L : List R_iiii)
def skL : Nat → List R_ii
 | 0 => []
 | k + 1 => stk (skL k) (L.getD k R_iiii.z).a0 k
def brs : Nat → List R_ii
 | 0 => []
 | k + 1 => brs k ++ [arP (skL L k)]
def mtL : Nat → List Int
 | 0 => []
 | k + 1 => mtk (mtL k) (skL L k) (L.getD k R_iiii.z).a0 k
def blL : Nat → List Int
 | 0 => []
 | k + 1 => blk (blL k) (skL L k) (L.getD k R_iiii.z).a0 k
def dpL : Nat → Int
 | 0 => 0
 | k + 1 => dpk (dpL k) (skL L k) (L.getD k R_iiii.z).a0
def okB (N k : Nat) : Bool := Zcm (L.getD k R_iiii.z) N && ZcI (opn L k) (L.getD k R_iiii.z).a0
def fb (N : Nat) : Nat → Nat → Option Nat
 | 0, _ => none
 | d + 1, k => if okB L N k = true then fb N d (k + 1) else some k
def jb (n k : Nat) (to : Int) : Bool := decide ((n : Int) < to) || !decide ((brP (opn L to.toNat)).a0 = (brP (opn L k)).a0 ∧ (brP (opn L to.toNat)).a1 = (brP (opn L k)).a1)
def Zhj (n k : Nat) : Bool := if (L.getD k R_iiii.z).a0 = 8 then jb L n k (L.getD k R_iiii.z).a1 else if (L.getD k R_iiii.z).a0 = 9 then jb L n k (L.getD k R_iiii.z).a2 else false
def fj (n : Nat) : Nat → Nat → Option Nat
 | 0, _ => none
 | d + 1, k => if Zhj L n k = true then some k else fj n d (k + 1)
def Zed (n N : Nat) (d k : Nat) : Int × Int := match fb L N d k with
 | some j => ((j : Int), Zbv (opn L j) (L.getD j R_iiii.z) N)
 | none => if (opn L n).length = 0 then (match fj L n n 0 with
  | some j => ((j : Int), 120)
  | none => (-1, 0)) else ((n : Int), 120)
end
theorem ZmD (L : List R_iiii) : ∀ k, (mtL L k).length = k
 | 0 => rfl
 | k + 1 => by
  unfold mtL mtk
  repeat' split
  all_goals simp [ZmD L k]
theorem Zdo (L : List R_iiii) : ∀ k, (brs L k).length = k
 | 0 => rfl
 | k + 1 => by unfold brs; simp [Zdo L k]
theorem ZmE (L : List R_iiii) : ∀ k, (blL L k).length ≤ k
 | 0 => Nat.le_refl _
 | k + 1 => by
  have := ZmE L k
  unfold blL blk
  repeat' split
  all_goals first | omega | (simp; omega)
theorem inv {L : List R_iiii} {N : Nat} : ∀ k, (∀ j, j < k → okB L N j = true) → Rel (skL L k) (opn L k) ∧ Bd (skL L k) k
 | 0, _ => ⟨⟨rfl, fun j hj => absurd hj (Nat.not_lt_zero j)⟩, fun j hj => absurd hj (Nat.not_lt_zero j)⟩
 | k + 1, h => by
  obtain ⟨h1, h2⟩ := inv k fun j hj => h j (by omega)
  have hk := h k (by omega)
  unfold okB at hk
  rw [Bool.and_eq_true] at hk
  refine ⟨Zt4 h1 hk.2, ZtV h2 fun e => ?_⟩
  have := hk.2
  rw [e] at this
  unfold ZcI at this
  rw [if_neg (by decide), if_pos rfl] at this
  rw [h1.1]
  by_cases h0 : (opn L k).length = 0
  ·rw [if_pos h0] at this; cases this
  ·omega
theorem Zr7 {L : List R_iiii} {N : Nat} : ∀ k, (∀ j, j < k → okB L N j = true) → ∀ j, j < k → (brs L k).getD j R_ii.z = brP (opn L j)
 | 0, _, j, hj => absurd hj (Nat.not_lt_zero j)
 | k + 1, h, j, hj => by
  unfold brs
  by_cases e : j < k
  ·rw [Zdw (by rw [Zdo]; exact e)]; exact Zr7 k (fun i hi => h i (by omega)) j e
  ·obtain rfl : j = k := by omega
   have := ZfZ (L := brs L j) (v := arP (skL L j)) (d := R_ii.z)
   rw [Zdo] at this
   rw [this]; exact ar_br (inv j fun i hi => h i (by omega)).1
def rW : ZR → Int
 | .r0 _ => 0
 | .r1 w _ => w
 | .r2 _ _ _ _ _ w _ => w
 | .r3 _ _ w _ => w
def rE : ZR → Int
 | .r0 e => e
 | .r1 _ e => e
 | .r2 _ _ _ _ _ _ e => e
 | .r3 _ _ _ e => e
def rB : ZR → List R_ii
 | .r2 _ b _ _ _ _ _ => b
 | .r3 b _ _ _ => b
 | _ => []
def rM : ZR → List Int
 | .r2 _ _ m _ _ _ _ => m
 | .r3 _ m _ _ => m
 | _ => []
def rD : ZR → List Int
 | .r2 _ _ _ d _ _ _ => d
 | _ => []
def rd : ZR → Int
 | .r2 _ _ _ _ d _ _ => d
 | _ => 0
def Zfo (L : List R_iiii) (n N d k : Nat) (r : ZR) : Prop := rW r = (Zed L n N d k).1 ∧ rE r = (Zed L n N d k).2 ∧
 ((Zed L n N d k).2 = 0 → rB r = brs L n ++ [⟨-1, 0⟩] ∧ rM r = mtL L n ∧ rD r = blL L n ∧ rd r = dpL L n)
def tgt (x : R_iiii) : Int := if x.a0 = 8 then x.a1 else if x.a0 = 9 then x.a2 else 0
def JF (L : List R_iiii) (n : Nat) : Prop := ∀ k, k < n → 0 ≤ tgt (L.getD k R_iiii.z) ∧ tgt (L.getD k R_iiii.z) ≤ 512
theorem Zot {L : List R_iiii} {n N : Nat} (hN : 4 ≤ N) (h : ∀ j, j < n → okB L N j = true) : JF L n := by
 intro k hk
 have := h k hk
 unfold okB at this
 rw [Bool.and_eq_true] at this
 obtain ⟨-, -, f8, f9, -⟩ := Zhi (L.getD k R_iiii.z) hN
 unfold tgt
 by_cases h8 : (L.getD k R_iiii.z).a0 = 8
 ·rw [if_pos h8]; exact f8 h8 this.1
 ·rw [if_neg h8]
  by_cases h9 : (L.getD k R_iiii.z).a0 = 9
  ·rw [if_pos h9]; exact f9 h9 this.1
  ·rw [if_neg h9]; omega
theorem Ze3 (x : R_iiii) (N : Nat) : ZbC x.a0 x.a1 x.a2 x.a3 N = some (.r0 (tgt x) (decide (x.a0 = 8 ∨ x.a0 = 9))) := by
 unfold ZbC tgt
 by_cases h8 : x.a0 = 8
 ·rw [if_pos h8, if_pos h8]; simp [h8]
 ·rw [if_neg h8, if_neg h8]
  by_cases h9 : x.a0 = 9
  ·rw [if_pos h9, if_pos h9]; simp [h9]
  ·rw [if_neg h9, if_neg h9]; simp [h8, h9]
theorem Zsc (x : R_iiii) (N : Nat) : ZdA x.a0 x.a1 x.a2 x.a3 N = some (.r0 (tgt x) (decide (x.a0 = 8 ∨ x.a0 = 9))) := by
 unfold ZdA tgt
 by_cases h8 : x.a0 = 8
 ·rw [if_pos h8, if_pos h8]; simp [h8]
 ·rw [if_neg h8, if_neg h8]
  by_cases h9 : x.a0 = 9
  ·rw [if_pos h9, if_pos h9]; simp [h9]
  ·rw [if_neg h9, if_neg h9]; simp [h8, h9]
theorem ZeF (L : List R_iiii) (n k : Nat) : Zhj L n k = (decide ((L.getD k R_iiii.z).a0 = 8 ∨ (L.getD k R_iiii.z).a0 = 9) && jb L n k (tgt (L.getD k R_iiii.z))) := by
 unfold Zhj tgt
 by_cases h8 : (L.getD k R_iiii.z).a0 = 8
 ·rw [if_pos h8, if_pos h8, decide_eq_true (.inl h8), Bool.true_and]
 ·rw [if_neg h8, if_neg h8]
  by_cases h9 : (L.getD k R_iiii.z).a0 = 9
  ·rw [if_pos h9, if_pos h9, decide_eq_true (.inr h9), Bool.true_and]
  ·rw [if_neg h9, if_neg h9, decide_eq_false (fun h => h.elim h8 h9), Bool.false_and]
def Zbm (L : List R_iiii) (n d k : Nat) : Int × Int := match fj L n d k with
 | some j => ((j : Int), 120)
 | none => (-1, 0)
theorem Zir {L : List R_iiii} {n d k : Nat} (h : Zhj L n k = true) : Zbm L n (d + 1) k = ((k : Int), 120) := by unfold Zbm fj; rw [if_pos h]
theorem Zju {L : List R_iiii} {n d k : Nat} (h : ¬ Zhj L n k = true) : Zbm L n (d + 1) k = Zbm L n d (k + 1) := by unfold Zbm; rw [fj, if_neg h]

section
variable {L : List R_iiii} {n c N : Nat} {s B : List R_ii} {M D : List Int} {d_ : Int}
theorem Zs6 (hn : n ≤ L.length) (hL : n ≤ 512) (hj : JF L n) (hB : B.length = n + 1) (hg : ∀ j, j ≤ n → B.getD j R_ii.z = brP (opn L j)) : ∀ d k f, k + d = n → d < f →
  Zds (Zcw L n c B M d_ (-1) 0 N) f (.h1m0 k) = some (.r0 (Zbm L n d k).1 (Zbm L n d k).2) := by
 intro d
 induction d with
 | zero =>
  intro k f hk hf
  obtain ⟨f, rfl⟩ : ∃ j, f = j + 1 := ⟨f - 1, by omega⟩
  refine ZaL ?_
  show ZaT L n c B M d_ (-1) 0 N k = _
  unfold ZaT
  exact Zae (by omega) rfl
 | succ d ih =>
  intro k f hk hf
  obtain ⟨f, rfl⟩ : ∃ j, f = j + 1 := ⟨f - 1, by omega⟩
  obtain ⟨j1, j2⟩ := hj k (by omega)
  by_cases hb : Zhj L n k = true
  ·rw [Zir hb]
   refine ZaL ?_
   rw [ZeF, Bool.and_eq_true] at hb
   show ZaT L n c B M d_ (-1) 0 N k = _
   unfold ZaT
   refine Zl (by omega) (Zl (by omega) (Z9 (Ze3 _ _) (Zl hb.1 (ZdO (fun _ => rfl) (fun h => Zl j1 (Zl (by omega) (Zl (by omega) (Zl ?_ rfl))))))))
   rw [hg _ (by omega), hg k (by omega)]
   have := hb.2
   unfold jb at this
   rw [decide_eq_false h, Bool.false_or, Bool.not_eq_true', decide_eq_false_iff_not] at this
   exact this
  ·rw [Zju hb]
   refine (Zbx (y := .h1m0 (k + 1)) ?_).trans (ih (k + 1) f (by omega) (by omega))
   rw [ZeF, Bool.and_eq_true] at hb
   show ZaT L n c B M d_ (-1) 0 N k = _
   unfold ZaT
   refine Zl (by omega) (Zl (by omega) (Z9 (Ze3 _ _) (ZdO (fun h1 => ?_) (fun h1 => Zl (by omega) rfl))))
   have hb : ¬ jb L n k (tgt (L.getD k R_iiii.z)) = true := fun e => hb ⟨h1, e⟩
   unfold jb at hb
   simp only [Bool.or_eq_true, decide_eq_true_eq, Bool.not_eq_true', decide_eq_false_iff_not, not_or, Decidable.not_not] at hb
   refine Zae hb.1 (Zl j1 (Zl (by omega) (Zl (by omega) (Zae ?_ (Zl (by omega) rfl)))))
   rw [hg _ (by omega), hg k (by omega)]
   exact fun h => h hb.2
end

section
variable {L : List R_iiii} {n c N : Nat} {s B : List R_ii} {M D : List Int} {d_ : Int}
theorem Zs7 (hn : n ≤ L.length) (hL : n ≤ 512) (hj : JF L n) (hB : B.length = n + 1) (hg : ∀ j, j ≤ n → B.getD j R_ii.z = brP (opn L j)) : ∀ d k f, k + d = n → d < f →
  Zds (Zcx s L n c B M D d_ (-1) 0 N) f (.h1m0 k) = some (.r0 (Zbm L n d k).1 (Zbm L n d k).2) := by
 intro d
 induction d with
 | zero =>
  intro k f hk hf
  obtain ⟨f, rfl⟩ : ∃ j, f = j + 1 := ⟨f - 1, by omega⟩
  refine ZaL ?_
  show ZaU s L n c B M D d_ (-1) 0 N k = _
  unfold ZaU
  exact Zae (by omega) rfl
 | succ d ih =>
  intro k f hk hf
  obtain ⟨f, rfl⟩ : ∃ j, f = j + 1 := ⟨f - 1, by omega⟩
  obtain ⟨j1, j2⟩ := hj k (by omega)
  by_cases hb : Zhj L n k = true
  ·rw [Zir hb]
   refine ZaL ?_
   rw [ZeF, Bool.and_eq_true] at hb
   show ZaU s L n c B M D d_ (-1) 0 N k = _
   unfold ZaU
   refine Zl (by omega) (Zl (by omega) (Z9 (Ze3 _ _) (Zl hb.1 (ZdO (fun _ => rfl) (fun h => Zl j1 (Zl (by omega) (Zl (by omega) (Zl ?_ rfl))))))))
   rw [hg _ (by omega), hg k (by omega)]
   have := hb.2
   unfold jb at this
   rw [decide_eq_false h, Bool.false_or, Bool.not_eq_true', decide_eq_false_iff_not] at this
   exact this
  ·rw [Zju hb]
   refine (Zbx (y := .h1m0 (k + 1)) ?_).trans (ih (k + 1) f (by omega) (by omega))
   rw [ZeF, Bool.and_eq_true] at hb
   show ZaU s L n c B M D d_ (-1) 0 N k = _
   unfold ZaU
   refine Zl (by omega) (Zl (by omega) (Z9 (Ze3 _ _) (ZdO (fun h1 => ?_) (fun h1 => Zl (by omega) rfl))))
   have hb : ¬ jb L n k (tgt (L.getD k R_iiii.z)) = true := fun e => hb ⟨h1, e⟩
   unfold jb at hb
   simp only [Bool.or_eq_true, decide_eq_true_eq, Bool.not_eq_true', decide_eq_false_iff_not, not_or, Decidable.not_not] at hb
   refine Zae hb.1 (Zl j1 (Zl (by omega) (Zl (by omega) (Zae ?_ (Zl (by omega) rfl)))))
   rw [hg _ (by omega), hg k (by omega)]
   exact fun h => h hb.2
end
end Ev
end Go.Proofs.Ytpgbennpiihajaa
