/- The program's scan of a whole program: plain. -/
import Derived.Test.YtpgbennpiihajaaKmy
namespace Go.Proofs.Ytpgbennpiihajaa
open Go.RowKit
namespace Ev
set_option linter.unusedVariables false
set_option linter.unusedSimpArgs false

theorem Zi1 {α : Type} {l : List α} {m j : Nat} {d : α} (h : j < m) : (l.take m).getD j d = l.getD j d := by
 rw [List.getD_eq_getElem?_getD, List.getD_eq_getElem?_getD, List.getElem?_take_of_lt h]
theorem Zwr {s l : List R_ii} {op : Int} {k : Nat} (hr : Rel s l) (ho : ZdK l op = true) : Rel (stk s op k) (Zf6 l op k) := by
 have hl := hr.1
 unfold stk Zf6
 unfold ZdK at ho
 by_cases h15 : op = 15
 ·rw [if_pos h15] at ho
  have ho := of_decide_eq_true ho
  rw [if_pos h15, if_pos h15, if_neg (by omega)]
  refine ⟨by simp [hl], fun j hj => ?_⟩
  have hj : j < l.length + 1 := by simpa using hj
  by_cases e : j < l.length
  ·rw [ZdB (by omega), ZdB e]; exact hr.2 j e
  ·obtain rfl : j = l.length := by omega
   rw [Zfx, ← hl, Zfx]
   exact ⟨rfl, ⟨fun h => absurd h (show ¬ (0 : Int) ≤ -1 by decide), fun h => absurd h (show ¬ (0 : Int) = 1 by decide)⟩, .inl rfl⟩
 ·rw [if_neg h15] at ho
  rw [if_neg h15, if_neg h15]
  by_cases h16 : op = 16
  ·rw [if_pos h16] at ho
   rw [if_pos h16, if_pos h16]
   by_cases h0 : l.length = 0
   ·rw [if_pos h0] at ho; cases ho
   ·rw [if_neg h0] at ho
    by_cases h1 : (Zbn l).a1 = 1
    ·rw [if_pos h1] at ho; cases ho
    ·rw [if_neg h0, if_neg h1]
     refine ⟨by simp [hl]; omega, fun j hj => ?_⟩
     have hj : j < l.length := by simp at hj; omega
     rw [Zt4 (by omega)]
     by_cases e : j = s.length - 1
     ·rw [if_pos e]
      have e2 : j = (l.take (l.length - 1)).length := by simp; omega
      have e3 : (l.take (l.length - 1) ++ [(⟨(Zbn l).a0, 1⟩ : R_ii)]).getD j R_ii.z = ⟨(Zbn l).a0, 1⟩ := by rw [e2, Zfx]
      rw [e3]
      refine ⟨?_, ⟨fun _ => rfl, fun _ => Int.natCast_nonneg k⟩, .inr rfl⟩
      unfold Zbn
      rw [hl]; exact (hr.2 (l.length - 1) (by omega)).1
     ·rw [if_neg e, ZdB (by simp; omega), Zi1 (by omega)]
      exact hr.2 j hj
  ·rw [if_neg h16] at ho
   rw [if_neg h16, if_neg h16]
   by_cases h17 : op = 17
   ·rw [if_pos h17, if_pos h17]
    refine ⟨by simp [hl], fun j hj => ?_⟩
    have hj : j < l.length - 1 := by simp at hj; omega
    rw [Zi1 (by omega), Zi1 hj]
    exact hr.2 j (by omega)
   ·rw [if_neg h17, if_neg h17]; exact hr
theorem ZwA {s : List R_ii} {op : Int} {k : Nat} (hb : Bd s k) (hs : op = 16 → 0 < s.length) : Bd (stk s op k) (k + 1) := by
 have up : Bd s (k + 1) := fun j hj => by obtain ⟨b1, b2, b3⟩ := hb j hj; exact ⟨b1, by omega, by omega⟩
 unfold stk
 by_cases h15 : op = 15
 ·rw [if_pos h15]
  intro j hj
  have hj : j < s.length + 1 := by simpa using hj
  by_cases e : j < s.length
  ·rw [ZdB e]; exact up j e
  ·obtain rfl : j = s.length := by omega
   rw [Zfx]
   exact ⟨Int.natCast_nonneg k, (show (k : Int) < ((k + 1 : Nat) : Int) by omega), (show (-1 : Int) < ((k + 1 : Nat) : Int) by omega)⟩
 ·rw [if_neg h15]
  by_cases h16 : op = 16
  ·rw [if_pos h16]
   intro j hj
   have hj : j < s.length := by simpa using hj
   rw [Zt4 (by omega)]
   by_cases e : j = s.length - 1
   ·rw [if_pos e]
    obtain ⟨b1, b2, b3⟩ := up (s.length - 1) (by omega)
    exact ⟨b1, b2, (show (k : Int) < ((k + 1 : Nat) : Int) by omega)⟩
   ·rw [if_neg e]; exact up j hj
  ·rw [if_neg h16]
   by_cases h17 : op = 17
   ·rw [if_pos h17]
    intro j hj
    have hj : j < s.length - 1 := by simp at hj; omega
    rw [Zi1 hj]; exact up j (by omega)
   ·rw [if_neg h17]; exact up
section
variable (L : List R_iiii)
def skL : Nat → List R_ii
 | 0 => []
 | k + 1 => stk (skL k) (L.getD k R_iiii.z).a0 k
def brs : Nat → List R_ii
 | 0 => []
 | k + 1 => brs k ++ [arP (skL L k)]
def mtL : Nat → List Int
 | 0 => []
 | k + 1 => mtk (mtL k) (skL L k) (L.getD k R_iiii.z).a0 k
def blL : Nat → List Int
 | 0 => []
 | k + 1 => blk (blL k) (skL L k) (L.getD k R_iiii.z).a0 k
def dpL : Nat → Int
 | 0 => 0
 | k + 1 => dpk (dpL k) (skL L k) (L.getD k R_iiii.z).a0
def okB (N k : Nat) : Bool := ZeX (L.getD k R_iiii.z) N && ZdK (opn L k) (L.getD k R_iiii.z).a0
def fb (N : Nat) : Nat → Nat → Option Nat
 | 0, _ => none
 | d + 1, k => if okB L N k = true then fb N d (k + 1) else some k
def jb (n k : Nat) (to : Int) : Bool := decide ((n : Int) < to) || !decide ((brP (opn L to.toNat)).a0 = (brP (opn L k)).a0 ∧ (brP (opn L to.toNat)).a1 = (brP (opn L k)).a1)
def ZkR (n k : Nat) : Bool := if (L.getD k R_iiii.z).a0 = 8 then jb L n k (L.getD k R_iiii.z).a1 else if (L.getD k R_iiii.z).a0 = 9 then jb L n k (L.getD k R_iiii.z).a2 else false
def fj (n : Nat) : Nat → Nat → Option Nat
 | 0, _ => none
 | d + 1, k => if ZkR L n k = true then some k else fj n d (k + 1)
def Zf7 (n N : Nat) (d k : Nat) : Int × Int := match fb L N d k with
 | some j => ((j : Int), Zef (opn L j) (L.getD j R_iiii.z) N)
 | none => if (opn L n).length = 0 then (match fj L n n 0 with
  | some j => ((j : Int), 120)
  | none => (-1, 0)) else ((n : Int), 120)
end
theorem Zi2 (L : List R_iiii) : ∀ k, (mtL L k).length = k
 | 0 => rfl
 | k + 1 => by
  unfold mtL mtk
  repeat' split
  all_goals simp [Zi2 L k]
theorem ZfP (L : List R_iiii) : ∀ k, (brs L k).length = k
 | 0 => rfl
 | k + 1 => by unfold brs; simp [ZfP L k]
theorem ZqQ (L : List R_iiii) : ∀ k, (blL L k).length ≤ k
 | 0 => Nat.le_refl _
 | k + 1 => by
  have := ZqQ L k
  unfold blL blk
  repeat' split
  all_goals first | omega | (simp; omega)
theorem inv {L : List R_iiii} {N : Nat} : ∀ k, (∀ j, j < k → okB L N j = true) → Rel (skL L k) (opn L k) ∧ Bd (skL L k) k
 | 0, _ => ⟨⟨rfl, fun j hj => absurd hj (Nat.not_lt_zero j)⟩, fun j hj => absurd hj (Nat.not_lt_zero j)⟩
 | k + 1, h => by
  obtain ⟨h1, h2⟩ := inv k fun j hj => h j (by omega)
  have hk := h k (by omega)
  unfold okB at hk
  rw [Bool.and_eq_true] at hk
  refine ⟨Zwr h1 hk.2, ZwA h2 fun e => ?_⟩
  have := hk.2
  rw [e] at this
  unfold ZdK at this
  rw [if_neg (by decide), if_pos rfl] at this
  rw [h1.1]
  by_cases h0 : (opn L k).length = 0
  ·rw [if_pos h0] at this; cases this
  ·omega
theorem Zur {L : List R_iiii} {N : Nat} : ∀ k, (∀ j, j < k → okB L N j = true) → ∀ j, j < k → (brs L k).getD j R_ii.z = brP (opn L j)
 | 0, _, j, hj => absurd hj (Nat.not_lt_zero j)
 | k + 1, h, j, hj => by
  unfold brs
  by_cases e : j < k
  ·rw [ZdB (by rw [ZfP]; exact e)]; exact Zur k (fun i hi => h i (by omega)) j e
  ·obtain rfl : j = k := by omega
   have := Zfx (L := brs L j) (v := arP (skL L j)) (d := R_ii.z)
   rw [ZfP] at this
   rw [this]; exact ar_br (inv j fun i hi => h i (by omega)).1
def rW : ZT → Int
 | .r0 _ => 0
 | .r1 w _ => w
 | .r2 _ _ _ _ _ w _ => w
 | .r3 _ _ w _ => w
def rE : ZT → Int
 | .r0 e => e
 | .r1 _ e => e
 | .r2 _ _ _ _ _ _ e => e
 | .r3 _ _ _ e => e
def rB : ZT → List R_ii
 | .r2 _ b _ _ _ _ _ => b
 | .r3 b _ _ _ => b
 | _ => []
def rM : ZT → List Int
 | .r2 _ _ m _ _ _ _ => m
 | .r3 _ m _ _ => m
 | _ => []
def rD : ZT → List Int
 | .r2 _ _ _ d _ _ _ => d
 | _ => []
def rd : ZT → Int
 | .r2 _ _ _ _ d _ _ => d
 | _ => 0
def Zg8 (L : List R_iiii) (n N d k : Nat) (r : ZT) : Prop := rW r = (Zf7 L n N d k).1 ∧ rE r = (Zf7 L n N d k).2 ∧
 ((Zf7 L n N d k).2 = 0 → rB r = brs L n ++ [⟨-1, 0⟩] ∧ rM r = mtL L n ∧ rD r = blL L n ∧ rd r = dpL L n)
def tgt (x : R_iiii) : Int := if x.a0 = 8 then x.a1 else if x.a0 = 9 then x.a2 else 0
def JF (L : List R_iiii) (n : Nat) : Prop := ∀ k, k < n → 0 ≤ tgt (L.getD k R_iiii.z) ∧ tgt (L.getD k R_iiii.z) ≤ 512
theorem Zsv {L : List R_iiii} {n N : Nat} (hN : 4 ≤ N) (h : ∀ j, j < n → okB L N j = true) : JF L n := by
 intro k hk
 have := h k hk
 unfold okB at this
 rw [Bool.and_eq_true] at this
 obtain ⟨-, -, f8, f9, -⟩ := ZhY (L.getD k R_iiii.z) hN
 unfold tgt
 by_cases h8 : (L.getD k R_iiii.z).a0 = 8
 ·rw [if_pos h8]; exact f8 h8 this.1
 ·rw [if_neg h8]
  by_cases h9 : (L.getD k R_iiii.z).a0 = 9
  ·rw [if_pos h9]; exact f9 h9 this.1
  ·rw [if_neg h9]; omega
theorem Zk3 (x : R_iiii) (N : Nat) : Zdm x.a0 x.a1 x.a2 x.a3 N = some (.r0 (tgt x) (decide (x.a0 = 8 ∨ x.a0 = 9))) := by
 unfold Zdm tgt
 by_cases h8 : x.a0 = 8
 ·rw [if_pos h8, if_pos h8]; simp [h8]
 ·rw [if_neg h8, if_neg h8]
  by_cases h9 : x.a0 = 9
  ·rw [if_pos h9, if_pos h9]; simp [h9]
  ·rw [if_neg h9, if_neg h9]; simp [h8, h9]
theorem ZqR (x : R_iiii) (N : Nat) : Ze3 x.a0 x.a1 x.a2 x.a3 N = some (.r0 (tgt x) (decide (x.a0 = 8 ∨ x.a0 = 9))) := by
 unfold Ze3 tgt
 by_cases h8 : x.a0 = 8
 ·rw [if_pos h8, if_pos h8]; simp [h8]
 ·rw [if_neg h8, if_neg h8]
  by_cases h9 : x.a0 = 9
  ·rw [if_pos h9, if_pos h9]; simp [h9]
  ·rw [if_neg h9, if_neg h9]; simp [h8, h9]
theorem ZhZ (L : List R_iiii) (n k : Nat) : ZkR L n k = (decide ((L.getD k R_iiii.z).a0 = 8 ∨ (L.getD k R_iiii.z).a0 = 9) && jb L n k (tgt (L.getD k R_iiii.z))) := by
 unfold ZkR tgt
 by_cases h8 : (L.getD k R_iiii.z).a0 = 8
 ·rw [if_pos h8, if_pos h8, decide_eq_true (.inl h8), Bool.true_and]
 ·rw [if_neg h8, if_neg h8]
  by_cases h9 : (L.getD k R_iiii.z).a0 = 9
  ·rw [if_pos h9, if_pos h9, decide_eq_true (.inr h9), Bool.true_and]
  ·rw [if_neg h9, if_neg h9, decide_eq_false (fun h => h.elim h8 h9), Bool.false_and]
def Zdz (L : List R_iiii) (n d k : Nat) : Int × Int := match fj L n d k with
 | some j => ((j : Int), 120)
 | none => (-1, 0)
theorem ZlW {L : List R_iiii} {n d k : Nat} (h : ZkR L n k = true) : Zdz L n (d + 1) k = ((k : Int), 120) := by unfold Zdz fj; rw [if_pos h]
theorem Zou {L : List R_iiii} {n d k : Nat} (h : ¬ ZkR L n k = true) : Zdz L n (d + 1) k = Zdz L n d (k + 1) := by unfold Zdz; rw [fj, if_neg h]

section
variable {L : List R_iiii} {n c N : Nat} {s B : List R_ii} {M D : List Int} {d_ : Int}
theorem Zvs (hn : n ≤ L.length) (hL : n ≤ 512) (hj : JF L n) (hB : B.length = n + 1) (hg : ∀ j, j ≤ n → B.getD j R_ii.z = brP (opn L j)) : ∀ d k f, k + d = n → d < f →
  Zcn (Zdb L n c B M d_ (-1) 0 N) f (.h1m0 k) = some (.r0 (Zdz L n d k).1 (Zdz L n d k).2) := by
 intro d
 induction d with
 | zero =>
  intro k f hk hf
  obtain ⟨f, rfl⟩ : ∃ j, f = j + 1 := ⟨f - 1, by omega⟩
  refine Za3 ?_
  show Zbc L n c B M d_ (-1) 0 N k = _
  unfold Zbc
  exact Z1 (by omega) rfl
 | succ d ih =>
  intro k f hk hf
  obtain ⟨f, rfl⟩ : ∃ j, f = j + 1 := ⟨f - 1, by omega⟩
  obtain ⟨j1, j2⟩ := hj k (by omega)
  by_cases hb : ZkR L n k = true
  ·rw [ZlW hb]
   refine Za3 ?_
   rw [ZhZ, Bool.and_eq_true] at hb
   show Zbc L n c B M d_ (-1) 0 N k = _
   unfold Zbc
   refine Zj (by omega) (Zj (by omega) (Zu (Zk3 _ _) (Zj hb.1 (Zeg (fun _ => rfl) (fun h => Zj j1 (Zj (by omega) (Zj (by omega) (Zj ?_ rfl))))))))
   rw [hg _ (by omega), hg k (by omega)]
   have := hb.2
   unfold jb at this
   rw [decide_eq_false h, Bool.false_or, Bool.not_eq_true', decide_eq_false_iff_not] at this
   exact this
  ·rw [Zou hb]
   refine (Zau (y := .h1m0 (k + 1)) ?_).trans (ih (k + 1) f (by omega) (by omega))
   rw [ZhZ, Bool.and_eq_true] at hb
   show Zbc L n c B M d_ (-1) 0 N k = _
   unfold Zbc
   refine Zj (by omega) (Zj (by omega) (Zu (Zk3 _ _) (Zeg (fun h1 => ?_) (fun h1 => Zj (by omega) rfl))))
   have hb : ¬ jb L n k (tgt (L.getD k R_iiii.z)) = true := fun e => hb ⟨h1, e⟩
   unfold jb at hb
   simp only [Bool.or_eq_true, decide_eq_true_eq, Bool.not_eq_true', decide_eq_false_iff_not, not_or, Decidable.not_not] at hb
   refine Z1 hb.1 (Zj j1 (Zj (by omega) (Zj (by omega) (Z1 ?_ (Zj (by omega) rfl)))))
   rw [hg _ (by omega), hg k (by omega)]
   exact fun h => h hb.2
end

section
variable {L : List R_iiii} {n c N : Nat} {s B : List R_ii} {M D : List Int} {d_ : Int}
theorem Zvt (hn : n ≤ L.length) (hL : n ≤ 512) (hj : JF L n) (hB : B.length = n + 1) (hg : ∀ j, j ≤ n → B.getD j R_ii.z = brP (opn L j)) : ∀ d k f, k + d = n → d < f →
  Zcn (Zdc s L n c B M D d_ (-1) 0 N) f (.h1m0 k) = some (.r0 (Zdz L n d k).1 (Zdz L n d k).2) := by
 intro d
 induction d with
 | zero =>
  intro k f hk hf
  obtain ⟨f, rfl⟩ : ∃ j, f = j + 1 := ⟨f - 1, by omega⟩
  refine Za3 ?_
  show Zbd s L n c B M D d_ (-1) 0 N k = _
  unfold Zbd
  exact Z1 (by omega) rfl
 | succ d ih =>
  intro k f hk hf
  obtain ⟨f, rfl⟩ : ∃ j, f = j + 1 := ⟨f - 1, by omega⟩
  obtain ⟨j1, j2⟩ := hj k (by omega)
  by_cases hb : ZkR L n k = true
  ·rw [ZlW hb]
   refine Za3 ?_
   rw [ZhZ, Bool.and_eq_true] at hb
   show Zbd s L n c B M D d_ (-1) 0 N k = _
   unfold Zbd
   refine Zj (by omega) (Zj (by omega) (Zu (Zk3 _ _) (Zj hb.1 (Zeg (fun _ => rfl) (fun h => Zj j1 (Zj (by omega) (Zj (by omega) (Zj ?_ rfl))))))))
   rw [hg _ (by omega), hg k (by omega)]
   have := hb.2
   unfold jb at this
   rw [decide_eq_false h, Bool.false_or, Bool.not_eq_true', decide_eq_false_iff_not] at this
   exact this
  ·rw [Zou hb]
   refine (Zau (y := .h1m0 (k + 1)) ?_).trans (ih (k + 1) f (by omega) (by omega))
   rw [ZhZ, Bool.and_eq_true] at hb
   show Zbd s L n c B M D d_ (-1) 0 N k = _
   unfold Zbd
   refine Zj (by omega) (Zj (by omega) (Zu (Zk3 _ _) (Zeg (fun h1 => ?_) (fun h1 => Zj (by omega) rfl))))
   have hb : ¬ jb L n k (tgt (L.getD k R_iiii.z)) = true := fun e => hb ⟨h1, e⟩
   unfold jb at hb
   simp only [Bool.or_eq_true, decide_eq_true_eq, Bool.not_eq_true', decide_eq_false_iff_not, not_or, Decidable.not_not] at hb
   refine Z1 hb.1 (Zj j1 (Zj (by omega) (Zj (by omega) (Z1 ?_ (Zj (by omega) rfl)))))
   rw [hg _ (by omega), hg k (by omega)]
   exact fun h => h hb.2
end
end Ev
end Go.Proofs.Ytpgbennpiihajaa
