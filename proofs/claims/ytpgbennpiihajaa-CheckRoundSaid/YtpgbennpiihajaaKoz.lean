/- The program's scan of a whole program: plain. -/
import Derived.Test.YtpgbennpiihajaaKoy
namespace Go.Proofs.Ytpgbennpiihajaa
open Go.RowKit
namespace Ev
set_option linter.unusedVariables false
set_option linter.unusedSimpArgs false

theorem getD_take {α : Type} {l : List α} {m j : Nat} {d : α} (h : j < m) : (l.take m).getD j d = l.getD j d := by
  rw [List.getD_eq_getElem?_getD, List.getD_eq_getElem?_getD, List.getElem?_take_of_lt h]
theorem stk_rel {s l : List R_ii} {op : Int} {k : Nat} (hr : Rel s l) (ho : stepB l op = true) : Rel (stk s op k) (stepL l op k) := by
  have hl := hr.1
  unfold stk stepL
  unfold stepB at ho
  by_cases h15 : op = 15
  · rw [if_pos h15] at ho
    have ho := of_decide_eq_true ho
    rw [if_pos h15, if_pos h15, if_neg (by omega)]
    refine ⟨by simp [hl], fun j hj => ?_⟩
    have hj : j < l.length + 1 := by simpa using hj
    by_cases e : j < l.length
    · rw [getD_app_left (by omega), getD_app_left e]; exact hr.2 j e
    · obtain rfl : j = l.length := by omega
      rw [getD_snoc, ← hl, getD_snoc]
      exact ⟨rfl, ⟨fun h => absurd h (show ¬ (0 : Int) ≤ -1 by decide), fun h => absurd h (show ¬ (0 : Int) = 1 by decide)⟩, .inl rfl⟩
  · rw [if_neg h15] at ho
    rw [if_neg h15, if_neg h15]
    by_cases h16 : op = 16
    · rw [if_pos h16] at ho
      rw [if_pos h16, if_pos h16]
      by_cases h0 : l.length = 0
      · rw [if_pos h0] at ho; cases ho
      · rw [if_neg h0] at ho
        by_cases h1 : (lastP l).a1 = 1
        · rw [if_pos h1] at ho; cases ho
        · rw [if_neg h0, if_neg h1]
          refine ⟨by simp [hl]; omega, fun j hj => ?_⟩
          have hj : j < l.length := by simp at hj; omega
          rw [getD_set (by omega)]
          by_cases e : j = s.length - 1
          · rw [if_pos e]
            have e2 : j = (l.take (l.length - 1)).length := by simp; omega
            have e3 : (l.take (l.length - 1) ++ [(⟨(lastP l).a0, 1⟩ : R_ii)]).getD j R_ii.z = ⟨(lastP l).a0, 1⟩ := by rw [e2, getD_snoc]
            rw [e3]
            refine ⟨?_, ⟨fun _ => rfl, fun _ => Int.natCast_nonneg k⟩, .inr rfl⟩
            unfold lastP
            rw [hl]; exact (hr.2 (l.length - 1) (by omega)).1
          · rw [if_neg e, getD_app_left (by simp; omega), getD_take (by omega)]
            exact hr.2 j hj
    · rw [if_neg h16] at ho
      rw [if_neg h16, if_neg h16]
      by_cases h17 : op = 17
      · rw [if_pos h17, if_pos h17]
        refine ⟨by simp [hl], fun j hj => ?_⟩
        have hj : j < l.length - 1 := by simp at hj; omega
        rw [getD_take (by omega), getD_take hj]
        exact hr.2 j (by omega)
      · rw [if_neg h17, if_neg h17]; exact hr
theorem stk_bd {s : List R_ii} {op : Int} {k : Nat} (hb : Bd s k) (hs : op = 16 → 0 < s.length) : Bd (stk s op k) (k + 1) := by
  have up : Bd s (k + 1) := fun j hj => by obtain ⟨b1, b2, b3⟩ := hb j hj; exact ⟨b1, by omega, by omega⟩
  unfold stk
  by_cases h15 : op = 15
  · rw [if_pos h15]
    intro j hj
    have hj : j < s.length + 1 := by simpa using hj
    by_cases e : j < s.length
    · rw [getD_app_left e]; exact up j e
    · obtain rfl : j = s.length := by omega
      rw [getD_snoc]
      exact ⟨Int.natCast_nonneg k, (show (k : Int) < ((k + 1 : Nat) : Int) by omega), (show (-1 : Int) < ((k + 1 : Nat) : Int) by omega)⟩
  · rw [if_neg h15]
    by_cases h16 : op = 16
    · rw [if_pos h16]
      intro j hj
      have hj : j < s.length := by simpa using hj
      rw [getD_set (by omega)]
      by_cases e : j = s.length - 1
      · rw [if_pos e]
        obtain ⟨b1, b2, b3⟩ := up (s.length - 1) (by omega)
        exact ⟨b1, b2, (show (k : Int) < ((k + 1 : Nat) : Int) by omega)⟩
      · rw [if_neg e]; exact up j hj
    · rw [if_neg h16]
      by_cases h17 : op = 17
      · rw [if_pos h17]
        intro j hj
        have hj : j < s.length - 1 := by simp at hj; omega
        rw [getD_take hj]; exact up j (by omega)
      · rw [if_neg h17]; exact up
section
variable (L : List R_iiii)
def skL : Nat → List R_ii
  | 0 => []
  | k + 1 => stk (skL k) (L.getD k R_iiii.z).a0 k
def brs : Nat → List R_ii
  | 0 => []
  | k + 1 => brs k ++ [arP (skL L k)]
def mtL : Nat → List Int
  | 0 => []
  | k + 1 => mtk (mtL k) (skL L k) (L.getD k R_iiii.z).a0 k
def blL : Nat → List Int
  | 0 => []
  | k + 1 => blk (blL k) (skL L k) (L.getD k R_iiii.z).a0 k
def dpL : Nat → Int
  | 0 => 0
  | k + 1 => dpk (dpL k) (skL L k) (L.getD k R_iiii.z).a0
def okB (N k : Nat) : Bool := fineB (L.getD k R_iiii.z) N && stepB (opn L k) (L.getD k R_iiii.z).a0
def fb (N : Nat) : Nat → Nat → Option Nat
  | 0, _ => none
  | d + 1, k => if okB L N k = true then fb N d (k + 1) else some k
def jb (n k : Nat) (to : Int) : Bool := decide ((n : Int) < to) || !decide ((brP (opn L to.toNat)).a0 = (brP (opn L k)).a0 ∧ (brP (opn L to.toNat)).a1 = (brP (opn L k)).a1)
def badJ (n k : Nat) : Bool := if (L.getD k R_iiii.z).a0 = 8 then jb L n k (L.getD k R_iiii.z).a1 else if (L.getD k R_iiii.z).a0 = 9 then jb L n k (L.getD k R_iiii.z).a2 else false
def fj (n : Nat) : Nat → Nat → Option Nat
  | 0, _ => none
  | d + 1, k => if badJ L n k = true then some k else fj n d (k + 1)
/-- Where something is wrong first, and why, from a place on. -/
def lookF (n N : Nat) (d k : Nat) : Int × Int := match fb L N d k with
  | some j => ((j : Int), errI (opn L j) (L.getD j R_iiii.z) N)
  | none => if (opn L n).length = 0 then (match fj L n n 0 with
    | some j => ((j : Int), 120)
    | none => (-1, 0)) else ((n : Int), 120)
end
theorem mt_len (L : List R_iiii) : ∀ k, (mtL L k).length = k
  | 0 => rfl
  | k + 1 => by
    unfold mtL mtk
    repeat' split
    all_goals simp [mt_len L k]
theorem brs_len (L : List R_iiii) : ∀ k, (brs L k).length = k
  | 0 => rfl
  | k + 1 => by unfold brs; simp [brs_len L k]
theorem bl_len (L : List R_iiii) : ∀ k, (blL L k).length ≤ k
  | 0 => Nat.le_refl _
  | k + 1 => by
    have := bl_len L k
    unfold blL blk
    repeat' split
    all_goals first | omega | (simp; omega)
theorem inv {L : List R_iiii} {N : Nat} : ∀ k, (∀ j, j < k → okB L N j = true) → Rel (skL L k) (opn L k) ∧ Bd (skL L k) k
  | 0, _ => ⟨⟨rfl, fun j hj => absurd hj (Nat.not_lt_zero j)⟩, fun j hj => absurd hj (Nat.not_lt_zero j)⟩
  | k + 1, h => by
    obtain ⟨h1, h2⟩ := inv k fun j hj => h j (by omega)
    have hk := h k (by omega)
    unfold okB at hk
    rw [Bool.and_eq_true] at hk
    refine ⟨stk_rel h1 hk.2, stk_bd h2 fun e => ?_⟩
    have := hk.2
    rw [e] at this
    unfold stepB at this
    rw [if_neg (by decide), if_pos rfl] at this
    rw [h1.1]
    by_cases h0 : (opn L k).length = 0
    · rw [if_pos h0] at this; cases this
    · omega
theorem brs_get {L : List R_iiii} {N : Nat} : ∀ k, (∀ j, j < k → okB L N j = true) → ∀ j, j < k → (brs L k).getD j R_ii.z = brP (opn L j)
  | 0, _, j, hj => absurd hj (Nat.not_lt_zero j)
  | k + 1, h, j, hj => by
    unfold brs
    by_cases e : j < k
    · rw [getD_app_left (by rw [brs_len]; exact e)]; exact brs_get k (fun i hi => h i (by omega)) j e
    · obtain rfl : j = k := by omega
      have := getD_snoc (L := brs L j) (v := arP (skL L j)) (d := R_ii.z)
      rw [brs_len] at this
      rw [this]; exact ar_br (inv j fun i hi => h i (by omega)).1
def rW : check_lookR → Int
  | .r0 _ => 0
  | .r1 w _ => w
  | .r2 _ _ _ _ _ w _ => w
  | .r3 _ _ w _ => w
def rE : check_lookR → Int
  | .r0 e => e
  | .r1 _ e => e
  | .r2 _ _ _ _ _ _ e => e
  | .r3 _ _ _ e => e
def rB : check_lookR → List R_ii
  | .r2 _ b _ _ _ _ _ => b
  | .r3 b _ _ _ => b
  | _ => []
def rM : check_lookR → List Int
  | .r2 _ _ m _ _ _ _ => m
  | .r3 _ m _ _ => m
  | _ => []
def rD : check_lookR → List Int
  | .r2 _ _ _ d _ _ _ => d
  | _ => []
def rd : check_lookR → Int
  | .r2 _ _ _ _ d _ _ => d
  | _ => 0
/-- What is handed back. -/
def LkOut (L : List R_iiii) (n N d k : Nat) (r : check_lookR) : Prop := rW r = (lookF L n N d k).1 ∧ rE r = (lookF L n N d k).2 ∧
  ((lookF L n N d k).2 = 0 → rB r = brs L n ++ [⟨-1, 0⟩] ∧ rM r = mtL L n ∧ rD r = blL L n ∧ rd r = dpL L n)
def tgt (x : R_iiii) : Int := if x.a0 = 8 then x.a1 else if x.a0 = 9 then x.a2 else 0
/-- Jumps of instructions that may be. -/
def JF (L : List R_iiii) (n : Nat) : Prop := ∀ k, k < n → 0 ≤ tgt (L.getD k R_iiii.z) ∧ tgt (L.getD k R_iiii.z) ≤ 512
theorem jf_of {L : List R_iiii} {n N : Nat} (hN : 4 ≤ N) (h : ∀ j, j < n → okB L N j = true) : JF L n := by
  intro k hk
  have := h k hk
  unfold okB at this
  rw [Bool.and_eq_true] at this
  obtain ⟨-, -, f8, f9, -⟩ := fine_is (L.getD k R_iiii.z) hN
  unfold tgt
  by_cases h8 : (L.getD k R_iiii.z).a0 = 8
  · rw [if_pos h8]; exact f8 h8 this.1
  · rw [if_neg h8]
    by_cases h9 : (L.getD k R_iiii.z).a0 = 9
    · rw [if_pos h9]; exact f9 h9 this.1
    · rw [if_neg h9]; omega
theorem target_is (x : R_iiii) (N : Nat) : instr_Target x.a0 x.a1 x.a2 x.a3 N = some (.r0 (tgt x) (decide (x.a0 = 8 ∨ x.a0 = 9))) := by
  unfold instr_Target tgt
  by_cases h8 : x.a0 = 8
  · rw [if_pos h8, if_pos h8]; simp [h8]
  · rw [if_neg h8, if_neg h8]
    by_cases h9 : x.a0 = 9
    · rw [if_pos h9, if_pos h9]; simp [h9]
    · rw [if_neg h9, if_neg h9]; simp [h8, h9]
theorem rtarget_is (x : R_iiii) (N : Nat) : ref10_Target x.a0 x.a1 x.a2 x.a3 N = some (.r0 (tgt x) (decide (x.a0 = 8 ∨ x.a0 = 9))) := by
  unfold ref10_Target tgt
  by_cases h8 : x.a0 = 8
  · rw [if_pos h8, if_pos h8]; simp [h8]
  · rw [if_neg h8, if_neg h8]
    by_cases h9 : x.a0 = 9
    · rw [if_pos h9, if_pos h9]; simp [h9]
    · rw [if_neg h9, if_neg h9]; simp [h8, h9]
theorem badJ_is (L : List R_iiii) (n k : Nat) : badJ L n k = (decide ((L.getD k R_iiii.z).a0 = 8 ∨ (L.getD k R_iiii.z).a0 = 9) && jb L n k (tgt (L.getD k R_iiii.z))) := by
  unfold badJ tgt
  by_cases h8 : (L.getD k R_iiii.z).a0 = 8
  · rw [if_pos h8, if_pos h8, decide_eq_true (.inl h8), Bool.true_and]
  · rw [if_neg h8, if_neg h8]
    by_cases h9 : (L.getD k R_iiii.z).a0 = 9
    · rw [if_pos h9, if_pos h9, decide_eq_true (.inr h9), Bool.true_and]
    · rw [if_neg h9, if_neg h9, decide_eq_false (fun h => h.elim h8 h9), Bool.false_and]
def aimOut (L : List R_iiii) (n d k : Nat) : Int × Int := match fj L n d k with
  | some j => ((j : Int), 120)
  | none => (-1, 0)
theorem aimOut_bad {L : List R_iiii} {n d k : Nat} (h : badJ L n k = true) : aimOut L n (d + 1) k = ((k : Int), 120) := by unfold aimOut fj; rw [if_pos h]
theorem aimOut_go {L : List R_iiii} {n d k : Nat} (h : ¬ badJ L n k = true) : aimOut L n (d + 1) k = aimOut L n d (k + 1) := by unfold aimOut; rw [fj, if_neg h]

section
variable {L : List R_iiii} {n c N : Nat} {s B : List R_ii} {M D : List Int} {d_ : Int}
theorem aims_2_is (hn : n ≤ L.length) (hL : n ≤ 512) (hj : JF L n) (hB : B.length = n + 1) (hg : ∀ j, j ≤ n → B.getD j R_ii.z = brP (opn L j)) : ∀ d k f, k + d = n → d < f →
    iter (check_scan_aims_2Step L n c B M d_ (-1) 0 N) f (.h1m0 k) = some (.r0 (aimOut L n d k).1 (aimOut L n d k).2) := by
  intro d
  induction d with
  | zero =>
    intro k f hk hf
    obtain ⟨f, rfl⟩ : ∃ j, f = j + 1 := ⟨f - 1, by omega⟩
    refine iter_done ?_
    show check_scan_aims_2_h1m0 L n c B M d_ (-1) 0 N k = _
    unfold check_scan_aims_2_h1m0
    exact ite_no (by omega) rfl
  | succ d ih =>
    intro k f hk hf
    obtain ⟨f, rfl⟩ : ∃ j, f = j + 1 := ⟨f - 1, by omega⟩
    obtain ⟨j1, j2⟩ := hj k (by omega)
    by_cases hb : badJ L n k = true
    · rw [aimOut_bad hb]
      refine iter_done ?_
      rw [badJ_is, Bool.and_eq_true] at hb
      show check_scan_aims_2_h1m0 L n c B M d_ (-1) 0 N k = _
      unfold check_scan_aims_2_h1m0
      refine ite_yes (by omega) (ite_yes (by omega) (bind_to (target_is _ _) (ite_yes hb.1 (ite_eq (fun _ => rfl) (fun h => ite_yes j1 (ite_yes (by omega) (ite_yes (by omega) (ite_yes ?_ rfl))))))))
      rw [hg _ (by omega), hg k (by omega)]
      have := hb.2
      unfold jb at this
      rw [decide_eq_false h, Bool.false_or, Bool.not_eq_true', decide_eq_false_iff_not] at this
      exact this
    · rw [aimOut_go hb]
      refine (iter_next (y := .h1m0 (k + 1)) ?_).trans (ih (k + 1) f (by omega) (by omega))
      rw [badJ_is, Bool.and_eq_true] at hb
      show check_scan_aims_2_h1m0 L n c B M d_ (-1) 0 N k = _
      unfold check_scan_aims_2_h1m0
      refine ite_yes (by omega) (ite_yes (by omega) (bind_to (target_is _ _) (ite_eq (fun h1 => ?_) (fun h1 => ite_yes (by omega) rfl))))
      have hb : ¬ jb L n k (tgt (L.getD k R_iiii.z)) = true := fun e => hb ⟨h1, e⟩
      unfold jb at hb
      simp only [Bool.or_eq_true, decide_eq_true_eq, Bool.not_eq_true', decide_eq_false_iff_not, not_or, Decidable.not_not] at hb
      refine ite_no hb.1 (ite_yes j1 (ite_yes (by omega) (ite_yes (by omega) (ite_no ?_ (ite_yes (by omega) rfl)))))
      rw [hg _ (by omega), hg k (by omega)]
      exact fun h => h hb.2
end

section
variable {L : List R_iiii} {n c N : Nat} {s B : List R_ii} {M D : List Int} {d_ : Int}
theorem aims_3_is (hn : n ≤ L.length) (hL : n ≤ 512) (hj : JF L n) (hB : B.length = n + 1) (hg : ∀ j, j ≤ n → B.getD j R_ii.z = brP (opn L j)) : ∀ d k f, k + d = n → d < f →
    iter (check_scan_aims_3Step s L n c B M D d_ (-1) 0 N) f (.h1m0 k) = some (.r0 (aimOut L n d k).1 (aimOut L n d k).2) := by
  intro d
  induction d with
  | zero =>
    intro k f hk hf
    obtain ⟨f, rfl⟩ : ∃ j, f = j + 1 := ⟨f - 1, by omega⟩
    refine iter_done ?_
    show check_scan_aims_3_h1m0 s L n c B M D d_ (-1) 0 N k = _
    unfold check_scan_aims_3_h1m0
    exact ite_no (by omega) rfl
  | succ d ih =>
    intro k f hk hf
    obtain ⟨f, rfl⟩ : ∃ j, f = j + 1 := ⟨f - 1, by omega⟩
    obtain ⟨j1, j2⟩ := hj k (by omega)
    by_cases hb : badJ L n k = true
    · rw [aimOut_bad hb]
      refine iter_done ?_
      rw [badJ_is, Bool.and_eq_true] at hb
      show check_scan_aims_3_h1m0 s L n c B M D d_ (-1) 0 N k = _
      unfold check_scan_aims_3_h1m0
      refine ite_yes (by omega) (ite_yes (by omega) (bind_to (target_is _ _) (ite_yes hb.1 (ite_eq (fun _ => rfl) (fun h => ite_yes j1 (ite_yes (by omega) (ite_yes (by omega) (ite_yes ?_ rfl))))))))
      rw [hg _ (by omega), hg k (by omega)]
      have := hb.2
      unfold jb at this
      rw [decide_eq_false h, Bool.false_or, Bool.not_eq_true', decide_eq_false_iff_not] at this
      exact this
    · rw [aimOut_go hb]
      refine (iter_next (y := .h1m0 (k + 1)) ?_).trans (ih (k + 1) f (by omega) (by omega))
      rw [badJ_is, Bool.and_eq_true] at hb
      show check_scan_aims_3_h1m0 s L n c B M D d_ (-1) 0 N k = _
      unfold check_scan_aims_3_h1m0
      refine ite_yes (by omega) (ite_yes (by omega) (bind_to (target_is _ _) (ite_eq (fun h1 => ?_) (fun h1 => ite_yes (by omega) rfl))))
      have hb : ¬ jb L n k (tgt (L.getD k R_iiii.z)) = true := fun e => hb ⟨h1, e⟩
      unfold jb at hb
      simp only [Bool.or_eq_true, decide_eq_true_eq, Bool.not_eq_true', decide_eq_false_iff_not, not_or, Decidable.not_not] at hb
      refine ite_no hb.1 (ite_yes j1 (ite_yes (by omega) (ite_yes (by omega) (ite_no ?_ (ite_yes (by omega) rfl)))))
      rw [hg _ (by omega), hg k (by omega)]
      exact fun h => h hb.2
end
end Ev
end Go.Proofs.Ytpgbennpiihajaa
