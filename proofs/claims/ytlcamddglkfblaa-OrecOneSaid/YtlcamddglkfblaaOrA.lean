/- OrecOne: numbers, rows, the page's example; what holds between rounds. -/
import Derived.Test.YtlcamddglkfblaaEvV
namespace Go.Proofs.Ytlcamddglkfblaa
open Go.RowKit
namespace Ev
set_option linter.unusedVariables false
/-- The page's example is known. -/
def spA : FuncId → Option (List Value → Option Value) := fun f => bif Nat.beq f 12 then some (fun l => match l with | [] => some (.bool true) | _ => none) else none
theorem awake_true (w : World) : Calls Try.prog 12 #[] w (Ret (.bool true) w) := ret_of 20000 w (by kernel_rfl) rfl
theorem knownA : Known spA := fun f g h => by
  unfold spA at h
  cases hb : Nat.beq f 12 with
  | false => rw [hb] at h; simp at h
  | true =>
    rw [hb] at h
    obtain rfl := Nat.eq_of_beq_eq_true hb
    simp only [cond_true, Option.some.injEq] at h
    subst h
    refine ⟨⟨_, _, Try.func12, rfl⟩, fun args v ha hv w => ?_⟩
    obtain ⟨l⟩ := args
    cases l with
    | nil =>
      change some (Value.bool true) = some v at hv
      injection hv with hv
      subst hv
      exact awake_true w
    | cons x l => change (none : Option Value) = some v at hv; cases hv
theorem get_set_ne {L : List Int} {i j : Nat} {v : Int} (h : i ≠ j) : (L.set i v).getD j 0 = L.getD j 0 := by simp [List.getElem?_set_ne h]
/-- Record by record: its word may be, and who has it is booked. -/
def OwT (w t a b c : Int) : Prop := 0 ≤ w ∧ w % 4 ≤ 2 ∧ (w % 4 = 0 → w / 4 ≤ 2199023255552) ∧ (w % 4 ≠ 0 → w / 4 ≤ 63) ∧ a = w % 4 ∧ (w % 4 ≠ 0 → b = w / 4 ∧ c = t)
def Ow (n : Nat) (W T By : List Int) : Prop := ∀ t, t < n → 0 ≤ W.getD t 0 ∧ W.getD t 0 % 4 ≤ 2 ∧ (W.getD t 0 % 4 = 0 → W.getD t 0 / 4 ≤ 2199023255552) ∧ (W.getD t 0 % 4 ≠ 0 → W.getD t 0 / 4 ≤ 63) ∧
  By.getD (t * 3) 0 = W.getD t 0 % 4 ∧ (W.getD t 0 % 4 ≠ 0 → By.getD (t * 3 + 1) 0 = W.getD t 0 / 4 ∧ By.getD (t * 3 + 2) 0 = T.getD t 0)
theorem ow_zero {n : Nat} {W T By : List Int} (hW : W = List.replicate n 0) (hT : T = List.replicate n 0) (hB : By = List.replicate 24 0) : Ow n W T By := fun t ht => by
  have hr : ∀ (m t : Nat), (List.replicate m (0 : Int)).getD t 0 = 0 := fun m t => by
    rw [List.getD_eq_getElem?_getD, List.getElem?_replicate]
    split <;> rfl
  subst hW hT hB
  simp only [hr]
  decide
theorem puti_other {L : List Int} {o j : Nat} {a b c : Int} (h : o + 3 ≤ L.length) (hj : j < o ∨ o + 3 ≤ j) : (putI L o [a, b, c]).getD j 0 = L.getD j 0 := by
  rw [List.getD_eq_getElem?_getD, List.getD_eq_getElem?_getD]
  congr 1
  unfold putI
  rcases hj with hj | hj
  · rw [List.append_assoc, List.getElem?_append_left (by simp; omega), List.getElem?_take_of_lt hj]
  · rw [List.getElem?_append_right (by simp; omega), List.getElem?_drop]
    congr 1
    simp
    omega
theorem ow_put {n k : Nat} {W T By W' T' : List Int} {a b c : Int} (h : Ow n W T By) (hk : k < n) (hn : n ≤ 8) (hl : By.length = 24) (hW : ∀ t, t ≠ k → W'.getD t 0 = W.getD t 0) (hT : ∀ t, t ≠ k → T'.getD t 0 = T.getD t 0)
    (hw : OwT (W'.getD k 0) (T'.getD k 0) a b c) : Ow n W' T' (putI By (k * 3) [a, b, c]) := fun t ht => by
  by_cases e : t = k
  · subst e
    obtain ⟨p0, p1, p2, p3⟩ := put3_get (L := By) (o := t * 3) (a := a) (b := b) (c := c) (by omega)
    rw [p0, p1, p2]
    exact hw
  · rw [hW t e, hT t e, puti_other (by omega) (by omega), puti_other (by omega) (by omega), puti_other (by omega) (by omega)]
    exact h t ht
end Ev
end Go.Proofs.Ytlcamddglkfblaa
