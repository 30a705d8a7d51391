/- Rows of elements of any kind: each element so many cells. -/
import Derived.Test.YtahjcmhiifkniaaFm
namespace Go.Proofs.Ytahjcmhiifkniaa
open Go.RowKit
namespace Ev
/-- How an element is written as cells. -/
structure Enc (α : Type) where
  enc : α → List Value
  w : Nat
  dflt : α
  len : ∀ a, (enc a).length = w
  atoms : ∀ a, allB atom (enc a) = true
def rowV {α : Type} (E : Enc α) (L : List α) : List Value := L.flatMap E.enc
section
variable {α : Type} {E : Enc α}
theorem rowV_nil : rowV E [] = [] := rfl
theorem rowV_cons (x : α) (L : List α) : rowV E (x :: L) = E.enc x ++ rowV E L := rfl
theorem rowV_app (L M : List α) : rowV E (L ++ M) = rowV E L ++ rowV E M := by simp [rowV]
theorem rowV_len : ∀ L : List α, (rowV E L).length = L.length * E.w
  | [] => by simp [rowV_nil]
  | x :: L => by rw [rowV_cons, List.length_append, rowV_len L, E.len, List.length_cons, Nat.add_mul, Nat.one_mul, Nat.add_comm]
theorem rowV_drop : ∀ (i : Nat) (L : List α), (rowV E L).drop (i * E.w) = rowV E (L.drop i)
  | 0, L => by simp
  | i + 1, [] => by simp [rowV_nil]
  | i + 1, x :: L => by
    rw [rowV_cons, List.drop_succ_cons, ← rowV_drop i L, Nat.add_mul, Nat.one_mul, Nat.add_comm, ← List.drop_drop, ← E.len x, List.drop_left]
theorem rowV_take : ∀ (i : Nat) (L : List α), (rowV E L).take (i * E.w) = rowV E (L.take i)
  | 0, L => by simp [rowV_nil]
  | i + 1, [] => by simp [rowV_nil]
  | i + 1, x :: L => by
    rw [rowV_cons, List.take_succ_cons, rowV_cons, ← rowV_take i L, Nat.add_mul, Nat.one_mul, Nat.add_comm, List.take_append, E.len]
    rw [List.take_of_length_le (by rw [E.len]; omega), Nat.add_sub_cancel_left]
theorem getD_drop {L : List α} {i : Nat} (h : i < L.length) (d : α) : L.drop i = L.getD i d :: L.drop (i + 1) := by
  rw [List.getD_eq_getElem?_getD, List.getElem?_eq_getElem h, Option.getD_some]
  exact List.drop_eq_getElem_cons h
theorem rowV_at {L : List α} {o i q : Nat} (hi : i < L.length) (ho : o = i * E.w + q) (hq : q ≤ E.w) : (rowV E L).drop o = (E.enc (L.getD i E.dflt)).drop q ++ rowV E (L.drop (i + 1)) := by
  subst ho
  rw [← List.drop_drop, rowV_drop, getD_drop hi E.dflt, rowV_cons, List.drop_append, E.len, Nat.sub_eq_zero_of_le hq, List.drop_zero]
theorem takeN_le {β : Type} : ∀ (m : Nat) (l : List β), m ≤ l.length → takeN m l = some (l.take m)
  | 0, l, _ => by simp [takeN]
  | m + 1, [], h => by simp at h
  | m + 1, x :: l, h => by
    simp only [takeN]
    rw [takeN_le m l (by simpa using h)]
    rfl
/-- Some cells of an element. -/
theorem rowV_get {L : List α} {o i q m : Nat} (hi : i < L.length) (ho : o = i * E.w + q) (hq : q + m ≤ E.w) : takeN m ((rowV E L).drop o) = some (((E.enc (L.getD i E.dflt)).drop q).take m) := by
  have hl := E.len (L.getD i E.dflt)
  rw [rowV_at hi ho (by omega), takeN_le _ _ (by simp only [List.length_append, List.length_drop, hl]; omega), List.take_append]
  have : m - ((E.enc (L.getD i E.dflt)).drop q).length = 0 := by simp only [List.length_drop, hl]; omega
  rw [this, List.take_zero, List.append_nil]
/-- Told without guess. -/
def sureC : List Cell → Bool
  | [] => true
  | .any :: _ => false
  | .i _ :: l => sureC l
  | .b _ :: l => sureC l
  | .k _ _ :: l => sureC l
  | .s _ :: l => sureC l
theorem sameC_cells : ∀ {cs : List Cell}, sureC cs = true → sameC (cellsV cs) cs = true
  | [], _ => rfl
  | c :: l, h => by
    cases c with
    | any => cases h
    | i n => show ((n == n) && sameC (cellsV l) l) = true; rw [sameC_cells (cs := l) h]; simp
    | b q => show ((q == q) && sameC (cellsV l) l) = true; rw [sameC_cells (cs := l) h]; simp
    | s x => show (dP (x = x) && sameC (cellsV l) l) = true; rw [sameC_cells (cs := l) h]; simp [dP]
    | k kk n =>
      by_cases hk : kk = .i64
      · subst hk; show ((decide (IntKind.i64 = IntKind.i64) && (n == n)) && sameC (cellsV l) l) = true; rw [sameC_cells (cs := l) h]; simp
      · have e : sameC (.int kk n :: cellsV l) (.k kk n :: l) = ((decide (kk = kk) && (n == n)) && sameC (cellsV l) l) := by cases kk <;> rfl
        show sameC (.int kk n :: cellsV l) (.k kk n :: l) = true
        rw [e, sameC_cells (cs := l) h]; simp
theorem rowV_load {L : List α} {o i q m : Nat} {cs : List Cell} (hi : i < L.length) (ho : o = i * E.w + q) (hq : q + m ≤ E.w) (hs : sureC cs = true) (hc : ((E.enc (L.getD i E.dflt)).drop q).take m = cellsV cs) : sameR (takeN m ((rowV E L).drop o)) cs = true := by
  rw [rowV_get hi ho hq, hc]
  exact sameC_cells hs
theorem rowV_dst {L M R : List α} {n m : Nat} (hm : m = n * E.w) (hn : n ≤ L.length) (hR : L.take n ++ M = R) : m ≤ (rowV E L).length ∧ (rowV E L).take m ++ rowV E M = rowV E R := by
  subst hm hR
  refine ⟨by rw [rowV_len]; exact Nat.mul_le_mul_right _ hn, ?_⟩
  rw [rowV_take, rowV_app]
/-! ### Such a row is a row of atoms -/
theorem atoms_row : ∀ L : List α, allB atom (rowV E L) = true
  | [] => rfl
  | x :: L => by
    have app : ∀ (a b : List Value), allB atom a = true → allB atom b = true → allB atom (a ++ b) = true := by
      intro a b ha hb
      induction a with
      | nil => exact hb
      | cons y a ih =>
        simp only [allB, Bool.and_eq_true] at ha
        show (atom y && allB atom (a ++ b)) = true
        rw [ha.1, ih ha.2]; rfl
    rw [rowV_cons]
    exact app _ _ (E.atoms x) (atoms_row L)
theorem allB_imp {p q : Value → Bool} (h : ∀ v, p v = true → q v = true) : ∀ {l : List Value}, allB p l = true → allB q l = true
  | [], _ => rfl
  | x :: l, hl => by
    simp only [allB, Bool.and_eq_true] at hl ⊢
    exact ⟨h x hl.1, allB_imp h hl.2⟩
theorem shallow_atom (d : Nat) {v : Value} (h : atom v = true) : shallow d v = true := by
  cases v with
  | agg => simp [atom] at h
  | tuple => simp [atom] at h
  | func f a b =>
    cases f with
    | func f =>
      simp only [atom, Bool.and_eq_true, Array.isEmpty_iff] at h
      obtain ⟨rfl, rfl⟩ := h
      cases d <;> rfl
    | _ => simp [atom] at h
  | _ => cases d <;> rfl
theorem under_atom (m d : Nat) {v : Value} (h : atom v = true) : under m d v = true := by
  cases v with
  | agg => simp [atom] at h
  | tuple => simp [atom] at h
  | pointer a => cases a with
    | none => cases d <;> exact h
    | some a => simp [atom] at h
  | slice a n c => cases a with
    | none => cases d <;> exact h
    | some a => simp [atom] at h
  | _ => cases d <;> exact h
theorem ren_row (ρ : Nat → Nat) (d : Nat) (L : List α) : (rowV E L).map (renV ρ d) = rowV E L := by
  have : ∀ l : List Value, allB atom l = true → l.map (renV ρ d) = l := fun l => by
    induction l with
    | nil => intro _; rfl
    | cons y l ih =>
      intro h
      simp only [allB, Bool.and_eq_true] at h
      rw [List.map_cons, ih h.2, renV_atom d h.1]
  exact this _ (atoms_row L)
theorem shallow_row (d : Nat) (L : List α) : allB (shallow d) (rowV E L) = true := allB_imp (fun _ => shallow_atom d) (atoms_row L)
theorem under_row (m d : Nat) (L : List α) : allB (under m d) (rowV E L) = true := allB_imp (fun _ => under_atom m d) (atoms_row L)
theorem same_row (ρ : Nat → Nat) (L : List α) (t : TypeId) : sameRen ρ (.cells (rowV E L) t) (.cells (rowV E L) t) := ⟨rfl, ⟨[], by rw [ren_row, List.append_nil]⟩, shallow_row 1 L⟩
/-- Cells known one by one, as such a row. -/
theorem same_cells (ρ : Nat → Nat) {c : List Value} {L : List α} (t : TypeId) (h : c = rowV E L) : sameRen ρ (.cells c t) (.cells (rowV E L) t) := h ▸ same_row ρ L t
theorem renO_row (ρ : Nat → Nat) (L : List α) (t : TypeId) : AObj.cells (rowV E L) t = renO ρ (.cells (rowV E L) t) := by
  show _ = AObj.cells ((rowV E L).map (renV ρ 1)) t
  rw [ren_row]
end
theorem notB_t {b : Bool} (h : ¬ (b = true)) : (!b) = true := by cases b <;> simp_all
theorem notB_f {b : Bool} (h : b = true) : (!b) = false := by subst h; rfl
theorem eqB_t {a b : Bool} (h : a = b) : (a == b) = true := by subst h; simp
theorem eqB_f {a b : Bool} (h : ¬ (a = b)) : (a == b) = false := by cases a <;> cases b <;> simp_all
abbrev vi (x : Int) : Value := .int .i64 x
abbrev vs (k o n c : Nat) : Value := .slice (some ⟨k, o, none⟩) n c
abbrev vp (k o : Nat) : Value := .pointer (some ⟨k, o, none⟩)
theorem bT {a b : Int} (h : a = b) : (a == b) = true := beq_iff_eq.2 h
theorem bF {a b : Int} (h : ¬ a = b) : (a == b) = false := beq_eq_false_iff_ne.2 h
/-! ### Rows of the caller's, as rows -/
section
variable {α : Type} {E : Enc α}
end
end Ev
end Go.Proofs.Ytahjcmhiifkniaa
