/- Rows of elements of any kind: each element so many cells. -/
import Derived.Test.YtldlnclkdgfahaaGreatFm
namespace Go.Proofs.YtldlnclkdgfahaaGreat
open Go.RowKit
namespace Ev
/-- How an element is written as cells. -/
structure Enc (α : Type) where
  enc : α → List Value
  w : Nat
  dflt : α
  len : ∀ a, (enc a).length = w
  atoms : ∀ a, allB atom (enc a) = true
def rowV {α : Type} (E : Enc α) (L : List α) : List Value := L.flatMap E.enc
section
variable {α : Type} {E : Enc α}
theorem rowV_nil : rowV E [] = [] := rfl
theorem rowV_cons (x : α) (L : List α) : rowV E (x :: L) = E.enc x ++ rowV E L := rfl
theorem rowV_app (L M : List α) : rowV E (L ++ M) = rowV E L ++ rowV E M := by simp [rowV]
theorem rowV_len : ∀ L : List α, (rowV E L).length = L.length * E.w
  | [] => by simp [rowV_nil]
  | x :: L => by rw [rowV_cons, List.length_append, rowV_len L, E.len, List.length_cons, Nat.add_mul, Nat.one_mul, Nat.add_comm]
theorem rowV_drop : ∀ (i : Nat) (L : List α), (rowV E L).drop (i * E.w) = rowV E (L.drop i)
  | 0, L => by simp
  | i + 1, [] => by simp [rowV_nil]
  | i + 1, x :: L => by
    rw [rowV_cons, List.drop_succ_cons, ← rowV_drop i L, Nat.add_mul, Nat.one_mul, Nat.add_comm, ← List.drop_drop, ← E.len x, List.drop_left]
theorem rowV_take : ∀ (i : Nat) (L : List α), (rowV E L).take (i * E.w) = rowV E (L.take i)
  | 0, L => by simp [rowV_nil]
  | i + 1, [] => by simp [rowV_nil]
  | i + 1, x :: L => by
    rw [rowV_cons, List.take_succ_cons, rowV_cons, ← rowV_take i L, Nat.add_mul, Nat.one_mul, Nat.add_comm, List.take_append, E.len]
    rw [List.take_of_length_le (by rw [E.len]; omega), Nat.add_sub_cancel_left]
theorem getD_drop {L : List α} {i : Nat} (h : i < L.length) (d : α) : L.drop i = L.getD i d :: L.drop (i + 1) := by
  rw [List.getD_eq_getElem?_getD, List.getElem?_eq_getElem h, Option.getD_some]
  exact List.drop_eq_getElem_cons h
theorem rowV_at {L : List α} {o i q : Nat} (hi : i < L.length) (ho : o = i * E.w + q) (hq : q ≤ E.w) : (rowV E L).drop o = (E.enc (L.getD i E.dflt)).drop q ++ rowV E (L.drop (i + 1)) := by
  subst ho
  rw [← List.drop_drop, rowV_drop, getD_drop hi E.dflt, rowV_cons, List.drop_append, E.len, Nat.sub_eq_zero_of_le hq, List.drop_zero]
theorem takeN_le {β : Type} : ∀ (m : Nat) (l : List β), m ≤ l.length → takeN m l = some (l.take m)
  | 0, l, _ => by simp [takeN]
  | m + 1, [], h => by simp at h
  | m + 1, x :: l, h => by
    simp only [takeN]
    rw [takeN_le m l (by simpa using h)]
    rfl
/-- Some cells of an element. -/
theorem rowV_get {L : List α} {o i q m : Nat} (hi : i < L.length) (ho : o = i * E.w + q) (hq : q + m ≤ E.w) : takeN m ((rowV E L).drop o) = some (((E.enc (L.getD i E.dflt)).drop q).take m) := by
  have hl := E.len (L.getD i E.dflt)
  rw [rowV_at hi ho (by omega), takeN_le _ _ (by simp only [List.length_append, List.length_drop, hl]; omega), List.take_append]
  have : m - ((E.enc (L.getD i E.dflt)).drop q).length = 0 := by simp only [List.length_drop, hl]; omega
  rw [this, List.take_zero, List.append_nil]
/-- Told without guess. -/
def sureC : List Cell → Bool
  | [] => true
  | .any :: _ => false
  | .i _ :: l => sureC l
  | .b _ :: l => sureC l
  | .k _ _ :: l => sureC l
  | .s _ :: l => sureC l
theorem sameC_cells : ∀ {cs : List Cell}, sureC cs = true → sameC (cellsV cs) cs = true
  | [], _ => rfl
  | c :: l, h => by
    cases c with
    | any => cases h
    | i n => show ((n == n) && sameC (cellsV l) l) = true; rw [sameC_cells (cs := l) h]; simp
    | b q => show ((q == q) && sameC (cellsV l) l) = true; rw [sameC_cells (cs := l) h]; simp
    | s x => show (dP (x = x) && sameC (cellsV l) l) = true; rw [sameC_cells (cs := l) h]; simp [dP]
    | k kk n =>
      by_cases hk : kk = .i64
      · subst hk; show ((decide (IntKind.i64 = IntKind.i64) && (n == n)) && sameC (cellsV l) l) = true; rw [sameC_cells (cs := l) h]; simp
      · have e : sameC (.int kk n :: cellsV l) (.k kk n :: l) = ((decide (kk = kk) && (n == n)) && sameC (cellsV l) l) := by cases kk <;> rfl
        show sameC (.int kk n :: cellsV l) (.k kk n :: l) = true
        rw [e, sameC_cells (cs := l) h]; simp
theorem rowV_load {L : List α} {o i q m : Nat} {cs : List Cell} (hi : i < L.length) (ho : o = i * E.w + q) (hq : q + m ≤ E.w) (hs : sureC cs = true) (hc : ((E.enc (L.getD i E.dflt)).drop q).take m = cellsV cs) : sameR (takeN m ((rowV E L).drop o)) cs = true := by
  rw [rowV_get hi ho hq, hc]
  exact sameC_cells hs
theorem rowV_cell {L : List α} {o i q : Nat} {v : Value} (hi : i < L.length) (ho : o = i * E.w + q) (hq : q + 1 ≤ E.w) (hc : ((E.enc (L.getD i E.dflt)).drop q).take 1 = [v]) : takeN 1 ((rowV E L).drop o) = some [v] := by
  rw [rowV_get hi ho hq, hc]
/-- Some cells of an element, anew. -/
theorem rowV_put {L : List α} {o i q : Nat} {l : List Value} (x : α) (hi : i < L.length) (ho : o = i * E.w + q) (hq : q + l.length ≤ E.w) (hx : putN (E.enc (L.getD i E.dflt)) q l = E.enc x) : o + l.length ≤ (rowV E L).length ∧ putN (rowV E L) o l = rowV E (L.set i x) := by
  have hl := E.len (L.getD i E.dflt)
  have hle : o + l.length ≤ (rowV E L).length := by
    have : (i + 1) * E.w ≤ L.length * E.w := Nat.mul_le_mul_right _ hi
    rw [Nat.add_mul, Nat.one_mul] at this
    rw [rowV_len]; omega
  refine ⟨hle, ?_⟩
  have e1 : L.set i x = L.take i ++ x :: L.drop (i + 1) := by rw [List.set_eq_take_append_cons_drop, if_pos hi]
  rw [e1, rowV_app, rowV_cons, ← hx]
  unfold putN
  have h1 : (rowV E L).take o = rowV E (L.take i) ++ (E.enc (L.getD i E.dflt)).take q := by
    have hd : rowV E L = rowV E (L.take i) ++ (E.enc (L.getD i E.dflt) ++ rowV E (L.drop (i + 1))) := by
      rw [← rowV_cons, ← getD_drop hi, ← rowV_app, List.take_append_drop]
    rw [hd, List.take_append]
    have hlen : (rowV E (L.take i)).length = i * E.w := by rw [rowV_len, List.length_take]; rw [Nat.min_eq_left (by omega)]
    rw [List.take_of_length_le (by omega), hlen, show o - i * E.w = q by omega, List.take_append]
    rw [show q - (E.enc (L.getD i E.dflt)).length = 0 by omega, List.take_zero, List.append_nil]
  have h2 : (rowV E L).drop (o + l.length) = (E.enc (L.getD i E.dflt)).drop (q + l.length) ++ rowV E (L.drop (i + 1)) := rowV_at hi (by omega) hq
  rw [h1, h2]
  simp
theorem rowV_src {L R : List α} {o a n m : Nat} (ha : a + n ≤ L.length) (ho : o = a * E.w) (hm : m = n * E.w) (hR : (L.drop a).take n = R) : takeN m ((rowV E L).drop o) = some (rowV E R) := by
  subst ho hm hR
  rw [rowV_drop, takeN_le, rowV_take]
  rw [rowV_len, List.length_drop]
  exact Nat.mul_le_mul_right _ (by omega)
theorem rowV_dst {L M R : List α} {n m : Nat} (hm : m = n * E.w) (hn : n ≤ L.length) (hR : L.take n ++ M = R) : m ≤ (rowV E L).length ∧ (rowV E L).take m ++ rowV E M = rowV E R := by
  subst hm hR
  refine ⟨by rw [rowV_len]; exact Nat.mul_le_mul_right _ hn, ?_⟩
  rw [rowV_take, rowV_app]
theorem rowV_room {L : List α} {c m : Nat} (hc : c ≤ L.length) (hm : m = c * E.w) : m ≤ (rowV E L).length := by
  subst hm
  rw [rowV_len]
  exact Nat.mul_le_mul_right _ hc
theorem rowV_cut {L R : List α} {h m : Nat} (hm : m = h * E.w) (hR : L.take h = R) : (rowV E L).take m = rowV E R := by
  subst hm hR
  exact rowV_take h L
theorem rowV_getE {L : List α} (j : Nat) (hw : 0 < E.w) : (rowV E L)[j]? = if h : j / E.w < L.length then (E.enc (L[j / E.w]'h))[j % E.w]? else none := by
  by_cases h : j / E.w < L.length
  · rw [dif_pos h]
    have hj : j = (j / E.w) * E.w + j % E.w := by rw [Nat.mul_comm]; exact (Nat.div_add_mod j E.w).symm
    have hr : j % E.w < E.w := Nat.mod_lt _ hw
    have := rowV_at (E := E) h hj (Nat.le_of_lt hr)
    have h0 : ((rowV E L).drop j)[0]? = (rowV E L)[j]? := by rw [List.getElem?_drop]; rfl
    rw [← h0, this, List.getElem?_append_left (by rw [List.length_drop, E.len]; omega), List.getElem?_drop, Nat.add_zero]
    rw [List.getD_eq_getElem?_getD, List.getElem?_eq_getElem h, Option.getD_some]
  · rw [dif_neg h, List.getElem?_eq_none]
    rw [rowV_len]
    have : L.length ≤ j / E.w := by omega
    exact (Nat.le_div_iff_mul_le hw).1 this
/-- Elements that are all the same. -/
theorem rowV_rep {z : List Value} (x : α) (n : Nat) (hw : 0 < E.w) (hz : E.enc x = z) {m : Nat} (hm : m = n * E.w) : rep z m = rowV E (List.replicate n x) := by
  subst hz hm
  apply List.ext_getElem?
  intro j
  rw [rowV_getE j hw]
  have hl := E.len x
  by_cases h : j < n * E.w
  · have h' : j / E.w < n := (Nat.div_lt_iff_lt_mul hw).2 h
    rw [dif_pos (by simpa using h')]
    have : (rep (E.enc x) (n * E.w))[j]? = some ((E.enc x).getD (j % (E.enc x).length) undef) := by simp [rep, h]
    rw [this, List.getElem_replicate, hl, List.getD_eq_getElem?_getD]
    have hr : j % E.w < (E.enc x).length := by rw [hl]; exact Nat.mod_lt _ hw
    rw [List.getElem?_eq_getElem hr, Option.getD_some]
  · rw [dif_neg (by simp; exact (Nat.le_div_iff_mul_le hw).2 (by omega)), List.getElem?_eq_none]
    simp [rep]; omega
/-! ### Such a row is a row of atoms -/
theorem atoms_row : ∀ L : List α, allB atom (rowV E L) = true
  | [] => rfl
  | x :: L => by
    have app : ∀ (a b : List Value), allB atom a = true → allB atom b = true → allB atom (a ++ b) = true := by
      intro a b ha hb
      induction a with
      | nil => exact hb
      | cons y a ih =>
        simp only [allB, Bool.and_eq_true] at ha
        show (atom y && allB atom (a ++ b)) = true
        rw [ha.1, ih ha.2]; rfl
    rw [rowV_cons]
    exact app _ _ (E.atoms x) (atoms_row L)
theorem allB_imp {p q : Value → Bool} (h : ∀ v, p v = true → q v = true) : ∀ {l : List Value}, allB p l = true → allB q l = true
  | [], _ => rfl
  | x :: l, hl => by
    simp only [allB, Bool.and_eq_true] at hl ⊢
    exact ⟨h x hl.1, allB_imp h hl.2⟩
theorem shallow_atom (d : Nat) {v : Value} (h : atom v = true) : shallow d v = true := by
  cases v with
  | agg => simp [atom] at h
  | tuple => simp [atom] at h
  | func f a b =>
    cases f with
    | func f =>
      simp only [atom, Bool.and_eq_true, Array.isEmpty_iff] at h
      obtain ⟨rfl, rfl⟩ := h
      cases d <;> rfl
    | _ => simp [atom] at h
  | _ => cases d <;> rfl
theorem under_atom (m d : Nat) {v : Value} (h : atom v = true) : under m d v = true := by
  cases v with
  | agg => simp [atom] at h
  | tuple => simp [atom] at h
  | pointer a => cases a with
    | none => cases d <;> exact h
    | some a => simp [atom] at h
  | slice a n c => cases a with
    | none => cases d <;> exact h
    | some a => simp [atom] at h
  | map a => cases a with
    | none => cases d <;> exact h
    | some a => simp [atom] at h
  | _ => cases d <;> exact h
theorem cell1_atom {v : Value} (h : atom v = true) : cell1 v = true := by
  cases v <;> first | rfl | simp [atom] at h
theorem ren_row (ρ : Nat → Nat) (d : Nat) (L : List α) : (rowV E L).map (renV ρ d) = rowV E L := by
  have : ∀ l : List Value, allB atom l = true → l.map (renV ρ d) = l := fun l => by
    induction l with
    | nil => intro _; rfl
    | cons y l ih =>
      intro h
      simp only [allB, Bool.and_eq_true] at h
      rw [List.map_cons, ih h.2, renV_atom d h.1]
  exact this _ (atoms_row L)
theorem shallow_row (d : Nat) (L : List α) : allB (shallow d) (rowV E L) = true := allB_imp (fun _ => shallow_atom d) (atoms_row L)
theorem under_row (m d : Nat) (L : List α) : allB (under m d) (rowV E L) = true := allB_imp (fun _ => under_atom m d) (atoms_row L)
theorem cell1_row (L : List α) : allB cell1 (rowV E L) = true := allB_imp (fun _ => cell1_atom) (atoms_row L)
theorem same_row (ρ : Nat → Nat) (L : List α) (t : TypeId) : sameRen ρ (.cells (rowV E L) t) (.cells (rowV E L) t) := ⟨rfl, ⟨[], by rw [ren_row, List.append_nil]⟩, shallow_row 1 L⟩
theorem same_row' (ρ : Nat → Nat) {l l' : List α} (t : TypeId) (h : l = l') : sameRen ρ (.cells (rowV E l) t) (.cells (rowV E l') t) := h ▸ same_row ρ l t
/-- Cells known one by one, as such a row. -/
theorem same_cells (ρ : Nat → Nat) {c : List Value} {L : List α} (t : TypeId) (h : c = rowV E L) : sameRen ρ (.cells c t) (.cells (rowV E L) t) := h ▸ same_row ρ L t
theorem renO_row (ρ : Nat → Nat) (L : List α) (t : TypeId) : AObj.cells (rowV E L) t = renO ρ (.cells (rowV E L) t) := by
  show _ = AObj.cells ((rowV E L).map (renV ρ 1)) t
  rw [ren_row]
theorem row_eq {a b : List α} (h : a = b) : rowV E a = rowV E b := by rw [h]
theorem src_row {L R : List α} {o a n m : Nat} (ha : a + n ≤ L.length) (ho : o = a * E.w) (hm : m = n * E.w) (hR : (L.drop a).take n = R) : takeN m ((rowV E L).drop o) = some (rowV E R) ∧ allB cell1 (rowV E R) = true := ⟨rowV_src ha ho hm hR, cell1_row R⟩
end
theorem notB_t {b : Bool} (h : ¬ (b = true)) : (!b) = true := by cases b <;> simp_all
theorem notB_f {b : Bool} (h : b = true) : (!b) = false := by subst h; rfl
theorem eqB_t {a b : Bool} (h : a = b) : (a == b) = true := by subst h; simp
theorem eqB_f {a b : Bool} (h : ¬ (a = b)) : (a == b) = false := by cases a <;> cases b <;> simp_all
theorem neB_t {a b : Bool} (h : ¬ (a = b)) : (!(a == b)) = true := by rw [eqB_f h]; rfl
theorem neB_f {a b : Bool} (h : a = b) : (!(a == b)) = false := by rw [eqB_t h]; rfl
def encI (k : IntKind) : Enc Int := ⟨fun n => [.int k n], 1, 0, fun _ => rfl, fun _ => rfl⟩
abbrev eI : Enc Int := encI .i64
abbrev vi (x : Int) : Value := .int .i64 x
abbrev vs (k o n c : Nat) : Value := .slice (some ⟨k, o, none⟩) n c
abbrev vp (k o : Nat) : Value := .pointer (some ⟨k, o, none⟩)
theorem bT {a b : Int} (h : a = b) : (a == b) = true := beq_iff_eq.2 h
theorem bF {a b : Int} (h : ¬ a = b) : (a == b) = false := beq_eq_false_iff_ne.2 h
def encB : Enc Bool := ⟨fun b => [.bool b], 1, false, fun _ => rfl, fun _ => rfl⟩
/-! ### Rows of the caller's, as rows -/
theorem sameC_eq : ∀ {c : List Value} {l : List Cell}, sureC l = true → sameC c l = true → c = cellsV l
  | [], [], _, _ => rfl
  | [], b :: l, _, h => by cases b <;> simp [sameC] at h
  | x :: c, [], _, h => by cases x <;> simp [sameC] at h
  | x :: c, b :: l, hs, h => by
    cases b with
    | any => cases hs
    | i n =>
      cases x with
      | int k a =>
        cases k <;> simp only [sameC, Bool.and_eq_true, Bool.false_eq_true, beq_iff_eq] at h
        rw [h.1, sameC_eq (c := c) (l := l) hs h.2]; rfl
      | _ => simp [sameC] at h
    | b q =>
      cases x with
      | bool a =>
        simp only [sameC, Bool.and_eq_true, beq_iff_eq] at h
        rw [h.1, sameC_eq (c := c) (l := l) hs h.2]; rfl
      | int k a => cases k <;> simp [sameC] at h
      | _ => simp [sameC] at h
    | s y =>
      cases x with
      | string a =>
        simp only [sameC, Bool.and_eq_true] at h
        rw [dP_iff.1 h.1, sameC_eq (c := c) (l := l) hs h.2]; rfl
      | int k a => cases k <;> simp [sameC] at h
      | _ => simp [sameC] at h
    | k kk n =>
      cases x with
      | int k a =>
        have h' : (decide (k = kk) && (a == n)) = true ∧ sameC c l = true := by
          cases k <;> simpa only [sameC, Bool.and_eq_true] using h
        simp only [Bool.and_eq_true, decide_eq_true_eq, beq_iff_eq] at h'
        rw [h'.1.1, h'.1.2, sameC_eq (c := c) (l := l) hs h'.2]; rfl
      | _ => simp [sameC] at h
theorem sameR_eq {r : Option (List Value)} {l : List Cell} (hs : sureC l = true) (h : sameR r l = true) : r = some (cellsV l) := by
  unfold sameR at h
  split at h
  · rw [sameC_eq hs h]
  · cases h
theorem takeN_add {β : Type} {l : List β} : ∀ {m k : Nat} {a b : List β}, takeN m l = some a → takeN k (l.drop m) = some b → takeN (m + k) l = some (a ++ b) := by
  intro m k a b h1 h2
  obtain ⟨l1, e1⟩ := takeN_of h1
  obtain ⟨l2, e2⟩ := takeN_of h2
  rw [takeN_le _ _ (by simp at l2; omega), e1, e2, List.take_add]
theorem roRow_add {O : Obj} {o m k : Nat} {a b : List Value} (h1 : roRow O o m = some a) (h2 : roRow O (o + m) k = some b) : roRow O o (m + k) = some (a ++ b) := by
  unfold roRow at h1 h2 ⊢
  split at h1
  · exact takeN_add h1 (by rw [List.drop_drop]; exact h2)
  · cases h1
section
variable {α : Type} {E : Enc α}
theorem ro_rows {O : Obj} {o : Nat} {L : List α} (h : ∀ i, i < L.length → roRow O (o + i * E.w) E.w = some (E.enc (L.getD i E.dflt))) : ∀ n a, a + (n + 1) ≤ L.length → roRow O (o + a * E.w) ((n + 1) * E.w) = some (rowV E ((L.drop a).take (n + 1)))
  | 0, a, ha => by
    rw [getD_drop (by omega) E.dflt, List.take_succ_cons, List.take_zero, rowV_cons, rowV_nil, List.append_nil, Nat.zero_add, Nat.one_mul]
    exact h a (by omega)
  | n + 1, a, ha => by
    have h1 := h a (by omega)
    have h2 := ro_rows h n (a + 1) (by omega)
    rw [getD_drop (by omega) E.dflt, List.take_succ_cons, rowV_cons, show (n + 1 + 1) * E.w = E.w + (n + 1) * E.w by rw [Nat.add_mul, Nat.one_mul, Nat.add_comm]]
    refine roRow_add h1 ?_
    rw [show o + a * E.w + E.w = o + (a + 1) * E.w by rw [Nat.add_mul, Nat.one_mul, Nat.add_assoc]]
    exact h2
/-- What is appended, of a row of the caller's. -/
theorem src_ro {O : Obj} {o b a n m : Nat} {L R : List α} {C : α → List Cell} (F : ∀ i, i < L.length → RowOK O (b + i * E.w) (C (L.getD i E.dflt))) (hC : ∀ x, sureC (C x) = true ∧ cellsV (C x) = E.enc x) (h0 : 0 < n) (ha : a + n ≤ L.length) (ho : o = b + a * E.w) (hm : m = n * E.w) (hR : (L.drop a).take n = R) : roRow O o m = some (rowV E R) ∧ allB atom (rowV E R) = true := by
  subst ho hm hR
  refine ⟨?_, atoms_row _⟩
  obtain ⟨k, rfl⟩ : ∃ k, n = k + 1 := ⟨n - 1, by omega⟩
  refine ro_rows (fun i hi => ?_) k a ha
  obtain ⟨c1, c2⟩ := hC (L.getD i E.dflt)
  have hl : (C (L.getD i E.dflt)).length = E.w := by
    have := congrArg List.length c2
    rw [E.len] at this
    simpa [cellsV] using this
  have := F i hi 0 E.w (by omega)
  rw [List.drop_zero, Nat.add_zero, List.take_of_length_le (by omega)] at this
  rw [sameR_eq c1 this, c2]
end
theorem rowV_load_all {α : Type} {E : Enc α} {L : List α} {n m : Nat} {cs : List Cell} (hn : L.length = n) (hm : m = n * E.w) (hs : sureC cs = true) (hc : rowV E ((List.range n).map fun i => L.getD i E.dflt) = cellsV cs) : sameR (takeN m (List.drop 0 (rowV E L))) cs = true := by
  have e : (List.range n).map (fun i => L.getD i E.dflt) = L := by
    apply List.ext_getElem?
    intro i
    by_cases hi : i < n
    · rw [List.getElem?_map, List.getElem?_range hi, Option.map_some, List.getD_eq_getElem?_getD, List.getElem?_eq_getElem (by omega), Option.getD_some]
    · rw [List.getElem?_eq_none (by simp; omega), List.getElem?_eq_none (by omega)]
  rw [e] at hc
  rw [List.drop_zero, takeN_le _ _ (by rw [rowV_len, hn, hm]; exact Nat.le_refl _), List.take_of_length_le (by rw [rowV_len, hn, hm]; exact Nat.le_refl _), hc]
  exact sameC_cells hs
/-! ### Bytes as strings -/
/-- What is read of a row of the caller's. -/
noncomputable def roS (O : Obj) (o m : Nat) : Option (List Value) := bif Nat.beq m 0 then some [] else match roRow O o m with
  | some l => bif allB atom l then some l else none
  | none => none
theorem rowV_u8 : ∀ L : List Int, rowV (encI .u8) L = L.map (Value.int .u8)
  | [] => rfl
  | x :: L => by rw [rowV_cons, rowV_u8 L]; rfl
theorem bs_row {L R : List Int} {o a n : Nat} (ha : a + n ≤ L.length) (ho : o = a * 1) (hR : (L.drop a).take n = R) : takeN n ((rowV (encI .u8) L).drop o) = some (R.map (Value.int .u8)) := by
  rw [← rowV_u8]
  exact rowV_src (E := encI .u8) ha ho (show n = n * 1 from (Nat.mul_one n).symm) hR
theorem bs_ro {O : Obj} {o b a n : Nat} {L R : List Int} (F : ∀ i, i < L.length → RowOK O (b + i * 1) [.k .u8 (L.getD i 0)]) (ha : a + n ≤ L.length) (ho : o = b + a * 1) (hR : (L.drop a).take n = R) : roS O o n = some (R.map (Value.int .u8)) := by
  unfold roS
  by_cases h0 : n = 0
  · subst h0
    rw [List.take_zero] at hR
    subst hR
    rfl
  · have h := src_ro (E := encI .u8) (O := O) (C := fun x => [.k .u8 x]) (L := L) (R := R) F (fun x => ⟨rfl, rfl⟩) (show 0 < n by omega) ha ho (show n = n * 1 from (Nat.mul_one n).symm) hR
    have hb : Nat.beq n 0 = false := by cases n with | zero => exact absurd rfl h0 | succ n => rfl
    rw [hb, h.1]
    simp only [cond_false, h.2, cond_true]
    rw [rowV_u8]
end Ev
end Go.Proofs.YtldlnclkdgfahaaGreat
