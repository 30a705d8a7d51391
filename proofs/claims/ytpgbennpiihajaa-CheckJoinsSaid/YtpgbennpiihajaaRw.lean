/- Rows of elements of any kind: each element so many cells. -/
import Derived.Test.YtpgbennpiihajaaFm
namespace Go.Proofs.Ytpgbennpiihajaa
open Go.RowKit
namespace Ev
structure Enc (α : Type) where
 enc : α → List Value
 w : Nat
 dflt : α
 len : ∀ a, (enc a).length = w
 atoms : ∀ a, ZC atom (enc a) = true
def Za {α : Type} (E : Enc α) (L : List α) : List Value := L.flatMap E.enc
section
variable {α : Type} {E : Enc α}
theorem ZiC : Za E [] = [] := rfl
theorem Zdz (x : α) (L : List α) : Za E (x :: L) = E.enc x ++ Za E L := rfl
theorem ZnE (L M : List α) : Za E (L ++ M) = Za E L ++ Za E M := by simp [Za]
theorem ZiD : ∀ L : List α, (Za E L).length = L.length * E.w
 | [] => by simp [ZiC]
 | x :: L => by rw [Zdz, List.length_append, ZiD L, E.len, List.length_cons, Nat.add_mul, Nat.one_mul, Nat.add_comm]
theorem ZoY : ∀ (i : Nat) (L : List α), (Za E L).drop (i * E.w) = Za E (L.drop i)
 | 0, L => by simp
 | i + 1, [] => by simp [ZiC]
 | i + 1, x :: L => by
  rw [Zdz, List.drop_succ_cons, ← ZoY i L, Nat.add_mul, Nat.one_mul, Nat.add_comm, ← List.drop_drop, ← E.len x, List.drop_left]
theorem Zmc : ∀ (i : Nat) (L : List α), (Za E L).take (i * E.w) = Za E (L.take i)
 | 0, L => by simp [ZiC]
 | i + 1, [] => by simp [ZiC]
 | i + 1, x :: L => by
  rw [Zdz, List.take_succ_cons, Zdz, ← Zmc i L, Nat.add_mul, Nat.one_mul, Nat.add_comm, List.take_append, E.len]
  rw [List.take_of_length_le (by rw [E.len]; omega), Nat.add_sub_cancel_left]
theorem Zjp {L : List α} {i : Nat} (h : i < L.length) (d : α) : L.drop i = L.getD i d :: L.drop (i + 1) := by
 rw [List.getD_eq_getElem?_getD, List.getElem?_eq_getElem h, Option.getD_some]
 exact List.drop_eq_getElem_cons h
theorem Zr3 {L : List α} {o i q : Nat} (hi : i < L.length) (ho : o = i * E.w + q) (hq : q ≤ E.w) : (Za E L).drop o = (E.enc (L.getD i E.dflt)).drop q ++ Za E (L.drop (i + 1)) := by
 subst ho
 rw [← List.drop_drop, ZoY, Zjp hi E.dflt, Zdz, List.drop_append, E.len, Nat.sub_eq_zero_of_le hq, List.drop_zero]
theorem ZnF {β : Type} : ∀ (m : Nat) (l : List β), m ≤ l.length → Zy m l = some (l.take m)
 | 0, l, _ => by simp [Zy]
 | m + 1, [], h => by simp at h
 | m + 1, x :: l, h => by
  simp only [Zy]
  rw [ZnF m l (by simpa using h)]
  rfl
theorem ZsV {L : List α} {o i q m : Nat} (hi : i < L.length) (ho : o = i * E.w + q) (hq : q + m ≤ E.w) : Zy m ((Za E L).drop o) = some (((E.enc (L.getD i E.dflt)).drop q).take m) := by
 have hl := E.len (L.getD i E.dflt)
 rw [Zr3 hi ho (by omega), ZnF _ _ (by simp only [List.length_append, List.length_drop, hl]; omega), List.take_append]
 have : m - ((E.enc (L.getD i E.dflt)).drop q).length = 0 := by simp only [List.length_drop, hl]; omega
 rw [this, List.take_zero, List.append_nil]
def Zil : List Cell → Bool
 | [] => true
 | .any :: _ => false
 | .i _ :: l => Zil l
 | .b _ :: l => Zil l
 | .k _ _ :: l => Zil l
 | .s _ :: l => Zil l
theorem ZeD : ∀ {cs : List Cell}, Zil cs = true → ZaA (ZbR cs) cs = true
 | [], _ => rfl
 | c :: l, h => by
  cases c with
  | any => cases h
  | i n => show ((n == n) && ZaA (ZbR l) l) = true; rw [ZeD (cs := l) h]; simp
  | b q => show ((q == q) && ZaA (ZbR l) l) = true; rw [ZeD (cs := l) h]; simp
  | s x => show (dP (x = x) && ZaA (ZbR l) l) = true; rw [ZeD (cs := l) h]; simp [dP]
  | k kk n =>
   by_cases hk : kk = .i64
   ·subst hk; show ((decide (IntKind.i64 = IntKind.i64) && (n == n)) && ZaA (ZbR l) l) = true; rw [ZeD (cs := l) h]; simp
   ·have e : ZaA (.int kk n :: ZbR l) (.k kk n :: l) = ((decide (kk = kk) && (n == n)) && ZaA (ZbR l) l) := by cases kk <;> rfl
    show ZaA (.int kk n :: ZbR l) (.k kk n :: l) = true
    rw [e, ZeD (cs := l) h]; simp
theorem Z3 {L : List α} {o i q m : Nat} {cs : List Cell} (hi : i < L.length) (ho : o = i * E.w + q) (hq : q + m ≤ E.w) (hs : Zil cs = true) (hc : ((E.enc (L.getD i E.dflt)).drop q).take m = ZbR cs) : ZB (Zy m ((Za E L).drop o)) cs = true := by
 rw [ZsV hi ho hq, hc]
 exact ZeD hs
theorem Zdt {L : List α} {o i q : Nat} {l : List Value} (x : α) (hi : i < L.length) (ho : o = i * E.w + q) (hq : q + l.length ≤ E.w) (hx : Zdp (E.enc (L.getD i E.dflt)) q l = E.enc x) : o + l.length ≤ (Za E L).length ∧ Zdp (Za E L) o l = Za E (L.set i x) := by
 have hl := E.len (L.getD i E.dflt)
 have hle : o + l.length ≤ (Za E L).length := by
  have : (i + 1) * E.w ≤ L.length * E.w := Nat.mul_le_mul_right _ hi
  rw [Nat.add_mul, Nat.one_mul] at this
  rw [ZiD]; omega
 refine ⟨hle, ?_⟩
 have e1 : L.set i x = L.take i ++ x :: L.drop (i + 1) := by rw [List.set_eq_take_append_cons_drop, if_pos hi]
 rw [e1, ZnE, Zdz, ← hx]
 unfold Zdp
 have h1 : (Za E L).take o = Za E (L.take i) ++ (E.enc (L.getD i E.dflt)).take q := by
  have hd : Za E L = Za E (L.take i) ++ (E.enc (L.getD i E.dflt) ++ Za E (L.drop (i + 1))) := by
   rw [← Zdz, ← Zjp hi, ← ZnE, List.take_append_drop]
  rw [hd, List.take_append]
  have hlen : (Za E (L.take i)).length = i * E.w := by rw [ZiD, List.length_take]; rw [Nat.min_eq_left (by omega)]
  rw [List.take_of_length_le (by omega), hlen, show o - i * E.w = q by omega, List.take_append]
  rw [show q - (E.enc (L.getD i E.dflt)).length = 0 by omega, List.take_zero, List.append_nil]
 have h2 : (Za E L).drop (o + l.length) = (E.enc (L.getD i E.dflt)).drop (q + l.length) ++ Za E (L.drop (i + 1)) := Zr3 hi (by omega) hq
 rw [h1, h2]
 simp
theorem ZV {L M R : List α} {n m : Nat} (hm : m = n * E.w) (hn : n ≤ L.length) (hR : L.take n ++ M = R) : m ≤ (Za E L).length ∧ (Za E L).take m ++ Za E M = Za E R := by
 subst hm hR
 refine ⟨by rw [ZiD]; exact Nat.mul_le_mul_right _ hn, ?_⟩
 rw [Zmc, ZnE]
theorem ZoZ {L : List α} {c m : Nat} (hc : c ≤ L.length) (hm : m = c * E.w) : m ≤ (Za E L).length := by
 subst hm
 rw [ZiD]
 exact Nat.mul_le_mul_right _ hc
theorem Zqu {L R : List α} {h m : Nat} (hm : m = h * E.w) (hR : L.take h = R) : (Za E L).take m = Za E R := by
 subst hm hR
 exact Zmc h L
/-! ### Such a row is a row of atoms -/
theorem Zhx : ∀ L : List α, ZC atom (Za E L) = true
 | [] => rfl
 | x :: L => by
  have app : ∀ (a b : List Value), ZC atom a = true → ZC atom b = true → ZC atom (a ++ b) = true := by
   intro a b ha hb
   induction a with
   | nil => exact hb
   | cons y a ih =>
    simp only [ZC, Bool.and_eq_true] at ha
    show (atom y && ZC atom (a ++ b)) = true
    rw [ha.1, ih ha.2]; rfl
  rw [Zdz]
  exact app _ _ (E.atoms x) (Zhx L)
theorem ZnG {p q : Value → Bool} (h : ∀ v, p v = true → q v = true) : ∀ {l : List Value}, ZC p l = true → ZC q l = true
 | [], _ => rfl
 | x :: l, hl => by
  simp only [ZC, Bool.and_eq_true] at hl ⊢
  exact ⟨h x hl.1, ZnG h hl.2⟩
theorem Zqv (d : Nat) {v : Value} (h : atom v = true) : Zbl d v = true := by
 cases v with
 | agg => simp [atom] at h
 | tuple => simp [atom] at h
 | func f a b =>
  cases f with
  | func f =>
   simp only [atom, Bool.and_eq_true, Array.isEmpty_iff] at h
   obtain ⟨rfl, rfl⟩ := h
   cases d <;> rfl
  | _ => simp [atom] at h
 | _ => cases d <;> rfl
theorem ZrZ (m d : Nat) {v : Value} (h : atom v = true) : Zcp m d v = true := by
 cases v with
 | agg => simp [atom] at h
 | tuple => simp [atom] at h
 | pointer a => cases a with
  | none => cases d <;> exact h
  | some a => simp [atom] at h
 | slice a n c => cases a with
  | none => cases d <;> exact h
  | some a => simp [atom] at h
 | _ => cases d <;> exact h
theorem Zr4 (ρ : Nat → Nat) (d : Nat) (L : List α) : (Za E L).map (Zb6 ρ d) = Za E L := by
 have : ∀ l : List Value, ZC atom l = true → l.map (Zb6 ρ d) = l := fun l => by
  induction l with
  | nil => intro _; rfl
  | cons y l ih =>
   intro h
   simp only [ZC, Bool.and_eq_true] at h
   rw [List.map_cons, ih h.2, Zhv d h.1]
 exact this _ (Zhx L)
theorem Zrj (d : Nat) (L : List α) : ZC (Zbl d) (Za E L) = true := ZnG (fun _ => Zqv d) (Zhx L)
theorem Zi (m d : Nat) (L : List α) : ZC (Zcp m d) (Za E L) = true := ZnG (fun _ => ZrZ m d) (Zhx L)
theorem Ze (ρ : Nat → Nat) (L : List α) (t : TypeId) : ZmQ ρ (.cells (Za E L) t) (.cells (Za E L) t) := ⟨rfl, ⟨[], by rw [Zr4, List.append_nil]⟩, Zrj 1 L⟩
theorem Zbd (ρ : Nat → Nat) {c : List Value} {L : List α} (t : TypeId) (h : c = Za E L) : ZmQ ρ (.cells c t) (.cells (Za E L) t) := h ▸ Ze ρ L t
theorem Zm (ρ : Nat → Nat) (L : List α) (t : TypeId) : AObj.cells (Za E L) t = Zj0 ρ (.cells (Za E L) t) := by
 show _ = AObj.cells ((Za E L).map (Zb6 ρ 1)) t
 rw [Zr4]
end
theorem Zqw {b : Bool} (h : ¬ (b = true)) : (!b) = true := by cases b <;> simp_all
theorem Zqx {b : Bool} (h : b = true) : (!b) = false := by subst h; rfl
def encI (k : IntKind) : Enc Int := ⟨fun n => [.int k n], 1, 0, fun _ => rfl, fun _ => rfl⟩
abbrev eI : Enc Int := encI .i64
abbrev vi (x : Int) : Value := .int .i64 x
abbrev vs (k o n c : Nat) : Value := .slice (some ⟨k, o, none⟩) n c
abbrev vp (k o : Nat) : Value := .pointer (some ⟨k, o, none⟩)
theorem bT {a b : Int} (h : a = b) : (a == b) = true := beq_iff_eq.2 h
theorem bF {a b : Int} (h : ¬ a = b) : (a == b) = false := beq_eq_false_iff_ne.2 h
/-! ### Rows of the caller's, as rows -/
theorem ZiE : ∀ {c : List Value} {l : List Cell}, Zil l = true → ZaA c l = true → c = ZbR l
 | [], [], _, _ => rfl
 | [], b :: l, _, h => by cases b <;> simp [ZaA] at h
 | x :: c, [], _, h => by cases x <;> simp [ZaA] at h
 | x :: c, b :: l, hs, h => by
  cases b with
  | any => cases hs
  | i n =>
   cases x with
   | int k a =>
    cases k <;> simp only [ZaA, Bool.and_eq_true, Bool.false_eq_true, beq_iff_eq] at h
    rw [h.1, ZiE (c := c) (l := l) hs h.2]; rfl
   | _ => simp [ZaA] at h
  | b q =>
   cases x with
   | bool a =>
    simp only [ZaA, Bool.and_eq_true, beq_iff_eq] at h
    rw [h.1, ZiE (c := c) (l := l) hs h.2]; rfl
   | int k a => cases k <;> simp [ZaA] at h
   | _ => simp [ZaA] at h
  | s y =>
   cases x with
   | string a =>
    simp only [ZaA, Bool.and_eq_true] at h
    rw [Zb7.1 h.1, ZiE (c := c) (l := l) hs h.2]; rfl
   | int k a => cases k <;> simp [ZaA] at h
   | _ => simp [ZaA] at h
  | k kk n =>
   cases x with
   | int k a =>
    have h' : (decide (k = kk) && (a == n)) = true ∧ ZaA c l = true := by
     cases k <;> simpa only [ZaA, Bool.and_eq_true] using h
    simp only [Bool.and_eq_true, decide_eq_true_eq, beq_iff_eq] at h'
    rw [h'.1.1, h'.1.2, ZiE (c := c) (l := l) hs h'.2]; rfl
   | _ => simp [ZaA] at h
theorem ZsW {r : Option (List Value)} {l : List Cell} (hs : Zil l = true) (h : ZB r l = true) : r = some (ZbR l) := by
 unfold ZB at h
 split at h
 ·rw [ZiE hs h]
 ·cases h
theorem Zs1 {β : Type} {l : List β} : ∀ {m k : Nat} {a b : List β}, Zy m l = some a → Zy k (l.drop m) = some b → Zy (m + k) l = some (a ++ b) := by
 intro m k a b h1 h2
 obtain ⟨l1, e1⟩ := Zqm h1
 obtain ⟨l2, e2⟩ := Zqm h2
 rw [ZnF _ _ (by simp at l2; omega), e1, e2, List.take_add]
theorem Zs2 {O : Obj} {o m k : Nat} {a b : List Value} (h1 : ZaP O o m = some a) (h2 : ZaP O (o + m) k = some b) : ZaP O o (m + k) = some (a ++ b) := by
 unfold ZaP at h1 h2 ⊢
 split at h1
 ·exact Zs1 h1 (by rw [List.drop_drop]; exact h2)
 ·cases h1
section
variable {α : Type} {E : Enc α}
theorem Zr5 {O : Obj} {o : Nat} {L : List α} (h : ∀ i, i < L.length → ZaP O (o + i * E.w) E.w = some (E.enc (L.getD i E.dflt))) : ∀ n a, a + (n + 1) ≤ L.length → ZaP O (o + a * E.w) ((n + 1) * E.w) = some (Za E ((L.drop a).take (n + 1)))
 | 0, a, ha => by
  rw [Zjp (by omega) E.dflt, List.take_succ_cons, List.take_zero, Zdz, ZiC, List.append_nil, Nat.zero_add, Nat.one_mul]
  exact h a (by omega)
 | n + 1, a, ha => by
  have h1 := h a (by omega)
  have h2 := Zr5 h n (a + 1) (by omega)
  rw [Zjp (by omega) E.dflt, List.take_succ_cons, Zdz, show (n + 1 + 1) * E.w = E.w + (n + 1) * E.w by rw [Nat.add_mul, Nat.one_mul, Nat.add_comm]]
  refine Zs2 h1 ?_
  rw [show o + a * E.w + E.w = o + (a + 1) * E.w by rw [Nat.add_mul, Nat.one_mul, Nat.add_assoc]]
  exact h2
theorem Zol {O : Obj} {o b a n m : Nat} {L R : List α} {C : α → List Cell} (F : ∀ i, i < L.length → Zgj O (b + i * E.w) (C (L.getD i E.dflt))) (hC : ∀ x, Zil (C x) = true ∧ ZbR (C x) = E.enc x) (h0 : 0 < n) (ha : a + n ≤ L.length) (ho : o = b + a * E.w) (hm : m = n * E.w) (hR : (L.drop a).take n = R) : ZaP O o m = some (Za E R) ∧ ZC atom (Za E R) = true := by
 subst ho hm hR
 refine ⟨?_, Zhx _⟩
 obtain ⟨k, rfl⟩ : ∃ k, n = k + 1 := ⟨n - 1, by omega⟩
 refine Zr5 (fun i hi => ?_) k a ha
 obtain ⟨c1, c2⟩ := hC (L.getD i E.dflt)
 have hl : (C (L.getD i E.dflt)).length = E.w := by
  have := congrArg List.length c2
  rw [E.len] at this
  simpa [ZbR] using this
 have := F i hi 0 E.w (by omega)
 rw [List.drop_zero, Nat.add_zero, List.take_of_length_le (by omega)] at this
 rw [ZsW c1 this, c2]
end
end Ev
end Go.Proofs.Ytpgbennpiihajaa
