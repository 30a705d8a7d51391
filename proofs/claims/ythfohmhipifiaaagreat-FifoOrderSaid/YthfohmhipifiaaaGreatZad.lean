/- Part 4. -/
import Derived.Test.YthfohmhipifiaaaGreatZac
set_option linter.unusedSimpArgs false
set_option linter.unusedVariables false
/- Rows of elements of any kind: each element so many cells. -/
namespace Go.Proofs.YthfohmhipifiaaaGreat
open Go.RowKit
namespace Ev
noncomputable section
def Ze4 : List Cell → Bool
 | [] => true
 | .any :: _ => false
 | .i _ :: l => Ze4 l
 | .b _ :: l => Ze4 l
 | .k _ _ :: l => Ze4 l
 | .s _ :: l => Ze4 l
 | .m _ _ _ _ :: l => Ze4 l
structure Enc (α : Type) where
 cel : α → List Cell
 w : Nat
 dflt : α
 clen : ∀ a, (cel a).length = w
 sure : ∀ a, Ze4 (cel a) = true
def Enc.enc {α : Type} (E : Enc α) (a : α) : List Value := Zl (E.cel a)
theorem Enc.len {α : Type} (E : Enc α) (a : α) : (E.enc a).length = E.w := by unfold Enc.enc Zl; rw [List.length_map, E.clen]
def Ze5 : Value → Bool
 | .pointer (some ⟨_, _, some _⟩) => true
 | .slice (some ⟨_, _, some _⟩) _ _ => true
 | v => atom v
theorem ZsN : ∀ l : List Cell, Ze4 l = true → Zu Ze5 (Zl l) = true
 | [], _ => rfl
 | c :: l, h => by
  show (Ze5 (ZdN c) && Zu Ze5 (Zl l)) = true;cases c with
  | any => cases h
  | _ => rw [ZsN l h]; rfl
theorem Enc.atoms {α : Type} (E : Enc α) (a : α) : Zu Ze5 (E.enc a) = true := ZsN _ (E.sure a)
def Za {α : Type} (E : Enc α) (L : List α) : List Value := L.flatMap E.enc
def Z9 {α : Type} (E : Enc α) (L : List α) : List Cell := L.flatMap E.cel
section
variable {α : Type} {E : Enc α}
theorem Zgc : Za E [] = [] := rfl
theorem ZcX (x : α) (L : List α) : Za E (x :: L) = E.enc x ++ Za E L := rfl
theorem Zkx (L M : List α) : Za E (L ++ M) = Za E L ++ Za E M := by simp [Za]
theorem ZdI : ∀ L : List α, (Za E L).length = L.length * E.w
 | [] => by simp [Zgc]
 | x :: L => by rw [ZcX, List.length_append, ZdI L, E.len, List.length_cons, Nat.add_mul, Nat.one_mul, Nat.add_comm]
theorem ZoK : ∀ (i : Nat) (L : List α), (Za E L).drop (i * E.w) = Za E (L.drop i)
 | 0, L => by simp
 | i + 1, [] => by simp [Zgc]
 | i + 1, x :: L => by rw [ZcX, List.drop_succ_cons, ← ZoK i L, Nat.add_mul, Nat.one_mul, Nat.add_comm, ← List.drop_drop, ← E.len x, List.drop_left]
theorem Zld : ∀ (i : Nat) (L : List α), (Za E L).take (i * E.w) = Za E (L.take i)
 | 0, L => by simp [Zgc]
 | i + 1, [] => by simp [Zgc]
 | i + 1, x :: L => by rw [ZcX, List.take_succ_cons, ZcX, ← Zld i L, Nat.add_mul, Nat.one_mul, Nat.add_comm, List.take_append, E.len];rw [List.take_of_length_le (by rw [E.len]; omega), Nat.add_sub_cancel_left]
theorem ZoL {L : List α} {i : Nat} (h : i < L.length) (d : α) : L.drop i = L.getD i d :: L.drop (i + 1) := by rw [List.getD_eq_getElem?_getD, List.getElem?_eq_getElem h, Option.getD_some];exact List.drop_eq_getElem_cons h
theorem Z1w {L : List α} {o i q : Nat} (hi : i < L.length) (ho : o = i * E.w + q) (hq : q ≤ E.w) : (Za E L).drop o = (E.enc (L.getD i E.dflt)).drop q ++ Za E (L.drop (i + 1)) := by subst ho;rw [← List.drop_drop, ZoK, ZoL hi E.dflt, ZcX, List.drop_append, E.len, Nat.sub_eq_zero_of_le hq, List.drop_zero]
theorem Zfv {β : Type} : ∀ (m : Nat) (l : List β), m ≤ l.length → Z4 m l = some (l.take m)
 | 0, l, _ => by simp [Z4]
 | m + 1, [], h => by simp at h
 | m + 1, x :: l, h => by simp only [Z4];rw [Zfv m l (by simpa using h)];rfl
theorem Zyq {L : List α} {o i q m : Nat} (hi : i < L.length) (ho : o = i * E.w + q) (hq : q + m ≤ E.w) : Z4 m ((Za E L).drop o) = some (((E.enc (L.getD i E.dflt)).drop q).take m) := by
 have hl := E.len (L.getD i E.dflt);rw [Z1w hi ho (by omega), Zfv _ _ (by simp only [List.length_append, List.length_drop, hl]; omega), List.take_append];have : m - ((E.enc (L.getD i E.dflt)).drop q).length = 0 := by simp only [List.length_drop, hl]; omega
 rw [this, List.take_zero, List.append_nil]
theorem Zdo : ∀ {cs : List Cell}, Ze4 cs = true → ZdB (Zl cs) cs = true
 | [], _ => rfl
 | c :: l, h => by
  cases c with
  | any => cases h
  | i n => show ((n == n) && ZdB (Zl l) l) = true; rw [Zdo (cs := l) h]; simp
  | b q => show ((q == q) && ZdB (Zl l) l) = true; rw [Zdo (cs := l) h]; simp
  | s x => show (dP (x = x) && ZdB (Zl l) l) = true; rw [Zdo (cs := l) h]; simp [dP]
  | m id o n c =>
   show (dP (ZdN (.m id o n c) = ZdN (.m id o n c)) && ZdB (Zl l) l) = true;rw [Zdo (cs := l) h, Zn rfl]; rfl
  | k kk n =>
   by_cases hk : kk = .i64
   ·subst hk; show ((decide (IntKind.i64 = IntKind.i64) && (n == n)) && ZdB (Zl l) l) = true; rw [Zdo (cs := l) h]; simp
   ·have e : ZdB (.int kk n :: Zl l) (.k kk n :: l) = ((decide (kk = kk) && (n == n)) && ZdB (Zl l) l) := by cases kk <;> rfl
    show ZdB (.int kk n :: Zl l) (.k kk n :: l) = true;rw [e, Zdo (cs := l) h]; simp
theorem Z3n {L : List α} {o i q m : Nat} {cs : List Cell} (hi : i < L.length) (ho : o = i * E.w + q) (hq : q + m ≤ E.w) (hs : Ze4 cs = true) (hc : ((E.enc (L.getD i E.dflt)).drop q).take m = Zl cs) : ZdO (Z4 m ((Za E L).drop o)) cs = true := by rw [Zyq hi ho hq, hc];exact Zdo hs
theorem Zbi {L : List α} {o i q : Nat} {l : List Value} (x : α) (hi : i < L.length) (ho : o = i * E.w + q) (hq : q + l.length ≤ E.w) (hx : Zjq (E.enc (L.getD i E.dflt)) q l = E.enc x) : o + l.length ≤ (Za E L).length ∧ Zjq (Za E L) o l = Za E (L.set i x) := by
 have hl := E.len (L.getD i E.dflt);have hle : o + l.length ≤ (Za E L).length := by have : (i + 1) * E.w ≤ L.length * E.w := Nat.mul_le_mul_right _ hi;rw [Nat.add_mul, Nat.one_mul] at this;rw [ZdI]; omega
 refine ⟨hle, ?_⟩;have e1 : L.set i x = L.take i ++ x :: L.drop (i + 1) := by rw [List.set_eq_take_append_cons_drop, if_pos hi]
 rw [e1, Zkx, ZcX, ← hx];unfold Zjq;have h1 : (Za E L).take o = Za E (L.take i) ++ (E.enc (L.getD i E.dflt)).take q := by
  have hd : Za E L = Za E (L.take i) ++ (E.enc (L.getD i E.dflt) ++ Za E (L.drop (i + 1))) := by rw [← ZcX, ← ZoL hi, ← Zkx, List.take_append_drop]
  rw [hd, List.take_append];have hlen : (Za E (L.take i)).length = i * E.w := by rw [ZdI, List.length_take]; rw [Nat.min_eq_left (by omega)]
  rw [List.take_of_length_le (by omega), hlen, show o - i * E.w = q by omega, List.take_append];rw [show q - (E.enc (L.getD i E.dflt)).length = 0 by omega, List.take_zero, List.append_nil]
 have h2 : (Za E L).drop (o + l.length) = (E.enc (L.getD i E.dflt)).drop (q + l.length) ++ Za E (L.drop (i + 1)) := Z1w hi (by omega) hq;rw [h1, h2];simp
theorem Z4h {L R : List α} {o a n m : Nat} (ha : a + n ≤ L.length) (ho : o = a * E.w) (hm : m = n * E.w) (hR : (L.drop a).take n = R) : Z4 m ((Za E L).drop o) = some (Za E R) := by subst ho hm hR;rw [ZoK, Zfv, Zld];rw [ZdI, List.length_drop];exact Nat.mul_le_mul_right _ (by omega)
theorem Zas {L M R : List α} {n m : Nat} (hm : m = n * E.w) (hn : n ≤ L.length) (hR : L.take n ++ M = R) : m ≤ (Za E L).length ∧ (Za E L).take m ++ Za E M = Za E R := by subst hm hR;refine ⟨by rw [ZdI]; exact Nat.mul_le_mul_right _ hn, ?_⟩;rw [Zld, Zkx]
/-! ### The same, as told cells -/
theorem Zni : Z9 E [] = [] := rfl
theorem Zjl (x : α) (L : List α) : Z9 E (x :: L) = E.cel x ++ Z9 E L := rfl
theorem Zky : ∀ L : List α, (Z9 E L).length = L.length * E.w
 | [] => by simp [Zni]
 | x :: L => by rw [Zjl, List.length_append, Zky L, E.clen, List.length_cons, Nat.add_mul, Nat.one_mul, Nat.add_comm]
theorem ZoM : ∀ (i : Nat) (L : List α), (Z9 E L).drop (i * E.w) = Z9 E (L.drop i)
 | 0, L => by simp
 | i + 1, [] => by simp [Zni]
 | i + 1, x :: L => by rw [Zjl, List.drop_succ_cons, ← ZoM i L, Nat.add_mul, Nat.one_mul, Nat.add_comm, ← List.drop_drop, ← E.clen x, List.drop_left]
theorem ZvE : ∀ (i : Nat) (L : List α), (Z9 E L).take (i * E.w) = Z9 E (L.take i)
 | 0, L => by simp [Zni]
 | i + 1, [] => by simp [Zni]
 | i + 1, x :: L => by rw [Zjl, List.take_succ_cons, Zjl, ← ZvE i L, Nat.add_mul, Nat.one_mul, Nat.add_comm, List.take_append, E.clen];rw [List.take_of_length_le (by rw [E.clen]; omega), Nat.add_sub_cancel_left]
theorem Z1x {L : List α} {o i q : Nat} (hi : i < L.length) (ho : o = i * E.w + q) (hq : q ≤ E.w) : (Z9 E L).drop o = (E.cel (L.getD i E.dflt)).drop q ++ Z9 E (L.drop (i + 1)) := by subst ho;rw [← List.drop_drop, ZoM, ZoL hi E.dflt, Zjl, List.drop_append, E.clen, Nat.sub_eq_zero_of_le hq, List.drop_zero]
theorem Z4i {L : List α} {o i q m : Nat} (hi : i < L.length) (ho : o = i * E.w + q) (hq : q + m ≤ E.w) : Z4 m ((Z9 E L).drop o) = some (((E.cel (L.getD i E.dflt)).drop q).take m) := by
 have hl := E.clen (L.getD i E.dflt);rw [Z1x hi ho (by omega), Zfv _ _ (by simp only [List.length_append, List.length_drop, hl]; omega), List.take_append];have : m - ((E.cel (L.getD i E.dflt)).drop q).length = 0 := by simp only [List.length_drop, hl]; omega
 rw [this, List.take_zero, List.append_nil]
theorem Z4j {L R : List α} {o a n m : Nat} (ha : a + n ≤ L.length) (ho : o = a * E.w) (hm : m = n * E.w) (hR : (L.drop a).take n = R) : Z4 m ((Z9 E L).drop o) = some (Z9 E R) := by subst ho hm hR;rw [ZoM, Zfv, ZvE];rw [Zky, List.length_drop];exact Nat.mul_le_mul_right _ (by omega)
theorem Z3o {L : List α} (j : Nat) (hw : 0 < E.w) : (Z9 E L)[j]? = if h : j / E.w < L.length then (E.cel (L[j / E.w]'h))[j % E.w]? else none := by
 by_cases h : j / E.w < L.length
 ·rw [dif_pos h]
  have hj : j = (j / E.w) * E.w + j % E.w := by rw [Nat.mul_comm]; exact (Nat.div_add_mod j E.w).symm
  have hr : j % E.w < E.w := Nat.mod_lt _ hw;have := Z1x (E := E) h hj (Nat.le_of_lt hr);have h0 : ((Z9 E L).drop j)[0]? = (Z9 E L)[j]? := by rw [List.getElem?_drop]; rfl
  rw [← h0, this, List.getElem?_append_left (by rw [List.length_drop, E.clen]; omega), List.getElem?_drop, Nat.add_zero];rw [List.getD_eq_getElem?_getD, List.getElem?_eq_getElem h, Option.getD_some]
 ·rw [dif_neg h, List.getElem?_eq_none]
  rw [Zky];have : L.length ≤ j / E.w := by omega
  exact (Nat.le_div_iff_mul_le hw).1 this
/-! ### Such a row is a row of atoms -/
theorem Zjm : ∀ L : List α, Zu Ze5 (Za E L) = true
 | [] => rfl
 | x :: L => by
  have app : ∀ (a b : List Value), Zu Ze5 a = true → Zu Ze5 b = true → Zu Ze5 (a ++ b) = true := by
   intro a b ha hb
   induction a with
   | nil => exact hb
   | cons y a ih =>
    simp only [Zu, Bool.and_eq_true] at ha;show (Ze5 y && Zu Ze5 (a ++ b)) = true;rw [ha.1, ih ha.2]; rfl
  rw [ZcX];exact app _ _ (E.atoms x) (Zjm L)
theorem Znj {p q : Value → Bool} (h : ∀ v, p v = true → q v = true) : ∀ {l : List Value}, Zu p l = true → Zu q l = true
 | [], _ => rfl
 | x :: l, hl => by simp only [Zu, Bool.and_eq_true] at hl ⊢;exact ⟨h x hl.1, Znj h hl.2⟩
theorem ZiO {v : Value} (h : Ze5 v = true) : (∃ k o z, v = .pointer (some ⟨k, o, some z⟩)) ∨ (∃ k o z n c, v = .slice (some ⟨k, o, some z⟩) n c) ∨ atom v = true := by
 unfold Ze5 at h;split at h
 ·exact .inl ⟨_, _, _, rfl⟩
 ·exact .inr (.inl ⟨_, _, _, _, _, rfl⟩)
 ·exact .inr (.inr h)
theorem Zyr (d : Nat) {v : Value} (h : Ze5 v = true) : Z3 d v = true := by
 rcases ZiO h with ⟨k, o, z, rfl⟩ | ⟨k, o, z, n, c, rfl⟩ | h
 ·cases d <;> rfl
 ·cases d <;> rfl
 ·cases v with
  | agg => simp [atom] at h
  | tuple => simp [atom] at h
  | func f a b =>
   cases f with
   | func f =>
    simp only [atom, Bool.and_eq_true, Array.isEmpty_iff] at h;obtain ⟨rfl, rfl⟩ := h;cases d <;> rfl
   | _ => simp [atom] at h
  | _ => cases d <;> rfl
theorem Z2q (m d : Nat) {v : Value} (h : Ze5 v = true) : Za8 m d v = true := by
 rcases ZiO h with ⟨k, o, z, rfl⟩ | ⟨k, o, z, n, c, rfl⟩ | h
 ·cases d <;> rfl
 ·cases d <;> rfl
 ·cases v with
  | agg => simp [atom] at h
  | tuple => simp [atom] at h
  | pointer a => cases a with
   | none => cases d <;> exact h
   | some a => simp [atom] at h
  | slice a n c => cases a with
   | none => cases d <;> exact h
   | some a => simp [atom] at h
  | map a => cases a with
   | none => cases d <;> exact h
   | some a => simp [atom] at h
  | _ => cases d <;> exact h
theorem Z2r {v : Value} (h : Ze5 v = true) : Zbf v = true := by
 rcases ZiO h with ⟨k, o, z, rfl⟩ | ⟨k, o, z, n, c, rfl⟩ | h
 ·rfl
 ·rfl
 ·cases v <;> first | rfl | simp [atom] at h
theorem Z2s {ρ : Nat → Nat} (d : Nat) {v : Value} (h : Ze5 v = true) : ZQ ρ d v = v := by
 rcases ZiO h with ⟨k, o, z, rfl⟩ | ⟨k, o, z, n, c, rfl⟩ | h
 ·cases d <;> rfl
 ·cases d <;> rfl
 ·exact Zji d h
theorem ZpX (ρ : Nat → Nat) (d : Nat) (L : List α) : (Za E L).map (ZQ ρ d) = Za E L := by
 have : ∀ l : List Value, Zu Ze5 l = true → l.map (ZQ ρ d) = l := fun l => by
  induction l with
  | nil => intro _; rfl
  | cons y l ih =>
   intro h;simp only [Zu, Bool.and_eq_true] at h;rw [List.map_cons, ih h.2, Z2s d h.1]
 exact this _ (Zjm L)
theorem ZqT (d : Nat) (L : List α) : Zu (Z3 d) (Za E L) = true := Znj (fun _ => Zyr d) (Zjm L)
theorem ZcY (m d : Nat) (L : List α) : Zu (Za8 m d) (Za E L) = true := Znj (fun _ => Z2q m d) (Zjm L)
theorem Z3p (L : List α) : Zu Zbf (Za E L) = true := Znj (fun _ => Z2r) (Zjm L)
theorem ZbO (ρ : Nat → Nat) (L : List α) (t : TypeId) : ZfF ρ (.cells (Za E L) t) (.cells (Za E L) t) := ⟨rfl, ⟨[], by rw [ZpX, List.append_nil]⟩, ZqT 1 L⟩
theorem Zz (ρ : Nat → Nat) {c : List Value} {L : List α} (t : TypeId) (h : c = Za E L) : ZfF ρ (.cells c t) (.cells (Za E L) t) := h ▸ ZbO ρ L t
theorem Zkz (ρ : Nat → Nat) (L : List α) (t : TypeId) : AObj.cells (Za E L) t = ZhB ρ (.cells (Za E L) t) := by show _ = AObj.cells ((Za E L).map (ZQ ρ 1)) t;rw [ZpX]
theorem Zud {L R : List α} {o a n m : Nat} (ha : a + n ≤ L.length) (ho : o = a * E.w) (hm : m = n * E.w) (hR : (L.drop a).take n = R) : Z4 m ((Za E L).drop o) = some (Za E R) ∧ Zu Zbf (Za E R) = true := ⟨Z4h ha ho hm hR, Z3p R⟩
end
theorem Z5S {b : Bool} (h : ¬ (b = true)) : (!b) = true := by cases b <;> simp_all
theorem Z5T {b : Bool} (h : b = true) : (!b) = false := by subst h; rfl
def Zcp (k : IntKind) : Enc Int := ⟨fun n => match k with | .i64 => [.i n] | k => [.k k n], 1, 0, fun _ => by cases k <;> rfl, fun _ => by cases k <;> rfl⟩
abbrev eI : Enc Int := Zcp .i64
abbrev vi (x : Int) : Value := .int .i64 x
abbrev vs (k o n c : Nat) : Value := .slice (some ⟨k, o, none⟩) n c
abbrev vp (k o : Nat) : Value := .pointer (some ⟨k, o, none⟩)
/-! ### Rows that never change -/
def mc {α : Type} (E : Enc α) (L : List α) : Cell := .m (code (Z9 E L)) 0 L.length L.length
abbrev ms {α : Type} (E : Enc α) (L : List α) : Value := .slice (some ⟨code (Z9 E L), 0, some 0⟩) L.length L.length
abbrev mp {α : Type} (E : Enc α) (L : List α) (o : Nat) : Value := .pointer (some ⟨code (Z9 E L), o, some 0⟩)
def Zm {α : Type} (E : Enc α) : Enc (List α) := ⟨fun l => [mc E l], 1, [], fun _ => rfl, fun _ => rfl⟩
theorem Z4k {α : Type} {E : Enc α} {L : List α} {o i q m : Nat} {cs : List Cell} (hi : i < L.length) (ho : o = i * E.w + q) (hq : q + m ≤ E.w) (hc : ((E.cel (L.getD i E.dflt)).drop q).take m = cs) : ZS (code (Z9 E L)) o m = some cs := by unfold ZS;rw [Zdm];show Z4 m ((Z9 E L).drop o) = some cs;rw [Z4i hi ho hq, hc]
theorem Zys {α : Type} {E : Enc α} {L R : List α} {o a n m : Nat} (ha : a + n ≤ L.length) (ho : o = a * E.w) (hm : m = n * E.w) (hR : (L.drop a).take n = R) : ZS (code (Z9 E L)) o m = some (Z9 E R) := by unfold ZS;rw [Zdm];exact Z4j ha ho hm hR
theorem ZhF {α : Type} {E : Enc α} (L : List α) : Za E L = Zl (Z9 E L) := by unfold Za Z9 Zl Enc.enc Zl;rw [List.map_flatMap]
theorem Znk {α : Type} {E : Enc α} {L R : List α} {l h size : Nat} (h1 : l ≤ h) (h2 : h ≤ L.length) (hs : size = E.w) (hR : R = (L.drop l).take (h - l)) :
  l ≤ h ∧ h ≤ L.length ∧ ZS (code (Z9 E L)) (0 + l * size) (Z9 E R).length = some (Z9 E R) ∧ (h - l) * size = (Z9 E R).length ∧ R.length = h - l := by
 have hl : R.length = h - l := by rw [hR, List.length_take, List.length_drop]; omega
 have hc : (Z9 E R).length = (h - l) * size := by rw [Zky, hl, hs]
 refine ⟨h1, h2, ?_, hc.symm, hl⟩;rw [hc];exact Zys (a := l) (n := h - l) (by omega) (by rw [hs]; omega) (by rw [hs]) hR.symm
theorem Zc4 {α : Type} {E : Enc α} {L : List α} {n size : Nat} (hn : L.length = n) (hs : size = E.w) (h0 : n * size ≠ 0) :
  (n * size = 0 ∧ Za E L = []) ∨ ∃ c, n * size ≠ 0 ∧ ZS (code (Z9 E L)) 0 (n * size) = some c ∧ Za E L = Zl c := by
 subst hn hs;exact .inr ⟨_, h0, Zys (a := 0) (n := L.length) (by omega) (by omega) rfl (by simp), ZhF L⟩
theorem Zwa {α : Type} {E : Enc α} {L : List α} {n m : Nat} {cs : List Cell} (hn : L.length = n) (hm : m = n * E.w) (hs : Ze4 cs = true) (hc : Za E ((List.range n).map fun i => L.getD i E.dflt) = Zl cs) : ZdO (Z4 m (List.drop 0 (Za E L))) cs = true := by
 have e : (List.range n).map (fun i => L.getD i E.dflt) = L := by
  apply List.ext_getElem?;intro i;by_cases hi : i < n
  ·rw [List.getElem?_map, List.getElem?_range hi, Option.map_some, List.getD_eq_getElem?_getD, List.getElem?_eq_getElem (by omega), Option.getD_some]
  ·rw [List.getElem?_eq_none (by simp; omega), List.getElem?_eq_none (by omega)]
 rw [e] at hc;rw [List.drop_zero, Zfv _ _ (by rw [ZdI, hn, hm]; exact Nat.le_refl _), List.take_of_length_le (by rw [ZdI, hn, hm]; exact Nat.le_refl _), hc];exact Zdo hs
/-! ### Bytes as strings -/
end
end Ev
end Go.Proofs.YthfohmhipifiaaaGreat
namespace Go.Proofs.YthfohmhipifiaaaGreat
open Go.ChangeShapes Go.WideShapes Go.ChangeAt Go.RowKit Go.Deep
namespace Ev
section
variable {H : Type} {enc : TypeId × Value → H} {P : Program} {w : World}
def Trd (enc : TypeId × Value → H) (P : Program) (w : World) (t : TypeId) (cs : List Value) : Prop := ∃ n y, DataW.trod enc P w 0 (fun _ => true) true n t cs = some y
def Elems (enc : TypeId × Value → H) (P : Program) (w : World) (e : TypeId) (O : Obj) (o cap : Nat) : Prop :=
 ∀ i, i < cap → ∃ C t fr cs, O = .cells C t fr ∧ cs.length = P.cellsOf e ∧ (∀ j, j < P.cellsOf e → C[o + (i * P.cellsOf e + j)]? = cs[j]?) ∧ Trd enc P w e cs
theorem Z3q {t : TypeId} {fs : Array Field} {cs : List Value} (ht : P.underlying t = some (.struct fs)) (h : Trd enc P w t cs) (i : Nat) {f : Field} (hf : fs[i]? = some f) : Trd enc P w f.type ((cs.drop f.offset).take (P.cellsOf f.type)) := by obtain ⟨n, y, h⟩ := h;obtain ⟨xs, n', _, _, _, hxl, hfl⟩ := DataW.trod_struct ht h;have hi : i < fs.size := (Array.getElem?_eq_some_iff.1 hf).1;have := hfl i f hf;rw [List.getElem?_eq_getElem (show i < xs.length by omega)] at this;exact ⟨n', _, this⟩
theorem Z5r {t : TypeId} {k : IntKind} {cs : List Value} (ht : P.underlying t = some (.int k)) (h : Trd enc P w t cs) : ∃ z, cs = [.int k z] ∧ k.min ≤ z ∧ z ≤ k.max := by obtain ⟨n, y, h⟩ := h;obtain ⟨z, e0, _, wx⟩ := DataW.trod_int ht h;simp only [Lit.wf, Bool.and_eq_true, decide_eq_true_eq] at wx;exact ⟨z, e0, wx.1, wx.2⟩
theorem Z3r {t e : TypeId} {cs : List Value} (ht : P.underlying t = some (.slice e)) (hpos : 0 < P.cellsOf e) (h : Trd enc P w t cs) :
  (∃ a, cs = [.slice a 0 0]) ∨ ∃ (b o len cap : Nat) (O : Obj), cs = [.slice (some ⟨b, o, none⟩) len cap] ∧ 0 < cap ∧ len ≤ cap ∧ cap ≤ 9223372036854775807 ∧ w.heap[b]? = some O ∧ Elems enc P w e O o cap := by
 obtain ⟨n0, y, h⟩ := h;rcases open_slice ht h with ⟨hcs, _⟩ | ⟨a, len, cap, m, n, D, Pl, hcs, hb, hl, hm, hmm, hx, hi⟩
 ·exact .inl ⟨_, hcs⟩
 ·simp only [if_true] at hmm
  subst hmm;rcases Nat.eq_zero_or_pos m with h0 | h0
  ·subst h0
   obtain rfl : len = 0 := by omega
   exact .inl ⟨_, hcs⟩
  ·right
   obtain ⟨cs0, hc0, _⟩ := hi 0 h0;obtain ⟨_, hcl0, hat0⟩ := World.cells?_some hc0;have h1 := hat0 0 hpos;rw [Nat.zero_mul] at h1;have ha0 : (a.add 0).add 0 = a := by simp [Addr.add]
   rw [ha0] at h1;have h2 : w.cell? a = some (cs0[0]'(by omega)) := h1.trans (List.getElem?_eq_getElem (by omega));obtain ⟨b, o, spot⟩ := a;have hspot : spot = none := by
    unfold World.cell? at h2;split at h2
    ·cases spot with
     | none => rfl
     | some z => simp at h2
    ·cases h2
   subst hspot;obtain ⟨C, el, fr, hB, _⟩ := ZnA h2;refine ⟨b, o, len, m, _, hcs, h0, hl, by unfold maxLen at hm; omega, hB, fun i hi' => ?_⟩;obtain ⟨cs', hc, ht'⟩ := hi i hi';obtain ⟨_, hcl, hat⟩ := World.cells?_some hc;refine ⟨C, el, fr, cs', rfl, hcl, fun j hj => ?_, n, _, ht'⟩;have h1 := hat j hj;rw [Go.Deep.add_add] at h1;have h2 : w.cell? ⟨b, o + (i * P.cellsOf e + j), none⟩ = some (cs'[j]'(by omega)) := by have : (⟨b, o, none⟩ : Addr).add (i * P.cellsOf e + j) = ⟨b, o + (i * P.cellsOf e + j), none⟩ := Go.WideShapes.add_plain b o _;rw [← this, h1];exact List.getElem?_eq_getElem (by omega)
   obtain ⟨C', t', fr', hB', hv'⟩ := ZnA h2;rw [hB] at hB';injection hB' with hB'
   injection hB' with e1 e2 e3
   subst e1;rw [hv'];exact (List.getElem?_eq_getElem (by omega)).symm
def DecL (w : World) (cs : List Value) (l : List Cell) : Prop := cs.length = l.length ∧ ∀ (i : Nat) x y, l[i]? = some x → cs[i]? = some y → DecC w x y
theorem Zue {w : World} {cs : List Value} {l : List Cell} (hl : cs.length = l.length) (h : ∀ (i : Nat) x, l[i]? = some x → ∃ y, cs[i]? = some y ∧ DecC w x y) : DecL w cs l :=
 ⟨hl, fun i x y hx hy => by
  obtain ⟨y', h1, h2⟩ := h i x hx;rw [hy] at h1;injection h1 with h1
  subst h1;exact h2⟩
theorem Zyt {w : World} {cs : List Value} {k : Nat} : ∀ (j : Nat) x, ([] : List Cell)[j]? = some x → ∃ y, cs[k + j]? = some y ∧ DecC w x y := fun j x h => by simp at h
theorem Zi4 {w : World} {cs : List Value} {b : Cell} {l : List Cell} {k : Nat} {y : Value} (hx : cs[k]? = some y) (hd : DecC w b y) (t : ∀ (j : Nat) x, l[j]? = some x → ∃ y, cs[k + 1 + j]? = some y ∧ DecC w x y) :
  ∀ (j : Nat) x, (b :: l)[j]? = some x → ∃ y, cs[k + j]? = some y ∧ DecC w x y := fun j x h => by
 cases j with
 | zero => injection h with h; subst h; exact ⟨y, hx, hd⟩
 | succ j =>
  obtain ⟨y', h1, h2⟩ := t j x (by simpa using h);exact ⟨y', by rw [show k + (j + 1) = k + 1 + j by omega]; exact h1, h2⟩
theorem DecL.vr {w : World} {cs : List Value} {l : List Cell} (h : DecL w cs l) : VRs (ιMk w) (Zl l).toArray cs.toArray :=
 ⟨by simp [Zl, h.1], fun i x y hx hy => by
  have hx' : (Zl l)[i]? = some x := by simpa using hx
  have hy' : cs[i]? = some y := by simpa using hy
  unfold Zl at hx';rw [List.getElem?_map] at hx';cases hb : l[i]? with
  | none => rw [hb] at hx'; cases hx'
  | some z =>
   rw [hb] at hx';injection hx' with hx'
   subst hx';exact (h.2 i z y hb hy').vr⟩
theorem pick1 {α : Type} {n : Nat} (d : α) {R : Nat → α → Prop} (h : ∀ i, i < n → ∃ x, R i x) : ∃ f : Nat → α, ∀ i, i < n → R i (f i) := by
 classical
 refine ⟨fun i => if hi : i < n then (h i hi).choose else d, fun i hi => ?_⟩;simp only [hi, dite_true];exact (h i hi).choose_spec
theorem ZoN {α : Type} {E : Enc α} {Q : α → Prop} {t e : TypeId} {cs : List Value} (ht : P.underlying t = some (.slice e)) (hw : P.cellsOf e = E.w) (hpos : 0 < E.w)
  (hel : ∀ cs, cs.length = E.w → Trd enc P w e cs → ∃ x : α, DecL w cs (E.cel x) ∧ Q x) (h : Trd enc P w t cs) : ∃ (L : List α) (v : Value), cs = [v] ∧ DecC w (mc E L) v ∧ L.length ≤ 9223372036854775807 ∧ ∀ x ∈ L, Q x := by
 rcases Z3r ht (by omega) h with ⟨a, rfl⟩ | ⟨b, o, len, cap, O, rfl, h0, hl, hm, hB, hE⟩
 ·exact ⟨[], _, rfl, .m0, by simp, fun x hx => by cases hx⟩
 ·have each : ∀ i, i < len → ∃ x : α, (∃ C t fr, O = .cells C t fr ∧ ∀ j y, (E.cel x)[j]? = some y → ∃ v, C[o + (i * E.w + j)]? = some v ∧ DecC w y v) ∧ Q x := fun i hi => by
   obtain ⟨C, t, fr, cs, hO, hcl, hc, htr⟩ := hE i (by omega);obtain ⟨x, hd, hq⟩ := hel cs (by omega) htr;refine ⟨x, ⟨C, t, fr, hO, fun j y hy => ?_⟩, hq⟩;have hj : j < cs.length := by rw [hd.1]; exact (List.getElem?_eq_some_iff.1 hy).1
   rw [← hw];refine ⟨cs[j], ?_, hd.2 j y _ hy (List.getElem?_eq_getElem hj)⟩;rw [hc j (by omega)];exact List.getElem?_eq_getElem hj
  obtain ⟨G, hG⟩ := pick1 E.dflt each;obtain ⟨C, t, fr, cs0, hO, _⟩ := hE 0 h0;subst hO;refine ⟨(List.range len).map G, _, rfl, ?_, by simp; omega, fun x hx => ?_⟩
  ·have hlen : ((List.range len).map G).length = len := by simp
   unfold mc;rw [hlen];refine .m (base := o) (.mk (Zdm _) hB (fun hp => ?_) fun i x y hx hy => ?_) (Nat.le_refl _) hl
   ·rw [Zky, hlen] at hp ⊢
    have hlen0 : 0 < len := by
     rcases Nat.eq_zero_or_pos len with e0 | e0
     ·subst e0; simp at hp
     ·exact e0
    obtain ⟨⟨C', t', fr', hO', hx'⟩, _⟩ := hG (len - 1) (by omega);injection hO' with e1 e2 e3
    subst e1;have hw1 : (E.cel (G (len - 1))).length = E.w := E.clen _;obtain ⟨v, hv, _⟩ := hx' (E.w - 1) _ (List.getElem?_eq_getElem (by omega));have := (Array.getElem?_eq_some_iff.1 hv).1;have e2 : (len - 1) * E.w + E.w = len * E.w := by rw [← Nat.succ_mul]; congr 1; omega
    omega
   ·rw [Z3o i hpos] at hx
    split at hx
    ·rename_i hlt
     rw [List.getElem_map, List.getElem_range] at hx;obtain ⟨⟨C', t', fr', hO', hx'⟩, _⟩ := hG (i / E.w) (by rw [hlen] at hlt; exact hlt);injection hO' with e1 e2 e3
     subst e1;obtain ⟨v, hv, hd⟩ := hx' (i % E.w) x hx;have e : i / E.w * E.w + i % E.w = i := by rw [Nat.mul_comm]; exact Nat.div_add_mod i E.w
     rw [e, hy] at hv;injection hv with hv
     subst hv;exact hd
    ·cases hx
  ·obtain ⟨i, hi, rfl⟩ := List.mem_map.1 hx
   exact (hG i (List.mem_range.1 hi)).2
theorem Z0u {cs : List Value} {j m : Nat} {v : Value} (h : (cs.drop j).take m = [v]) (hm : m = 1) : cs[j]? = some v := by
 subst hm;have : ((cs.drop j).take 1)[0]? = some v := by rw [h]; rfl
 rwa [List.getElem?_take_of_lt (by decide), List.getElem?_drop, Nat.add_zero] at this
/-! ### Parts of a value, by where they lie among its cells -/
def Zle (enc : TypeId × Value → H) (P : Program) (w : World) (t : TypeId) (cs : List Value) (o : Nat) : Prop := Trd enc P w t ((cs.drop o).take (P.cellsOf t))
theorem Zyu {t : TypeId} {cs : List Value} {c : Nat} (hc : P.cellsOf t = c) (hl : cs.length = c) (h : Trd enc P w t cs) : Zle enc P w t cs 0 := by unfold Zle;rw [List.drop_zero, List.take_of_length_le (by omega)];exact h
theorem Z4l {cs : List Value} {o m a k : Nat} (h : a + k ≤ m) : (((cs.drop o).take m).drop a).take k = (cs.drop (o + a)).take k := by rw [List.drop_take, List.take_take, List.drop_drop, Nat.min_eq_left (by omega)]
theorem Zk0 {t te : TypeId} {fs : Array Field} {cs : List Value} {o o' : Nat} (fo c ct : Nat) (ht : P.underlying t = some (.struct fs)) (h : Zle enc P w t cs o) (i : Nat) (hf : (fs[i]?).map (fun f => (f.type, f.offset)) = some (te, fo)) (ho : o' = o + fo) (hc : P.cellsOf te = c) (hct : P.cellsOf t = ct) (hle : fo + c ≤ ct) : Zle enc P w te cs o' := by
 cases hx : fs[i]? with
 | none => rw [hx] at hf; cases hf
 | some f =>
  rw [hx] at hf;injection hf with hf
  injection hf with h1 h2
  subst h1 h2 ho;have := Z3q ht h i hx;rw [Z4l (by omega)] at this;exact this
theorem Zyv {cs : List Value} {o : Nat} {v : Value} (h : (cs.drop o).take 1 = [v]) : cs[o]? = some v := Z0u h rfl
theorem Zmj {t : TypeId} {k : IntKind} {cs : List Value} {o : Nat} (ht : P.underlying t = some (.int k)) (hc : P.cellsOf t = 1) (h : Zle enc P w t cs o) : ∃ z, cs[o]? = some (.int k z) ∧ k.min ≤ z ∧ z ≤ k.max := by unfold Zle at h;rw [hc] at h;obtain ⟨z, h1, h2⟩ := Z5r ht h;exact ⟨z, Zyv h1, h2⟩
theorem Z4m {α : Type} {E : Enc α} {Q : α → Prop} {t e : TypeId} {cs : List Value} {o : Nat} (ht : P.underlying t = some (.slice e)) (hc : P.cellsOf t = 1) (hw : P.cellsOf e = E.w) (hpos : 0 < E.w)
  (hel : ∀ cs, cs.length = E.w → Trd enc P w e cs → ∃ x : α, DecL w cs (E.cel x) ∧ Q x) (h : Zle enc P w t cs o) : ∃ (L : List α) (v : Value), cs[o]? = some v ∧ DecC w (mc E L) v ∧ L.length ≤ 9223372036854775807 ∧ ∀ x ∈ L, Q x := by
 unfold Zle at h;rw [hc] at h;obtain ⟨L, v, h1, h2⟩ := ZoN ht hw hpos hel h;exact ⟨L, v, Zyv h1, h2⟩
theorem Z1y {t : TypeId} {v : Value} {d : DataW H} {p : List MemPlace} (h : DataW.Trod enc P w 0 (fun _ => true) true t v d p) : Trd enc P w t v.cells.toList := by obtain ⟨fuel, hf⟩ := h;exact ⟨fuel, _, hf⟩
end
end Ev
end Go.Proofs.YthfohmhipifiaaaGreat
namespace Go.Proofs.YthfohmhipifiaaaGreat
open Go.RowKit
namespace Ev
section
variable {P : Program} {ext : FuncId → Option Ext} {pre : List AObj} {A : Array Value} {R : Type} {V : R → Value} {Po : R → List (Option AObj)} {live : List Nat} {bl : List (Option AObj)} {ob : List (Bool × Bool)} {fu : Nat} {orc : Orc}
variable {f : FuncId}
end
set_option linter.unusedVariables false
section
variable {P : Program}
end
section
variable {P : Program} {ext : FuncId → Option Ext} {f : FuncId} {pre : List AObj} {A : Array Value} {R : Type} {V : R → Value} {Po : R → List (Option AObj)} {live : List Nat} {bl : List (Option AObj)} {ob : List (Bool × Bool)} {orc : Orc}
end
set_option linter.unusedVariables false
section
variable {P : Program}
theorem VR.cutV {ι ι2 : Ren} {m : Nat} (hι : ∀ k b, k < m ∨ Zc6 k → ι k = some b → ι2 k = some b) : ∀ (d : Nat) (v v' : Value), VR ι v v' → Za8 m d v = true → VR ι2 v v'
 | d, v, v', h, hd => by
  cases h with
  | atom h => exact .atom h
  | glob h => exact .glob h
  | ptr h => cases d <;> exact .ptr (hι _ _ (.inl (Nat.le_of_ble_eq_true hd)) h)
  | map h => cases d <;> exact .map (hι _ _ (.inl (Nat.le_of_ble_eq_true hd)) h)
  | slice h hn hc hq => cases d <;> exact .slice (hι _ _ (.inl (Nat.le_of_ble_eq_true hd)) h) hn hc hq
  | slice0 h => exact .slice0 h
  | mptr h => exact .mptr (hι _ _ (.inr (Zkc _ _ _)) h)
  | mslice h hn hc => exact .mslice (hι _ _ (.inr (Zkc _ _ _)) h) hn hc
  | func hs ht h1 h2 =>
   rename_i fn a a' b b';have ha : Ev.atom (.func fn a b) = true := by cases d <;> exact hd
   have e := VR.eq_of_atom ha (.func hs ht h1 h2);rw [e];exact .atom ha
  | agg hs h1 =>
   cases d with
   | zero => simp [Za8, Ev.atom] at hd
   | succ d =>
    simp only [Za8] at hd;exact .agg hs fun i x y hx hy => VR.cutV hι d x y (h1 i x y hx hy) (Zbh hd i x hx)
  | tuple hs h1 =>
   cases d with
   | zero => simp [Za8, Ev.atom] at hd
   | succ d =>
    simp only [Za8] at hd;exact .tuple hs fun i x y hx hy => VR.cutV hι d x y (h1 i x y hx hy) (Zbh hd i x hx)
def Zlf (m : Nat) : List (Option AObj) → Prop
 | [] => True
 | o :: l => (match o with | some x => Zjj m x = true | none => True) ∧ Zlf m l
theorem ZsO {m : Nat} : ∀ {H : List (Option AObj)}, Zlf m H → ∀ k o, lkO H k = some o → Zjj m o = true
 | [], _, k, o, hk => by simp [lkO] at hk
 | x :: H, h, 0, o, hk => by
  have e : x = some o := by simpa [lkO] using hk
  subst e;exact h.1
 | x :: H, h, k + 1, o, hk => ZsO h.2 k o (by simpa [lkO] using hk)
noncomputable def ιTv (ι : Ren) (m : Nat) : Ren := fun k => @ite _ (k < m ∨ Zc6 k) (Classical.propDecidable _) (ι k) none
theorem ιTv_yes {ι : Ren} {m k : Nat} (h : k < m ∨ Zc6 k) : ιTv ι m k = ι k := by unfold ιTv; rw [if_pos h]
theorem ιTv_inv {ι : Ren} {m k : Nat} {q : Nat × Nat} (h : ιTv ι m k = some q) : (k < m ∨ Zc6 k) ∧ ι k = some q := by
 by_cases hk : k < m ∨ Zc6 k
 ·rw [ιTv_yes hk] at h; exact ⟨hk, h⟩
 ·unfold ιTv at h
  rw [if_neg hk] at h; cases h
theorem Z3s {post : List (Option AObj)} {k : Nat} {o : AObj} (h : lkO post k = some o) : k < post.length := by
 unfold lkO at h;cases hx : post[k]? with
 | none => rw [hx] at h; cases h
 | some y => exact (List.getElem?_eq_some_iff.1 hx).1
theorem Step.letgo {ι ι' : Ren} {w w' : World} {pre : List AObj} {post : List (Option AObj)} (hd : ∀ k, ι k ≠ none → k < pre.length ∨ Zc6 k) (hpre : pre.length ≤ post.length) (hUA : Zlf post.length post) (hS : Step P ι (lk pre) w ι' (lkO post) w') : Step P ι (lk pre) w (ιTv ι' post.length) (lkO post) w' := by
 have hι : ∀ k b, k < post.length ∨ Zc6 k → ι' k = some b → (ιTv ι' post.length) k = some b := fun k b hk h => (ιTv_yes hk).trans h;have hmk : ∀ b base id q, ι' (ZO b base id) = some q → (ιTv ι' post.length) (ZO b base id) = some q := fun b base id q h => hι _ _ (.inr (Zkc _ _ _)) h;refine ⟨fun k b hb' => hι k b ((hd k (by rw [hb']; simp)).imp (fun q => by omega) id) (hS.ext k b hb'), ⟨fun k c' t' q' hk => ?_, fun {m} k O hk => ?_, fun k k' b b' h1 h2 h3 h4 h5 => hS.emb.inj k k' b b' h1 h2 (ιTv_inv h3).2 (ιTv_inv h4).2 h5, fun k b h => hS.emb.lt k b (ιTv_inv h).2, fun b base id q hq => ?_, fun x hx => (hS.emb.tb x hx).imp fun q hq => hmk _ _ _ _ hq⟩, hS.os, hS.tape, hS.output, hS.size, hS.frame, fun k b h1 h2 h3 => hS.new k b h1 (ιTv_inv h2).2 h3, hS.alive, hS.kind⟩
 ·obtain ⟨b, r1, hz⟩ := hS.emb.obj k c' t' q' hk
  have hcs : Zu (Za8 post.length 1) c' = true := ZsO hUA k (.cells c' t' q') hk;exact ⟨b, hι k b (.inl (Z3s hk)) r1, hz.imp id fun ⟨q0, D, r2, r3, r4⟩ => ⟨q0, D, r2, ⟨r3.1, fun i x y hx hy => VR.cutV hι 1 x y (r3.2 i x y hx hy) (Zaf hcs x (List.mem_of_getElem? hx))⟩, r4⟩⟩
 ·obtain ⟨b, r1, r2⟩ := hS.emb.ro k O hk
  exact ⟨b, hι k b (.inl (Z3s hk)) r1, r2⟩
 ·obtain ⟨m1, m2, m3⟩ := hS.emb.mks b base id q (ιTv_inv hq).2
  exact ⟨m1, ⟨m2.1.on hmk, fun o c' hc => hmk _ _ _ _ (m2.2 o c' hc)⟩, fun k d hk hd2 => m3 k d hk (ιTv_inv hd2).2⟩
theorem Z4n {post : List (Option AObj)} {o : AObj} : lkO (post ++ [some o]) post.length = some o := by simp [lkO]
theorem Z4o {post : List (Option AObj)} {o : AObj} : upd (lkO (post ++ [some o])) post.length none = lkO post := by
 funext k
 by_cases hk : k = post.length
 ·subst hk
  rw [Zk];simp [lkO]
 ·rw [Zf hk]
  unfold lkO;rcases Nat.lt_or_ge k post.length with h | h
  ·rw [List.getElem?_append_left h]
  ·rw [List.getElem?_eq_none (by simp; omega), List.getElem?_eq_none h]
theorem Zfn {p : Option Addr} {n n' c c' : Nat} (h2 : n = n') (h3 : c = c') : Value.slice p n c = .slice p n' c' := by rw [h2, h3]
theorem LSpec.frzv {α : Type} {E : Enc α} {L : List α} {f : FuncId} {A : Array Value} {pre : List AObj} {v v2 : Value} {post : List (Option AObj)} {t : TypeId} (h : LSpec P f A pre v (post ++ [some (.cells (Za E L) t)])) (hpre : pre.length ≤ post.length) (hle : post.length < 1000000000) (hUA : Zlf post.length post) (hz : Zc3 v = false)
  (h2 : Zor post.length (code (Z9 E L)) 3 v = v2) (hu : Za8 post.length 3 v2 = true) : LSpec P f A pre v2 post := by
 subst h2;intro ι w args' hd ha he;refine (h ι w args' hd ha he).mono fun e w' hf => ?_;rcases hf with ⟨v', ι', rfl, hS, hdm, hvr⟩ | ⟨hz', _⟩
 rotate_left
 ·rw [hz] at hz'; cases hz'
 rw [ZhF] at hS;obtain ⟨ι2, g1, g2, g3⟩ := Step.frz hS.emb Z4n;rw [Z4o] at g1;have hT := Step.letgo hd hpre hUA (hS.trans g1);refine .inl ⟨v', _, rfl, hT, fun k hk => ?_, VR.cutV (fun k b hk h => (ιTv_yes hk).trans h) 3 _ _ (ZtW g1.ext g2 3 hvr) hu⟩;cases hq : ιTv ι2 post.length k with
 | none => exact absurd hq hk
 | some q => exact (ιTv_inv hq).1.imp id fun h => h.1
theorem LSpec.nlv {f : FuncId} {A : Array Value} {pre : List AObj} {v v2 : Value} {post : List (Option AObj)} (h : LSpec P f A pre v post) (hz : Zc3 v = false) (h2 : nlV 3 v = v2) : LSpec P f A pre v2 post := by
 subst h2;intro ι w args' hd ha he;refine (h ι w args' hd ha he).mono fun e w' hf => ?_;rcases hf with ⟨v', ι', rfl, hS, hdm, hvr⟩ | ⟨hz', _⟩
 ·exact .inl ⟨v', ι', rfl, hS, hdm, ZxF 3 hvr⟩
 ·rw [hz] at hz'; cases hz'
end
set_option linter.unusedVariables false
section
variable {α : Type} {E : Enc α}
theorem Z3t (ρ : Nat → Nat) (L : List α) (t : TypeId) : ZfF ρ (.cells (Za E L) t true) (.cells (Za E L) t true) := ⟨rfl, by rw [ZpX], ZqT 1 L⟩
theorem ZvF (ρ : Nat → Nat) (L : List α) (t : TypeId) : AObj.cells (Za E L) t true = ZhB ρ (.cells (Za E L) t true) := by show _ = AObj.cells ((Za E L).map (ZQ ρ 1)) t true;rw [ZpX]
theorem Zr2 {c c' : List Value} {t : TypeId} (h : WkC c c') : WkO (some (.cells c t)) (some (.cells c' t)) := .inr (.inl ⟨_, _, _, _, rfl, rfl, h⟩)
end
end Ev
end Go.Proofs.YthfohmhipifiaaaGreat
/- The heap's cells and rows, Za8 names. -/
namespace Go.Proofs.YthfohmhipifiaaaGreat
open Go.RowKit
namespace Ev
set_option linter.unusedVariables false
noncomputable section
def nth : List Nat → Nat → Nat
 | [], _ => 0
 | a :: _, 0 => a
 | _ :: l, j + 1 => nth l j
end
end Ev
end Go.Proofs.YthfohmhipifiaaaGreat
namespace Go.Proofs.YthfohmhipifiaaaGreat
open Go.RowKit
namespace Ev
set_option linter.unusedVariables false
def rg : Nat → Nat → List Nat → List Nat
 | _, 0, l => l
 | a, n + 1, l => a :: rg (a + 1) n l
def oq : List Nat → List (Nat × Bool)
 | [] => []
 | a :: l => (a / 2, Nat.beq (a % 2) 1) :: oq l
inductive Oq where
 | o
 | b (g : Nat) (t : Bool) (ω : Oq)
 | v (g : Nat) (t : Int) (ω : Oq)
 | x (g : Nat) (t : Nat) (ω : Oq)
 | l (g : Nat) (t : List Cell) (ω : Oq)
 | w (g : Nat) (t : Told) (ω : Oq)
def gap {α : Type} : Nat → List (Option α) → List (Option α)
 | 0, l => l
 | n + 1, l => none :: gap n l
def Oq.go : Oq → List (Option Bool) → List (Option Int) → List (Option Nat) → List (Option (List Cell)) → List (Option Told) → Orc
 | .o, B, V, X, L, W => ⟨B, V, X, L, W⟩
 | .b g t ω, B, V, X, L, W => ω.go (gap g (some t :: B)) V X L W
 | .v g t ω, B, V, X, L, W => ω.go B (gap g (some t :: V)) X L W
 | .x g t ω, B, V, X, L, W => ω.go B V (gap g (some t :: X)) L W
 | .l g t ω, B, V, X, L, W => ω.go B V X (gap g (some t :: L)) W
 | .w g t ω, B, V, X, L, W => ω.go B V X L (gap g (some t :: W))
def Oq.t (ω : Oq) : Orc := ω.go [] [] [] [] []
def Ob (ω : Oq) (l : List (Bool × Bool)) : Prop := ∀ q ∈ l, q.1 = q.2
theorem Zg : Ob .o [] := Zkd
section
variable {ω : Oq} {l : List (Bool × Bool)}
section
variable (g : Nat)
theorem tB {t b : Bool} (h : Ob ω ((t, b) :: l)) : Ob (.b g b ω) ((t, b) :: l) := h
theorem tV {x y : Int} (h : Ob ω ((x == y, true) :: l)) : Ob (.v g y ω) ((x == y, true) :: l) := h
theorem tL (c : List Cell) (h : Ob ω l) : Ob (.l g c ω) l := h
theorem tW (t : Told) (h : Ob ω l) : Ob (.w g t ω) l := h
end
end
section
variable {ω : Oq} {l : List (Bool × Bool)}
theorem kX (t b : Bool) (h : t = b) (hl : Ob ω l) : Ob ω ((t, b) :: l) := ZF h hl
theorem hT {a b : Int} (h : a = b) (hl : Ob ω l) : Ob ω ((a == b, true) :: l) := ZF (beq_iff_eq.2 h) hl
theorem hF {a b : Int} (h : ¬ a = b) (hl : Ob ω l) : Ob ω ((a == b, false) :: l) := ZF (beq_eq_false_iff_ne.2 h) hl
theorem hD {a b : Int} (h : ¬ a = b) (hl : Ob ω l) : Ob ω ((a != b, true) :: l) := ZF (bne_iff_ne.2 h) hl
theorem hE {a b : Int} (h : a = b) (hl : Ob ω l) : Ob ω ((a != b, false) :: l) := ZF (bne_eq_false_iff_eq.2 h) hl
theorem hY {p : Prop} [Decidable p] (h : p) (hl : Ob ω l) : Ob ω ((decide p, true) :: l) := ZF (decide_eq_true h) hl
theorem hN {p : Prop} [Decidable p] (h : ¬ p) (hl : Ob ω l) : Ob ω ((decide p, false) :: l) := ZF (decide_eq_false h) hl
section
variable (a b : Int)
theorem kF (hl : Ob ω l) (h : ¬ a = b := by omega) : Ob ω ((a == b, false) :: l) := hF h hl
theorem kE (hl : Ob ω l) (h : a = b := by omega) : Ob ω ((a != b, false) :: l) := hE h hl
theorem kY (p : Prop) [Decidable p] (hl : Ob ω l) (h : p := by omega) : Ob ω ((decide p, true) :: l) := hY h hl
theorem kN (p : Prop) [Decidable p] (hl : Ob ω l) (h : ¬ p := by omega) : Ob ω ((decide p, false) :: l) := hN h hl
theorem kR {α : Type} (a : α) (hl : Ob ω l) : Ob ω ((dP (a = a), true) :: l) := ZF (Zn rfl) hl
theorem kC {p : Prop} (h : p) (hl : Ob ω l) : Ob ω ((dP p, true) :: l) := ZF (Zn h) hl
theorem kB (a b : Nat) (hl : Ob ω l) (h : a < b := by first | omega | (simp only [List.length_set, List.length_append, List.length_cons, List.length_nil, List.length_replicate, List.length_take, List.length_drop] at * <;> omega)) : Ob ω ((Nat.blt a b, true) :: l) := ZF (Z5P h) hl
theorem kI (hl : Ob ω l) (h : a = b := by first | rfl | exact Zyf (by omega)) : Ob ω ((a == b, true) :: l) := hT h hl
theorem kJ (a : Int) (n : Nat) (hl : Ob ω l) (h : a = (n : Int) := by omega) : Ob ω ((a == Int.ofNat n, true) :: l) := hT h hl
theorem kM (hl : Ob ω l) (h : 0 ≤ a := by omega) : Ob ω ((Int.tmod a b == a % b, true) :: l) := hT (Z4e h) hl
theorem kV (hl : Ob ω l) (h : 0 ≤ a := by omega) (h' : -9223372036854775808 ≤ a / b ∧ a / b ≤ 9223372036854775807 := by omega) : Ob ω ((IntKind.i64.wrap (Int.tdiv a b) == a / b, true) :: l) := hT (by rw [Z4f h]; exact wrap_i64 h') hl
theorem kW (hl : Ob ω l) (h : -9223372036854775808 ≤ a ∧ a ≤ 9223372036854775807 := by first | omega | (simp only [List.length_set, List.length_append, List.length_cons, List.length_nil, List.length_replicate, List.length_take, List.length_drop] at * <;> omega)) (h' : a = b := by first | rfl | omega) : Ob ω ((IntKind.i64.wrap a == b, true) :: l) := hT ((wrap_i64 h).trans h') hl
end
theorem kZ (t : Bool) (hl : Ob ω l) (h : t = true := by first | (simp only [beq_self_eq_true, Bool.and_self]; done) | (simp only [Bool.and_true, Bool.and_eq_true, beq_iff_eq] <;> first | omega | (simp_all; done) | grind)) : Ob ω ((t, true) :: l) := ZF h hl
theorem kO (t : Bool) (hl : Ob ω l) (h : t = false := by exact Bool.eq_false_iff.2 (by simp only [ne_eq, Bool.and_true, Bool.and_eq_true, beq_iff_eq]; first | omega | (intro hh; simp_all; done) | (intro hh; grind))) : Ob ω ((t, false) :: l) := ZF h hl
theorem kS (b : Int) (n : Nat) (k : IntKind) (hl : Ob ω l) (h : b = Int.ofNat n := by first | rfl | exact Zyf (by omega)) (h' : n ≤ IntKind.bits k := by (show _ ≤ 64); omega) : Ob ω ((dP (b = Int.ofNat n ∧ n ≤ IntKind.bits k), true) :: l) := kC ⟨h, h'⟩ hl
section
variable {α : Type} (E : Enc α) (L : List α)
theorem Zyw {L : List α} {o i q m : Nat} (hi : i < L.length) (ho : o = i * E.w + q) (hq : q + m ≤ E.w) : ZdO (Z4 m ((Za E L).drop o)) (((E.cel (L.getD i E.dflt)).drop q).take m) = true := by
 rw [Zyq hi ho hq];have e : ((E.enc (L.getD i E.dflt)).drop q).take m = Zl (((E.cel (L.getD i E.dflt)).drop q).take m) := by unfold Enc.enc Zl; rw [List.map_take, List.map_drop]
 rw [e];refine Zdo ?_;have hs := E.sure (L.getD i E.dflt);have h1 : ∀ (cs : List Cell) (n : Nat), Ze4 cs = true → Ze4 (cs.drop n) = true := fun cs => by
  induction cs with
  | nil => intro n _; simp [Ze4]
  | cons c cs ih =>
   intro n h;cases n with
   | zero => exact h
   | succ n => rw [List.drop_succ_cons]; exact ih n (by cases c <;> first | cases h; done | exact h)
 have h2 : ∀ (cs : List Cell) (n : Nat), Ze4 cs = true → Ze4 (cs.take n) = true := fun cs => by
  induction cs with
  | nil => intro n _; simp [Ze4]
  | cons c cs ih =>
   intro n h;cases n with
   | zero => rfl
   | succ n =>
    rw [List.take_succ_cons];cases c with
    | any => cases h
    | _ => exact ih n h
 exact h2 _ _ (h1 _ _ hs)
theorem kL (i q m : Nat) (hl : Ob ω l) (h : i < L.length := by first | omega | (simp only [List.length_set, List.length_append, List.length_cons, List.length_nil, List.length_replicate, List.length_take, List.length_drop] at * <;> omega)) (hq : q + m ≤ E.w := by decide) : Ob ω ((ZdO (Z4 m (List.drop ((0 + (i * E.w)) + q) (Za E L))) (((E.cel (L.getD i E.dflt)).drop q).take m), true) :: l) := ZF (Zyw E h (by omega) hq) hl
theorem kLn (i q m : Nat) (hl : Ob ω l) (h : i < L.length := by first | omega | (simp only [List.length_set, List.length_append, List.length_cons, List.length_nil, List.length_replicate, List.length_take, List.length_drop] at * <;> omega)) (hq : q + m ≤ E.w := by decide) : Ob ω ((ZdO (Z4 m (List.drop (0 + (i * E.w)) (Za E L))) (((E.cel (L.getD i E.dflt)).drop 0).take m), true) :: l) := ZF (Zyw E (q := 0) h (by omega) (by omega)) hl
theorem kG (o i q m w : Nat) (hl : Ob ω l) (h : i < L.length := by first | omega | (simp only [List.length_set, List.length_append, List.length_cons, List.length_nil, List.length_replicate, List.length_take, List.length_drop] at * <;> omega)) (ho : o = i * w + q := by omega) (hw : w = E.w := by rfl) (hq : q + m ≤ E.w := by decide) : Ob ω ((dP (ZS (code (Z9 E L)) o m = some (((E.cel (L.getD i E.dflt)).drop q).take m)), true) :: l) := kC (Z4k h (by rw [← hw]; exact ho) hq rfl) hl
theorem kA (x : α) (hl : Ob ω l) (h : L.length ≤ 100000 := by first | omega | (simp only [List.length_set, List.length_append, List.length_cons, List.length_nil, List.length_replicate, List.length_take, List.length_drop] at * <;> omega)) (h1 : Zu Zbf (E.enc x) = true := by rfl) : Ob ω ((dP ((1 = 1 ∧ Z4 (1 * E.w) (List.drop 0 (E.enc x)) = some (E.enc x) ∧ Zu Zbf (E.enc x) = true) ∧ 0 < 1 ∧ 1 ≤ 100000 ∧ L.length < L.length + 1 ∧ L.length ≤ 100000 ∧ L.length * E.w ≤ (List.length (Za E L)) ∧ List.take (L.length * E.w) (Za E L) ++ E.enc x = Za E (L ++ [x])), true) :: l) := by
 refine kC ⟨⟨rfl, ?_, h1⟩, by omega, by omega, by omega, h, by rw [ZdI]; exact Nat.le_refl _, ?_⟩ hl
 ·rw [Nat.one_mul, List.drop_zero, ← E.len x, Zfv _ _ (Nat.le_refl _), List.take_length]
 ·rw [List.take_of_length_le (by rw [ZdI]; exact Nat.le_refl _), Zkx]
  show _ = _ ++ Za E (x :: []);rw [ZcX, Zgc, List.append_nil]
theorem kA' (n : Nat) (x : α) (hl : Ob ω l) (hn : n = L.length := by first | rfl | omega | (simp only [List.length_append, List.length_cons, List.length_nil, List.length_take, List.length_drop, List.length_set] <;> omega)) (h : n ≤ 100000 := by first | omega | (simp only [List.length_set, List.length_append, List.length_cons, List.length_nil, List.length_replicate, List.length_take, List.length_drop] at * <;> omega)) (h1 : Zu Zbf (E.enc x) = true := by rfl) : Ob ω ((dP ((1 = 1 ∧ Z4 (1 * E.w) (List.drop 0 (E.enc x)) = some (E.enc x) ∧ Zu Zbf (E.enc x) = true) ∧ 0 < 1 ∧ 1 ≤ 100000 ∧ n < n + 1 ∧ n ≤ 100000 ∧ n * E.w ≤ (List.length (Za E L)) ∧ List.take (n * E.w) (Za E L) ++ E.enc x = Za E (L ++ [x])), true) :: l) := by subst hn;exact kA E L x hl h h1
end
end
section
variable {ω : Oq} {l : List (Bool × Bool)}
theorem bkX (t b : Bool) (h : t = b) (hl : Ob ω l) : Ob (.b 0 b ω) ((t, b) :: l) := kX t b h hl
theorem bhT {a b : Int} (h : a = b) (hl : Ob ω l) : Ob (.b 0 true ω) ((a == b, true) :: l) := hT h hl
theorem bhF {a b : Int} (h : ¬ a = b) (hl : Ob ω l) : Ob (.b 0 false ω) ((a == b, false) :: l) := hF h hl
theorem bhD {a b : Int} (h : ¬ a = b) (hl : Ob ω l) : Ob (.b 0 true ω) ((a != b, true) :: l) := hD h hl
theorem bhY {p : Prop} [Decidable p] (h : p) (hl : Ob ω l) : Ob (.b 0 true ω) ((decide p, true) :: l) := hY h hl
theorem bhN {p : Prop} [Decidable p] (h : ¬ p) (hl : Ob ω l) : Ob (.b 0 false ω) ((decide p, false) :: l) := hN h hl
section
variable (a b : Int)
theorem bkF (hl : Ob ω l) (h : ¬ a = b := by omega) : Ob (.b 0 false ω) ((a == b, false) :: l) := kF a b hl h
theorem bkE (hl : Ob ω l) (h : a = b := by omega) : Ob (.b 0 false ω) ((a != b, false) :: l) := kE a b hl h
theorem bkY (p : Prop) [Decidable p] (hl : Ob ω l) (h : p := by omega) : Ob (.b 0 true ω) ((decide p, true) :: l) := kY p hl h
theorem bkN (p : Prop) [Decidable p] (hl : Ob ω l) (h : ¬ p := by omega) : Ob (.b 0 false ω) ((decide p, false) :: l) := kN p hl h
theorem bkZ (t : Bool) (hl : Ob ω l) (h : t = true := by first | (simp only [beq_self_eq_true, Bool.and_self]; done) | (simp only [Bool.and_true, Bool.and_eq_true, beq_iff_eq] <;> first | omega | (simp_all; done) | grind)) : Ob (.b 0 true ω) ((t, true) :: l) := kZ t hl h
theorem bkO (t : Bool) (hl : Ob ω l) (h : t = false := by exact Bool.eq_false_iff.2 (by simp only [ne_eq, Bool.and_true, Bool.and_eq_true, beq_iff_eq]; first | omega | (intro hh; simp_all; done) | (intro hh; grind))) : Ob (.b 0 false ω) ((t, false) :: l) := kO t hl h
theorem vkW (hl : Ob ω l) (h : -9223372036854775808 ≤ a ∧ a ≤ 9223372036854775807 := by first | omega | (simp only [List.length_set, List.length_append, List.length_cons, List.length_nil, List.length_replicate, List.length_take, List.length_drop] at * <;> omega)) (h' : a = b := by first | rfl | omega) : Ob (.v 0 b ω) ((IntKind.i64.wrap a == b, true) :: l) := kW a b hl h h'
theorem vkV (hl : Ob ω l) (h : 0 ≤ a := by omega) (h' : -9223372036854775808 ≤ a / b ∧ a / b ≤ 9223372036854775807 := by omega) : Ob (.v 0 (a / b) ω) ((IntKind.i64.wrap (Int.tdiv a b) == a / b, true) :: l) := kV a b hl h h'
theorem vkM (hl : Ob ω l) (h : 0 ≤ a := by omega) : Ob (.v 0 (a % b) ω) ((Int.tmod a b == a % b, true) :: l) := kM a b hl h
end
theorem xkI (a : Int) (n : Nat) (hl : Ob ω l) (h : a = Int.ofNat n := by first | rfl | exact Zyf (by omega)) : Ob (.x 0 n ω) ((a == Int.ofNat n, true) :: l) := hT h hl
theorem xkJ (a : Int) (n : Nat) (hl : Ob ω l) (h : a = (n : Int) := by omega) : Ob (.x 0 n ω) ((a == Int.ofNat n, true) :: l) := kJ a n hl h
section
variable {α : Type} (E : Enc α) (L : List α)
theorem lkL (i q m : Nat) (hl : Ob ω l) (h : i < L.length := by first | omega | (simp only [List.length_set, List.length_append, List.length_cons, List.length_nil, List.length_replicate, List.length_take, List.length_drop] at * <;> omega)) (hq : q + m ≤ E.w := by decide) : Ob (.l 0 (((E.cel (L.getD i E.dflt)).drop q).take m) ω) ((ZdO (Z4 m (List.drop ((0 + (i * E.w)) + q) (Za E L))) (((E.cel (L.getD i E.dflt)).drop q).take m), true) :: l) := kL E L i q m hl h hq
theorem Za3 (i q m : Nat) (hl : Ob ω l) (h : i < L.length := by first | omega | (simp only [List.length_set, List.length_append, List.length_cons, List.length_nil, List.length_replicate, List.length_take, List.length_drop] at * <;> omega)) (hq : q + m ≤ E.w := by decide) : Ob (.l 0 (((E.cel (L.getD i E.dflt)).drop 0).take m) ω) ((ZdO (Z4 m (List.drop (0 + (i * E.w)) (Za E L))) (((E.cel (L.getD i E.dflt)).drop 0).take m), true) :: l) := kLn E L i q m hl h hq
theorem lkG (o i q m w : Nat) (hl : Ob ω l) (h : i < L.length := by first | omega | (simp only [List.length_set, List.length_append, List.length_cons, List.length_nil, List.length_replicate, List.length_take, List.length_drop] at * <;> omega)) (ho : o = i * w + q := by omega) (hw : w = E.w := by rfl) (hq : q + m ≤ E.w := by decide) : Ob (.l 0 (((E.cel (L.getD i E.dflt)).drop q).take m) ω) ((dP (ZS (code (Z9 E L)) o m = some (((E.cel (L.getD i E.dflt)).drop q).take m)), true) :: l) := kG E L o i q m w hl h ho hw hq
theorem wkA (x : α) (hl : Ob ω l) (h : L.length ≤ 100000 := by first | omega | (simp only [List.length_set, List.length_append, List.length_cons, List.length_nil, List.length_replicate, List.length_take, List.length_drop] at * <;> omega)) (h1 : Zu Zbf (E.enc x) = true := by rfl) : Ob (.w 0 (.ap 1 (E.enc x) (Za E (L ++ [x]))) ω) ((dP ((1 = 1 ∧ Z4 (1 * E.w) (List.drop 0 (E.enc x)) = some (E.enc x) ∧ Zu Zbf (E.enc x) = true) ∧ 0 < 1 ∧ 1 ≤ 100000 ∧ L.length < L.length + 1 ∧ L.length ≤ 100000 ∧ L.length * E.w ≤ (List.length (Za E L)) ∧ List.take (L.length * E.w) (Za E L) ++ E.enc x = Za E (L ++ [x])), true) :: l) := kA E L x hl h h1
theorem ZoO (n : Nat) (x : α) (hl : Ob ω l) (hn : n = L.length := by first | rfl | omega | (simp only [List.length_append, List.length_cons, List.length_nil, List.length_take, List.length_drop, List.length_set] <;> omega)) (h : n ≤ 100000 := by first | omega | (simp only [List.length_set, List.length_append, List.length_cons, List.length_nil, List.length_replicate, List.length_take, List.length_drop] at * <;> omega)) (h1 : Zu Zbf (E.enc x) = true := by rfl) : Ob (.w 0 (.ap 1 (E.enc x) (Za E (L ++ [x]))) ω) ((dP ((1 = 1 ∧ Z4 (1 * E.w) (List.drop 0 (E.enc x)) = some (E.enc x) ∧ Zu Zbf (E.enc x) = true) ∧ 0 < 1 ∧ 1 ≤ 100000 ∧ n < n + 1 ∧ n ≤ 100000 ∧ n * E.w ≤ (List.length (Za E L)) ∧ List.take (n * E.w) (Za E L) ++ E.enc x = Za E (L ++ [x])), true) :: l) := kA' E L n x hl hn h h1
end
end
section
variable {ρ : Nat → Nat} {bl H : List (Option AObj)}
theorem bE : Z1 ρ [] [] := trivial
theorem b1 {b : Option AObj} (h : Z1 ρ bl H) : Z1 ρ (b :: bl) (none :: H) := h
theorem bN (h : Z1 ρ bl H) : Z1 ρ (none :: bl) (none :: H) := h
theorem bC {o p : AObj} (h : ZfF ρ o p) (hb : Z1 ρ bl H) : Z1 ρ (some o :: bl) (some p :: H) := ⟨h, hb⟩
theorem bM (o : AObj) {p : AObj} (hb : Z1 ρ bl H) (h : ZfF ρ o p := by exact ⟨rfl, ⟨[], by kernel_rfl⟩, by kernel_rfl⟩) : Z1 ρ (some o :: bl) (some p :: H) := ⟨h, hb⟩
theorem bS (c : List Value) {t : TypeId} {c' : List Value} (hb : Z1 ρ bl H) (h : c.map (ZQ ρ 1) = c' ++ [] := by rfl) (hs : Zu (Z3 1) c = true := by rfl) : Z1 ρ (some (.cells c t) :: bl) (some (.cells c' t) :: H) := ⟨⟨rfl, ⟨[], h⟩, hs⟩, hb⟩
theorem bR {α : Type} {E : Enc α} {L : List α} {t : TypeId} (hb : Z1 ρ bl H) : Z1 ρ (some (.cells (Za E L) t) :: bl) (some (.cells (Za E L) t) :: H) := ⟨ZbO _ L _, hb⟩
theorem bQ {α : Type} {E : Enc α} {L : List α} {t : TypeId} (hb : Z1 ρ bl H) : Z1 ρ (some (.cells (Za E L) t true) :: bl) (some (.cells (Za E L) t true) :: H) := ⟨Z3t _ L _, hb⟩
end
theorem inE {a : Nat} {l : List Nat} (h : List.elem a l = true) : a ∈ l := List.mem_of_elem_eq_true h
theorem niE {a : Nat} {l : List Nat} (h : List.elem a l = false) : ¬ a ∈ l := fun m => by rw [List.elem_eq_true_of_mem m] at h; cases h
theorem alE {l m : List Nat} (h : Zu (fun j => List.elem j m) l = true) : ∀ j ∈ l, j ∈ m := fun j hj => inE (Zaf h j hj)
def unV (live : List Nat) (v : Value) : Value := ZQ (fun k => live.getD k k) 3 v
theorem Zyx {ρ : Nat → Nat} {live : List Nat} : ∀ {L : List (Nat × Value)}, L.map (·.2) = L.map (fun x => ZQ ρ 3 (unV live x.2)) → Zu (fun x => Z3 3 (unV live x.2)) L = true → Zcz ρ (L.map fun x => some (unV live x.2)) L
 | [], _, _ => trivial
 | x :: L, h, k => by have h1 := List.cons.inj h;have k1 : Z3 3 (unV live x.2) = true := Zaf k x List.mem_cons_self;refine ⟨⟨h1.1, k1⟩, Zyx h1.2 ?_⟩;have e : Zu (fun x => Z3 3 (unV live x.2)) (x :: L) = (Z3 3 (unV live x.2) && Zu (fun x => Z3 3 (unV live x.2)) L) := rfl;rw [e, k1] at k;simpa using k
def ilT : Nat → Bool := fun _ => true
section
variable {P : Program} {ext : FuncId → Option Ext} {f : FuncId} {fn : Func} {pre : List AObj} {A : Array Value} {R : Type} {V : R → Value} {Po : R → List (Option AObj)} {bl : List (Option AObj)} {ob : List (Bool × Bool)}
theorem fxC (live : List Nat) (u : Value) {r : R} {ω : Oq} (ho : Ob ω ob) (hbl : Z1 (rho live far) bl (Po r)) (hv : V r = ZQ (rho live far) 3 u ∧ Z3 3 u = true := by exact ⟨by rfl, by rfl⟩) (hev : ZoF live (ZsM P ext fn pre A 4000 ω.t) = some (u, bl, ob) := by as_aux_lemma => kernel_rfl) (hl : live.length = (Po r).length := by rfl) (hn : live.Nodup := by decide +kernel) (hk : Zbv pre.length live = true := by rfl) : Fx P ext fn pre A V Po (some r) :=
 Z3m hev ho hl hn hk hv hbl
theorem Zq (live : List Nat) {r : R} {ω : Oq} (ho : Ob ω ob) (hbl : Z1 (rho live far) bl (Po r)) (hv : V r = ZQ (rho live far) 3 (unV live (V r)) ∧ Z3 3 (unV live (V r)) = true := by exact ⟨by rfl, by rfl⟩) (hev : ZoF live (ZsM P ext fn pre A 4000 ω.t) = some ((unV live (V r)), bl, ob) := by as_aux_lemma => kernel_rfl) (hl : live.length = (Po r).length := by rfl) (hn : live.Nodup := by decide +kernel) (hk : Zbv pre.length live = true := by rfl) : Fx P ext fn pre A V Po (some r) :=
 Z3m hev ho hl hn hk hv hbl
end
namespace Mach
section
variable {P : Program} {ext : FuncId → Option Ext} {M : Mach} {x : M.X} {A : Array Value} {bl : List (Option AObj)} {ob : List (Bool × Bool)}
section
variable (live : List Nat)
theorem okF (u : Value) {r : M.R} {ω : Oq} (ho : Ob ω ob) (hbl : Z1 (rho live far) bl (M.Po r)) (hv : M.V r = ZQ (rho live far) 3 u ∧ Z3 3 u = true := by exact ⟨by rfl, by rfl⟩) (hev : ∀ gv, Zi2 live (M.Start x gv P ext 1000000 0 4000 ω.t) = some (u, bl, ob) := by intro gv; kernel_rfl) (hl : live.length = (M.Po r).length := by rfl) (hn : live.Nodup := by decide +kernel) (hk : Zbv M.pre.length live = true := by rfl) : M.Ok P ext x (some (.inr r)) :=
 ok_fin hev ho hl hn hk hv hbl
theorem okF0 {r : M.R} {ω : Oq} (ho : Ob ω ob) (hbl : Z1 (rho live far) bl (M.Po r)) (hv : M.V r = ZQ (rho live far) 3 (unV live (M.V r)) ∧ Z3 3 (unV live (M.V r)) = true := by exact ⟨by rfl, by rfl⟩) (hev : ∀ gv, Zi2 live (M.Start x gv P ext 1000000 0 4000 ω.t) = some ((unV live (M.V r)), bl, ob) := by intro gv; kernel_rfl) (hl : live.length = (M.Po r).length := by rfl) (hn : live.Nodup := by decide +kernel) (hk : Zbv M.pre.length live = true := by rfl) : M.Ok P ext x (some (.inr r)) :=
 ok_fin hev ho hl hn hk hv hbl
theorem enF0 {r : M.R} {ω : Oq} (ho : Ob ω ob) (hbl : Z1 (rho live far) bl (M.Po r)) (hv : M.V r = ZQ (rho live far) 3 (unV live (M.V r)) ∧ Z3 3 (unV live (M.V r)) = true := by exact ⟨by rfl, by rfl⟩) (hev : Zi2 live (M.startE P ext A 1000000 0 4000 ω.t) = some ((unV live (M.V r)), bl, ob) := by kernel_rfl) (hl : live.length = (M.Po r).length := by rfl) (hn : live.Nodup := by decide +kernel) (hk : Zbv M.pre.length live = true := by rfl) : M.Enter P ext A (some (.inr r)) :=
 en_fin hev ho hl hn hk hv hbl
theorem okN (tv : List (Option Value)) {y : M.X} {ω : Oq} (ho : Ob ω ob) (ht : Zcz (rho live far) tv (M.L y)) (hbl : Z1 (rho live far) bl (M.H y)) (hr : List.elem (M.hd y) (ZaD (M.KK (M.hd x))) = true := by kernel_rfl) (hev : ∀ gv, Zkw (M.hd y) live ((M.L y).map (·.1)) (M.Start x gv P ext 1000000 0 4000 ω.t) = some (tv, bl, ob) := by intro gv; kernel_rfl) (hL : M.isL (M.hd y) = true := by rfl) (hl : live.length = (M.H y).length := by rfl) (hn : live.Nodup := by decide +kernel) (hk : Zbv M.pre.length live = true := by rfl) : M.Ok P ext x (some (.inl y)) :=
 ok_next (tv := fun _ => tv) hL (inE hr) hev ho hl hn hk (fun _ => ht) hbl
theorem okN0 {y : M.X} {ω : Oq} (ho : Ob ω ob) (hbl : Z1 (rho live far) bl (M.H y)) (hr : List.elem (M.hd y) (ZaD (M.KK (M.hd x))) = true := by kernel_rfl) (ht : (M.L y).map (·.2) = (M.L y).map (fun x => ZQ (rho live far) 3 (unV live x.2)) := by kernel_rfl) (hs : Zu (fun x => Z3 3 (unV live x.2)) (M.L y) = true := by kernel_rfl) (hev : ∀ gv, Zkw (M.hd y) live ((M.L y).map (·.1)) (M.Start x gv P ext 1000000 0 4000 ω.t) = some (((M.L y).map fun x => some (unV live x.2)), bl, ob) := by intro gv; kernel_rfl) (hL : M.isL (M.hd y) = true := by rfl) (hl : live.length = (M.H y).length := by rfl) (hn : live.Nodup := by decide +kernel) (hk : Zbv M.pre.length live = true := by rfl) : M.Ok P ext x (some (.inl y)) :=
 ok_next (tv := fun _ => ((M.L y).map fun x => some (unV live x.2))) hL (inE hr) hev ho hl hn hk (fun _ => Zyx ht hs) hbl
theorem okC (cd cm : Nat) (live : List Nat) (tv : List (Option Value)) {y : M.X} {ω : Oq} (ho : Ob ω ob) (ht : Zcz (rho live far) tv (M.L y)) (hbl : Z1 (rho live far) bl (M.H y)) (hsub : Zu (fun j => List.elem j (ZaD (M.KK (M.hd x)))) (ZaD (M.code (M.hd y)).2) = true := by kernel_rfl) (hev : ∀ gv, ZoH live ((M.L y).map (·.1)) (M.Start x gv P ext cd cm 4000 ω.t) = some (M.code (M.hd y), tv, bl, ob) := by intro gv; kernel_rfl) (hL : M.isL (M.hd y) = false := by rfl) (hl : live.length = (M.H y).length := by rfl) (hn : live.Nodup := by decide +kernel) (hk : Zbv M.pre.length live = true := by rfl) : M.Ok P ext x (some (.inl y)) :=
 Z3l (tv := fun _ => tv) hL rfl (alE hsub) hev ho hl hn hk (fun _ => ht) hbl
theorem okC0 (cd cm : Nat) (live : List Nat) {y : M.X} {ω : Oq} (ho : Ob ω ob) (hbl : Z1 (rho live far) bl (M.H y)) (hsub : Zu (fun j => List.elem j (ZaD (M.KK (M.hd x)))) (ZaD (M.code (M.hd y)).2) = true := by kernel_rfl) (ht : (M.L y).map (·.2) = (M.L y).map (fun x => ZQ (rho live far) 3 (unV live x.2)) := by kernel_rfl) (hs : Zu (fun x => Z3 3 (unV live x.2)) (M.L y) = true := by kernel_rfl) (hev : ∀ gv, ZoH live ((M.L y).map (·.1)) (M.Start x gv P ext cd cm 4000 ω.t) = some (M.code (M.hd y), ((M.L y).map fun x => some (unV live x.2)), bl, ob) := by intro gv; kernel_rfl) (hL : M.isL (M.hd y) = false := by rfl) (hl : live.length = (M.H y).length := by rfl) (hn : live.Nodup := by decide +kernel) (hk : Zbv M.pre.length live = true := by rfl) : M.Ok P ext x (some (.inl y)) :=
 Z3l (tv := fun _ => ((M.L y).map fun x => some (unV live x.2))) hL rfl (alE hsub) hev ho hl hn hk (fun _ => Zyx ht hs) hbl
theorem okH (tv : List (Option Value)) {y : M.X} {ω : Oq} (ho : Ob ω ob) (ht : Zcz (rho live far) tv (M.L y)) (hbl : Z1 (rho live far) bl (M.H y)) (hsub : Zu (fun j => List.elem j (ZaD (M.KK (M.hd x)))) (ZaD (M.code (M.hd y)).2) = true := by kernel_rfl) (hev : ∀ gv, ZeP live ((M.L y).map (·.1)) (M.Start x gv P ext 1000000 0 4000 ω.t) = some (M.code (M.hd y), tv, bl, ob) := by intro gv; kernel_rfl) (hL : M.isL (M.hd y) = true := by rfl) (hl : live.length = (M.H y).length := by rfl) (hn : live.Nodup := by decide +kernel) (hk : Zbv M.pre.length live = true := by rfl) : M.Ok P ext x (some (.inl y)) :=
 Z1u (tv := fun _ => tv) hL rfl (alE hsub) hev ho hl hn hk (fun _ => ht) hbl
theorem okH0 {y : M.X} {ω : Oq} (ho : Ob ω ob) (hbl : Z1 (rho live far) bl (M.H y)) (hsub : Zu (fun j => List.elem j (ZaD (M.KK (M.hd x)))) (ZaD (M.code (M.hd y)).2) = true := by kernel_rfl) (ht : (M.L y).map (·.2) = (M.L y).map (fun x => ZQ (rho live far) 3 (unV live x.2)) := by kernel_rfl) (hs : Zu (fun x => Z3 3 (unV live x.2)) (M.L y) = true := by kernel_rfl) (hev : ∀ gv, ZeP live ((M.L y).map (·.1)) (M.Start x gv P ext 1000000 0 4000 ω.t) = some (M.code (M.hd y), ((M.L y).map fun x => some (unV live x.2)), bl, ob) := by intro gv; kernel_rfl) (hL : M.isL (M.hd y) = true := by rfl) (hl : live.length = (M.H y).length := by rfl) (hn : live.Nodup := by decide +kernel) (hk : Zbv M.pre.length live = true := by rfl) : M.Ok P ext x (some (.inl y)) :=
 Z1u (tv := fun _ => ((M.L y).map fun x => some (unV live x.2))) hL rfl (alE hsub) hev ho hl hn hk (fun _ => Zyx ht hs) hbl
theorem enH (tv : List (Option Value)) {y : M.X} {ω : Oq} (ho : Ob ω ob) (ht : Zcz (rho live far) tv (M.L y)) (hbl : Z1 (rho live far) bl (M.H y)) (hsub : ZaD (M.code (M.hd y)).2 = [] := by kernel_rfl) (hev : ZeP live ((M.L y).map (·.1)) (M.startE P ext A 1000000 0 4000 ω.t) = some (M.code (M.hd y), tv, bl, ob) := by kernel_rfl) (hL : M.isL (M.hd y) = true := by rfl) (hl : live.length = (M.H y).length := by rfl) (hn : live.Nodup := by decide +kernel) (hk : Zbv M.pre.length live = true := by rfl) : M.Enter P ext A (some (.inl y)) :=
 en_head hL rfl hsub hev ho hl hn hk ht hbl
theorem enH0 {y : M.X} {ω : Oq} (ho : Ob ω ob) (hbl : Z1 (rho live far) bl (M.H y)) (hsub : ZaD (M.code (M.hd y)).2 = [] := by kernel_rfl) (ht : (M.L y).map (·.2) = (M.L y).map (fun x => ZQ (rho live far) 3 (unV live x.2)) := by kernel_rfl) (hs : Zu (fun x => Z3 3 (unV live x.2)) (M.L y) = true := by kernel_rfl) (hev : ZeP live ((M.L y).map (·.1)) (M.startE P ext A 1000000 0 4000 ω.t) = some (M.code (M.hd y), ((M.L y).map fun x => some (unV live x.2)), bl, ob) := by kernel_rfl) (hL : M.isL (M.hd y) = true := by rfl) (hl : live.length = (M.H y).length := by rfl) (hn : live.Nodup := by decide +kernel) (hk : Zbv M.pre.length live = true := by rfl) : M.Enter P ext A (some (.inl y)) :=
 en_head hL rfl hsub hev ho hl hn hk (Zyx ht hs) hbl
end
theorem specT (F : Fit P ext) (M : Mach) {f : FuncId} (hfn : P.funcs[f]? = some M.fn) {A : Array Value} (ok : ∀ x, M.Ok P ext x (M.step x)) {o : Option (M.X ⊕ M.R)} (en : M.Enter P ext A o) {n : Nat} {r : M.R} (h : goM M.step n o = some r) (hH : ∀ x, (M.H x).length ≤ far := by intro x; cases x <;> exact ZP _ rfl) (hPo : ∀ r, (M.Po r).length ≤ far := by intro r; cases r <;> exact ZP _ rfl) (hK : ∀ x, M.isL (M.hd x) = true → M.hd x ∉ ZaD (M.code (M.hd x)).2 := by intro x; cases x <;> exact fun _ => niE (by kernel_rfl)) (hb : M.fn.body = some (ZM M.fn) := by kernel_rfl) (hA : Nat.ble A.size M.fn.ntmps = true := by kernel_rfl) : LSpec P f A M.pre (M.V r) (M.Po r) :=
 spec F M hfn hb hA hH hPo hK ok en h
end
theorem oi {P : Program} {ext : FuncId → Option Ext} {M : Mach} {x : M.X} {c : Prop} [Decidable c] {A : Option (M.X ⊕ M.R)} (h : c → M.Ok P ext x A) : M.Ok P ext x (if c then A else none) := ok_ite h fun _ => ok_none
end Mach
theorem tE {ρ : Nat → Nat} : Zcz ρ [] [] := trivial
theorem tC {ρ : Nat → Nat} {u : Value} {tv : List (Option Value)} {x : Nat × Value} {l : List (Nat × Value)} (ht : Zcz ρ tv l) (h : x.2 = ZQ ρ 3 u ∧ Z3 3 u = true := by exact ⟨by rfl, by rfl⟩) : Zcz ρ (some u :: tv) (x :: l) := ⟨h, ht⟩
section
variable {ω : Oq} {l : List (Bool × Bool)}
end
theorem bU {ρ : Nat → Nat} {bl H : List (Option AObj)} (c : List Value) (j : Nat) {x y : Value} (hxy : x = y) {t : TypeId} {c' : List Value} (hb : Z1 ρ bl H) (h1 : c.map (ZQ ρ 1) = c'.set j x := by rfl) (h2 : c'.set j y = c' := by rfl) (hs : Zu (Z3 1) c = true := by rfl) : Z1 ρ (some (.cells c t) :: bl) (some (.cells c' t) :: H) := ⟨⟨rfl, ⟨[], by rw [h1, hxy, h2, List.append_nil]⟩, hs⟩, hb⟩
theorem bU2 {ρ : Nat → Nat} {bl H : List (Option AObj)} (c : List Value) (j : Nat) {x y : Value} (hxy : x = y) (j' : Nat) {x' y' : Value} (hxy' : x' = y') {t : TypeId} {c' : List Value} (hb : Z1 ρ bl H) (h1 : c.map (ZQ ρ 1) = (c'.set j x).set j' x' := by rfl) (h2 : (c'.set j y).set j' y' = c' := by rfl) (hs : Zu (Z3 1) c = true := by rfl) : Z1 ρ (some (.cells c t) :: bl) (some (.cells c' t) :: H) := ⟨⟨rfl, ⟨[], by rw [h1, hxy, hxy', h2, List.append_nil]⟩, hs⟩, hb⟩
section
variable {P : Program} {ext : FuncId → Option Ext} {f : FuncId} {fn : Func} {pre : List AObj} {A : Array Value} {R : Type} {V : R → Value} {Po : R → List (Option AObj)} {bl : List (Option AObj)} {ob : List (Bool × Bool)}
end
structure ToldS where
 A : Array Value
 pt : List (Nat × AObj)
 gv : Value
 qt : List (Nat × Option AObj)
 dn : Nat
noncomputable def ToldS.t (S : ToldS) : Told := .call S.pt S.gv S.qt S.dn
def ToldS.P (S : ToldS) (P : Program) (f : FuncId) (n : Nat) : Prop := Zb2 P f S.A S.pt S.gv S.qt n S.dn
noncomputable def ZsP : List (Nat × AObj) → List (Bool × Bool) → List (Bool × Bool)
 | [], l => l
 | (_, .cells c _ _) :: r, l => (dP (c = c), true) :: ZsP r l
 | (_, .ro O _) :: r, l => (dP (O = O), true) :: ZsP r l
theorem Znl {ω : Oq} : ∀ (r : List (Nat × AObj)) {l : List (Bool × Bool)}, Ob ω l → Ob ω (ZsP r l)
 | [], _, h => h
 | (_, .cells _ _ _) :: r, _, h => kR _ (Znl r h)
 | (_, .ro _ _) :: r, _, h => kR _ (Znl r h)
theorem kK {P : Program} {f : FuncId} {S : ToldS} {n : Nat} (h : S.P P f n) {ω : Oq} {l : List (Bool × Bool)} (hl : Ob ω l) : Ob (.w 0 S.t ω) ((dP (Zb2 P f S.A S.pt S.gv S.qt n S.dn), true) :: ZsP S.pt l) := ZF (Zn h) (Znl (ω := ω) _ hl)
theorem kKg (g : Nat) {P : Program} {f : FuncId} {S : ToldS} {n : Nat} (h : S.P P f n) {ω : Oq} {l : List (Bool × Bool)} (hl : Ob ω l) : Ob (.w g S.t ω) ((dP (Zb2 P f S.A S.pt S.gv S.qt n S.dn), true) :: ZsP S.pt l) := ZF (Zn h) (Znl (ω := ω) _ hl)
theorem kKa {P : Program} {f : FuncId} {S : ToldS} {n : Nat} (h : S.P P f n) {ω : Oq} {l : List (Bool × Bool)} (hl : Ob ω l) : Ob (.w 0 S.t ω) ((dP (Zb2 P f S.A S.pt S.gv S.qt n S.dn), true) :: l) := ZF (Zn h) hl
theorem Z2t (g : Nat) {P : Program} {f : FuncId} {S : ToldS} {n : Nat} (h : S.P P f n) {ω : Oq} {l : List (Bool × Bool)} (hl : Ob ω l) : Ob (.w g S.t ω) ((dP (Zb2 P f S.A S.pt S.gv S.qt n S.dn), true) :: l) := ZF (Zn h) hl
theorem kKb {P : Program} {f : FuncId} {S : ToldS} {n : Nat} {A : Array Value} (e : A = S.A) (h : S.P P f n) {ω : Oq} {l : List (Bool × Bool)} (hl : Ob ω l) : Ob (.w 0 S.t ω) ((dP (Zb2 P f A S.pt S.gv S.qt n S.dn), true) :: l) := ZF (Zn (e ▸ h)) hl
theorem Zci {P : Program} {f : FuncId} {A : Array Value} {pre : List AObj} {v : Value} {post : List (Option AObj)} (h : LSpec P f A pre v post) (κ : List Nat) (n : Nat) (ch : List Nat) {S : ToldS} (hnd : κ.Nodup) (hlt : ∀ k ∈ κ, k < n) (hκ : κ.length = pre.length := by rfl) (hle : Nat.ble pre.length post.length = true := by rfl) (hch : Zu (fun j => Nat.blt j post.length) ch = true := by rfl)
  (hA : Zu (Za8 pre.length 3) A.toList = true := by rfl) (hpre : Zne pre.length pre := by repeat' (first | exact trivial | apply And.intro | exact ZcY _ _ _ | rfl)) (hv : (Za8 post.length 3 v || Zc3 v) = true := by rfl) (hpost : Zjk post.length post := by repeat' (first | exact trivial | apply And.intro | exact ZcY _ _ _ | rfl)) (hk : Zyh ch 0 pre post := by repeat' (first | exact trivial | apply And.intro | exact Or.inl (by decide) | exact Or.inr rfl | decide))
  (eA : S.A = ZgF (ZQ (kap κ n) 3) A := by rfl) (ev : S.gv = ZQ (kap κ n) 3 v := by rfl) (edn : pre.length + S.dn = post.length := by rfl) (ep : S.pt = preL κ n pre := by repeat' (first | refine Zw (Zke rfl ?_) ?_ | exact Zkz _ _ _ | exact ZvF _ _ _ | rfl)) (eq : S.qt = Z2o κ n ch post := by repeat' (first | refine Zw (Zke rfl ?_) ?_ | refine Z1s ?_ | exact Zkz _ _ _ | exact ZvF _ _ _ | rfl)) : S.P P f n :=
 LSpec.callL h κ n ch hκ hnd hlt (Nat.le_of_ble_eq_true hle) (fun j hj => Nat.le_of_ble_eq_true (Zaf hch j hj)) hA hpre hv hpost hk eA ev edn ep eq
def tP {P : Program} {f : FuncId} {A : Array Value} {v : Value} {post : List (Option AObj)} (_h : LSpec P f A [] v post) : ToldS := ⟨A, [], v, [], 0⟩
theorem tQ {P : Program} {f : FuncId} {A : Array Value} {v : Value} {post : List (Option AObj)} (h : LSpec P f A [] v post) (n : Nat) (hp : post = [] := by rfl) (hA : Zu (Za8 0 3) A.toList = true := by rfl) (hv : (Za8 0 3 v || Zc3 v) = true := by rfl) (eA : A = ZgF (ZQ (kap [] n) 3) A := by rfl) (ev : v = ZQ (kap [] n) 3 v := by rfl) : (tP h).P P f n := by subst hp;exact Zci h [] n [] (S := tP h) List.nodup_nil (fun _ q => by cases q) rfl rfl rfl hA trivial hv trivial trivial eA ev rfl rfl rfl
theorem ci {a b : Int} (h : a = b := by first | rfl | omega) : Value.int .i64 a = Value.int .i64 b := congrArg _ h
theorem cr {a : Value} {l m : List Value} (h : l = m) : a :: l = a :: m := congrArg _ h
theorem cr4 {a b c d : Value} {l m : List Value} (h : l = m) : a :: b :: c :: d :: l = a :: b :: c :: d :: m := congrArg (fun l => a :: b :: c :: d :: l) h
theorem nbf {b : Bool} (h : b = true := by first | assumption | exact Decidable.not_not.1 (by assumption) | simp_all) : (!b) = false := Z5T h
theorem nbt {b : Bool} (h : ¬ (b = true) := by first | assumption | simp_all) : (!b) = true := Z5S h
set_option linter.unusedVariables false
section
variable {α : Type} {E : Enc α}
theorem Z1z (hE : ∀ x, (E.enc x).map (nlV 0) = E.enc x) : ∀ L : List α, (Za E L).map (nlV 0) = Za E L
 | [] => by rw [Zgc]; rfl
 | x :: L => by rw [ZcX, List.map_append, hE, Z1z hE L]
theorem Z5U (hE : ∀ x, (E.enc x).map (nlV 0) = E.enc x) {L : List α} {l : List Value} {x : α} (hl : l.map (nlV 0) = E.enc x) : (Za E L ++ l).map (nlV 0) = Za E (L ++ [x]) := by rw [List.map_append, Z1z hE, hl, Zkx, ZcX, Zgc, List.append_nil]
theorem Z5V {l : List Value} {x : α} (hl : l.map (nlV 0) = E.enc x) : l.map (nlV 0) = Za E [x] := by rw [hl, ZcX, Zgc, List.append_nil]
theorem Z5W {L L0 : List α} {l : List Value} {n m : Nat} (hm : m = n * E.w) (hn : n ≤ L.length) (hR : L.take n = L0) : m ≤ (Za E L).length ∧ (Za E L).take m ++ l = Za E L0 ++ l := by subst hm hR;exact ⟨by rw [ZdI]; exact Nat.mul_le_mul_right _ hn, by rw [Zld]⟩
end
section
variable {α : Type} {E : Enc α}
def Zju (d : α) (n : Nat) (L : List α) : List α := (List.range n).map fun i => L.getD i d
def ZaR (E : Enc α) (n : Nat) (a : List Value) (L : List α) (b : List Value) : List Value := a ++ (Za E (Zju E.dflt n L) ++ b)
theorem Znm {d : α} {n : Nat} {L : List α} : (Zju d n L).length = n := by simp [Zju]
theorem Zyy {d : α} {n i : Nat} {L : List α} (h : i < n) : (Zju d n L).getD i d = L.getD i d := by simp [Zju, h]
theorem Z4p {d x : α} {n i : Nat} {L : List α} (h : i < n) (hl : i < L.length) : Zju d n (L.set i x) = (Zju d n L).set i x := by
 apply List.ext_getElem?;intro j;simp only [Zju, List.getElem?_map, List.getElem?_set, List.length_map, List.length_range];by_cases hj : j < n
 ·rw [List.getElem?_range hj]
  by_cases hij : i = j
  ·subst hij
   simp [hj, List.getD, List.getElem?_set, hl]
  ·simp [hij, List.getD, List.getElem?_set]
 ·rw [List.getElem?_eq_none (by simp; omega)]
  by_cases hij : i = j
  ·subst hij; omega
  ·simp [hij]
theorem Z3u {β : Type} {m : Nat} {l r : List β} (h : m ≤ l.length) : Z4 m (l ++ r) = Z4 m l := by rw [Zfv m _ (by simp; omega), Zfv m _ h, List.take_append_of_le_length h]
theorem Znn {n p i q m o : Nat} {a b : List Value} {L : List α} {cs : List Cell} (ha : a.length = p) (hi : i < n) (ho : o = p + i * E.w + q) (hq : q + m ≤ E.w) (hs : Ze4 cs = true) (hc : ((E.enc (L.getD i E.dflt)).drop q).take m = Zl cs) : ZdO (Z4 m ((ZaR E n a L b).drop o)) cs = true := by
 have hlen : (Za E (Zju E.dflt n L)).length = n * E.w := by rw [ZdI, Znm]
 have hle : (i + 1) * E.w ≤ n * E.w := Nat.mul_le_mul_right _ hi;rw [Nat.add_mul, Nat.one_mul] at hle;subst ho ha;unfold ZaR;rw [Nat.add_assoc, ← List.drop_drop, List.drop_left', List.drop_append_of_le_length (by omega), Z3u (by rw [List.length_drop]; omega)]
 ·exact Z3n (i := i) (q := q) (by rw [Znm]; exact hi) rfl hq hs (by rw [Zyy hi]; exact hc)
 ·rfl
theorem Zuf {n p i q o : Nat} {a b l : List Value} {L : List α} (x : α) (ha : a.length = p) (hi : i < n) (hl : i < L.length) (ho : o = p + i * E.w + q) (hq : q + l.length ≤ E.w) (hx : Zjq (E.enc (L.getD i E.dflt)) q l = E.enc x) : o + l.length ≤ (ZaR E n a L b).length ∧ Zjq (ZaR E n a L b) o l = ZaR E n a (L.set i x) b := by
 have hlen : (Za E (Zju E.dflt n L)).length = n * E.w := by rw [ZdI, Znm]
 have hle : (i + 1) * E.w ≤ n * E.w := Nat.mul_le_mul_right _ hi;rw [Nat.add_mul, Nat.one_mul] at hle;obtain ⟨_, h2⟩ := Zbi (E := E) (L := Zju E.dflt n L) (i := i) (q := q) (o := i * E.w + q) (l := l) x (by rw [Znm]; exact hi) rfl hq (by rw [Zyy hi]; exact hx);subst ho ha;refine ⟨by unfold ZaR; simp only [List.length_append, hlen]; omega, ?_⟩;unfold ZaR;rw [Z4p hi hl, ← h2];unfold Zjq;generalize Za E (Zju E.dflt n L) = X at hlen;have t1 : (a ++ (X ++ b)).take (a.length + (i * E.w + q)) = a ++ X.take (i * E.w + q) := by rw [List.take_append, List.take_of_length_le (by omega), Nat.add_sub_cancel_left, List.take_append_of_le_length (by omega)]
 have d1 : (a ++ (X ++ b)).drop (a.length + (i * E.w + q) + l.length) = X.drop (i * E.w + q + l.length) ++ b := by rw [Nat.add_assoc, ← List.drop_drop, List.drop_left', List.drop_append_of_le_length (by omega)];rfl
 rw [show a.length + i * E.w + q = a.length + (i * E.w + q) from Nat.add_assoc _ _ _, t1, d1];simp
end
end Ev
end Go.Proofs.YthfohmhipifiaaaGreat
