/- Rows of elements of any kind: each element so many cells. -/
import Derived.Test.YtgnmjjakmeomiaaFm
namespace Go.Proofs.Ytgnmjjakmeomiaa
open Go.RowKit
namespace Ev
structure Enc (α : Type) where
 enc : α → List Value
 w : Nat
 dflt : α
 len : ∀ a, (enc a).length = w
 atoms : ∀ a, Zu atom (enc a) = true
def Ze {α : Type} (E : Enc α) (L : List α) : List Value := L.flatMap E.enc
section
variable {α : Type} {E : Enc α}
theorem ZhP : Ze E [] = [] := rfl
theorem ZdE (x : α) (L : List α) : Ze E (x :: L) = E.enc x ++ Ze E L := rfl
theorem Zkg (L M : List α) : Ze E (L ++ M) = Ze E L ++ Ze E M := by simp [Ze]
theorem Zg0 : ∀ L : List α, (Ze E L).length = L.length * E.w
 | [] => by simp [ZhP]
 | x :: L => by rw [ZdE, List.length_append, Zg0 L, E.len, List.length_cons, Nat.add_mul, Nat.one_mul, Nat.add_comm]
theorem ZiU : ∀ (i : Nat) (L : List α), (Ze E L).drop (i * E.w) = Ze E (L.drop i)
 | 0, L => by simp
 | i + 1, [] => by simp [ZhP]
 | i + 1, x :: L => by
  rw [ZdE, List.drop_succ_cons, ← ZiU i L, Nat.add_mul, Nat.one_mul, Nat.add_comm, ← List.drop_drop, ← E.len x, List.drop_left]
theorem ZiV : ∀ (i : Nat) (L : List α), (Ze E L).take (i * E.w) = Ze E (L.take i)
 | 0, L => by simp [ZhP]
 | i + 1, [] => by simp [ZhP]
 | i + 1, x :: L => by
  rw [ZdE, List.take_succ_cons, ZdE, ← ZiV i L, Nat.add_mul, Nat.one_mul, Nat.add_comm, List.take_append, E.len]
  rw [List.take_of_length_le (by rw [E.len]; omega), Nat.add_sub_cancel_left]
theorem Zl8 {L : List α} {i : Nat} (h : i < L.length) (d : α) : L.drop i = L.getD i d :: L.drop (i + 1) := by
 rw [List.getD_eq_getElem?_getD, List.getElem?_eq_getElem h, Option.getD_some]
 exact List.drop_eq_getElem_cons h
theorem Znp {L : List α} {o i q : Nat} (hi : i < L.length) (ho : o = i * E.w + q) (hq : q ≤ E.w) : (Ze E L).drop o = (E.enc (L.getD i E.dflt)).drop q ++ Ze E (L.drop (i + 1)) := by
 subst ho
 rw [← List.drop_drop, ZiU, Zl8 hi E.dflt, ZdE, List.drop_append, E.len, Nat.sub_eq_zero_of_le hq, List.drop_zero]
theorem Zkh {β : Type} : ∀ (m : Nat) (l : List β), m ≤ l.length → Zv m l = some (l.take m)
 | 0, l, _ => by simp [Zv]
 | m + 1, [], h => by simp at h
 | m + 1, x :: l, h => by
  simp only [Zv]
  rw [Zkh m l (by simpa using h)]
  rfl
theorem ZoD {L : List α} {o i q m : Nat} (hi : i < L.length) (ho : o = i * E.w + q) (hq : q + m ≤ E.w) : Zv m ((Ze E L).drop o) = some (((E.enc (L.getD i E.dflt)).drop q).take m) := by
 have hl := E.len (L.getD i E.dflt)
 rw [Znp hi ho (by omega), Zkh _ _ (by simp only [List.length_append, List.length_drop, hl]; omega), List.take_append]
 have : m - ((E.enc (L.getD i E.dflt)).drop q).length = 0 := by simp only [List.length_drop, hl]; omega
 rw [this, List.take_zero, List.append_nil]
def Zj1 : List Cell → Bool
 | [] => true
 | .any :: _ => false
 | .i _ :: l => Zj1 l
 | .b _ :: l => Zj1 l
 | .k _ _ :: l => Zj1 l
 | .s _ :: l => Zj1 l
theorem ZdX : ∀ {cs : List Cell}, Zj1 cs = true → Zaz (ZbM cs) cs = true
 | [], _ => rfl
 | c :: l, h => by
  cases c with
  | any => cases h
  | i n => show ((n == n) && Zaz (ZbM l) l) = true; rw [ZdX (cs := l) h]; simp
  | b q => show ((q == q) && Zaz (ZbM l) l) = true; rw [ZdX (cs := l) h]; simp
  | s x => show (dP (x = x) && Zaz (ZbM l) l) = true; rw [ZdX (cs := l) h]; simp [dP]
  | k kk n =>
   by_cases hk : kk = .i64
   ·subst hk; show ((decide (IntKind.i64 = IntKind.i64) && (n == n)) && Zaz (ZbM l) l) = true; rw [ZdX (cs := l) h]; simp
   ·have e : Zaz (.int kk n :: ZbM l) (.k kk n :: l) = ((decide (kk = kk) && (n == n)) && Zaz (ZbM l) l) := by cases kk <;> rfl
    show Zaz (.int kk n :: ZbM l) (.k kk n :: l) = true
    rw [e, ZdX (cs := l) h]; simp
theorem Z8 {L : List α} {o i q m : Nat} {cs : List Cell} (hi : i < L.length) (ho : o = i * E.w + q) (hq : q + m ≤ E.w) (hs : Zj1 cs = true) (hc : ((E.enc (L.getD i E.dflt)).drop q).take m = ZbM cs) : Zo (Zv m ((Ze E L).drop o)) cs = true := by
 rw [ZoD hi ho hq, hc]
 exact ZdX hs
theorem Zki {L : List α} {o i q : Nat} {l : List Value} (x : α) (hi : i < L.length) (ho : o = i * E.w + q) (hq : q + l.length ≤ E.w) (hx : Ze2 (E.enc (L.getD i E.dflt)) q l = E.enc x) : o + l.length ≤ (Ze E L).length ∧ Ze2 (Ze E L) o l = Ze E (L.set i x) := by
 have hl := E.len (L.getD i E.dflt)
 have hle : o + l.length ≤ (Ze E L).length := by
  have : (i + 1) * E.w ≤ L.length * E.w := Nat.mul_le_mul_right _ hi
  rw [Nat.add_mul, Nat.one_mul] at this
  rw [Zg0]; omega
 refine ⟨hle, ?_⟩
 have e1 : L.set i x = L.take i ++ x :: L.drop (i + 1) := by rw [List.set_eq_take_append_cons_drop, if_pos hi]
 rw [e1, Zkg, ZdE, ← hx]
 unfold Ze2
 have h1 : (Ze E L).take o = Ze E (L.take i) ++ (E.enc (L.getD i E.dflt)).take q := by
  have hd : Ze E L = Ze E (L.take i) ++ (E.enc (L.getD i E.dflt) ++ Ze E (L.drop (i + 1))) := by
   rw [← ZdE, ← Zl8 hi, ← Zkg, List.take_append_drop]
  rw [hd, List.take_append]
  have hlen : (Ze E (L.take i)).length = i * E.w := by rw [Zg0, List.length_take]; rw [Nat.min_eq_left (by omega)]
  rw [List.take_of_length_le (by omega), hlen, show o - i * E.w = q by omega, List.take_append]
  rw [show q - (E.enc (L.getD i E.dflt)).length = 0 by omega, List.take_zero, List.append_nil]
 have h2 : (Ze E L).drop (o + l.length) = (E.enc (L.getD i E.dflt)).drop (q + l.length) ++ Ze E (L.drop (i + 1)) := Znp hi (by omega) hq
 rw [h1, h2]
 simp
theorem ZoE {L R : List α} {o a n m : Nat} (ha : a + n ≤ L.length) (ho : o = a * E.w) (hm : m = n * E.w) (hR : (L.drop a).take n = R) : Zv m ((Ze E L).drop o) = some (Ze E R) := by
 subst ho hm hR
 rw [ZiU, Zkh, ZiV]
 rw [Zg0, List.length_drop]
 exact Nat.mul_le_mul_right _ (by omega)
theorem ZaX {L M R : List α} {n m : Nat} (hm : m = n * E.w) (hn : n ≤ L.length) (hR : L.take n ++ M = R) : m ≤ (Ze E L).length ∧ (Ze E L).take m ++ Ze E M = Ze E R := by
 subst hm hR
 refine ⟨by rw [Zg0]; exact Nat.mul_le_mul_right _ hn, ?_⟩
 rw [ZiV, Zkg]
/-! ### Such a row is a row of atoms -/
theorem Zf6 : ∀ L : List α, Zu atom (Ze E L) = true
 | [] => rfl
 | x :: L => by
  have app : ∀ (a b : List Value), Zu atom a = true → Zu atom b = true → Zu atom (a ++ b) = true := by
   intro a b ha hb
   induction a with
   | nil => exact hb
   | cons y a ih =>
    simp only [Zu, Bool.and_eq_true] at ha
    show (atom y && Zu atom (a ++ b)) = true
    rw [ha.1, ih ha.2]; rfl
  rw [ZdE]
  exact app _ _ (E.atoms x) (Zf6 L)
theorem ZhQ {p q : Value → Bool} (h : ∀ v, p v = true → q v = true) : ∀ {l : List Value}, Zu p l = true → Zu q l = true
 | [], _ => rfl
 | x :: l, hl => by
  simp only [Zu, Bool.and_eq_true] at hl ⊢
  exact ⟨h x hl.1, ZhQ h hl.2⟩
theorem Zm2 (d : Nat) {v : Value} (h : atom v = true) : Zaf d v = true := by
 cases v with
 | agg => simp [atom] at h
 | tuple => simp [atom] at h
 | func f a b =>
  cases f with
  | func f =>
   simp only [atom, Bool.and_eq_true, Array.isEmpty_iff] at h
   obtain ⟨rfl, rfl⟩ := h
   cases d <;> rfl
  | _ => simp [atom] at h
 | _ => cases d <;> rfl
theorem ZnL (m d : Nat) {v : Value} (h : atom v = true) : ZaW m d v = true := by
 cases v with
 | agg => simp [atom] at h
 | tuple => simp [atom] at h
 | pointer a => cases a with
  | none => cases d <;> exact h
  | some a => simp [atom] at h
 | slice a n c => cases a with
  | none => cases d <;> exact h
  | some a => simp [atom] at h
 | _ => cases d <;> exact h
theorem ZnM {v : Value} (h : atom v = true) : ZC v = true := by
 cases v <;> first | rfl | simp [atom] at h
theorem Znq (ρ : Nat → Nat) (d : Nat) (L : List α) : (Ze E L).map (ZaC ρ d) = Ze E L := by
 have : ∀ l : List Value, Zu atom l = true → l.map (ZaC ρ d) = l := fun l => by
  induction l with
  | nil => intro _; rfl
  | cons y l ih =>
   intro h
   simp only [Zu, Bool.and_eq_true] at h
   rw [List.map_cons, ih h.2, Zf3 d h.1]
 exact this _ (Zf6 L)
theorem ZmY (d : Nat) (L : List α) : Zu (Zaf d) (Ze E L) = true := ZhQ (fun _ => Zm2 d) (Zf6 L)
theorem Zz (m d : Nat) (L : List α) : Zu (ZaW m d) (Ze E L) = true := ZhQ (fun _ => ZnL m d) (Zf6 L)
theorem Zol (L : List α) : Zu ZC (Ze E L) = true := ZhQ (fun _ => ZnM) (Zf6 L)
theorem Zk (ρ : Nat → Nat) (L : List α) (t : TypeId) : Zjy ρ (.cells (Ze E L) t) (.cells (Ze E L) t) := ⟨rfl, ⟨[], by rw [Znq, List.append_nil]⟩, ZmY 1 L⟩
theorem Zc5 (ρ : Nat → Nat) {c : List Value} {L : List α} (t : TypeId) (h : c = Ze E L) : Zjy ρ (.cells c t) (.cells (Ze E L) t) := h ▸ Zk ρ L t
theorem ZU (ρ : Nat → Nat) (L : List α) (t : TypeId) : AObj.cells (Ze E L) t = Zhc ρ (.cells (Ze E L) t) := by
 show _ = AObj.cells ((Ze E L).map (ZaC ρ 1)) t
 rw [Znq]
theorem Zck {L R : List α} {o a n m : Nat} (ha : a + n ≤ L.length) (ho : o = a * E.w) (hm : m = n * E.w) (hR : (L.drop a).take n = R) : Zv m ((Ze E L).drop o) = some (Ze E R) ∧ Zu ZC (Ze E R) = true := ⟨ZoE ha ho hm hR, Zol R⟩
end
theorem ZeC {b : Bool} (h : ¬ (b = true)) : (!b) = true := by cases b <;> simp_all
theorem Zbo {b : Bool} (h : b = true) : (!b) = false := by subst h; rfl
theorem eqB_t {a b : Bool} (h : a = b) : (a == b) = true := by subst h; simp
theorem eqB_f {a b : Bool} (h : ¬ (a = b)) : (a == b) = false := by cases a <;> cases b <;> simp_all
theorem ZlP {a b : Bool} (h : ¬ (a = b)) : (!(a == b)) = true := by rw [eqB_f h]; rfl
theorem ZlQ {a b : Bool} (h : a = b) : (!(a == b)) = false := by rw [eqB_t h]; rfl
abbrev vi (x : Int) : Value := .int .i64 x
abbrev vs (k o n c : Nat) : Value := .slice (some ⟨k, o, none⟩) n c
abbrev vp (k o : Nat) : Value := .pointer (some ⟨k, o, none⟩)
theorem bT {a b : Int} (h : a = b) : (a == b) = true := beq_iff_eq.2 h
theorem bF {a b : Int} (h : ¬ a = b) : (a == b) = false := beq_eq_false_iff_ne.2 h
/-! ### Rows of the caller's, as rows -/
section
variable {α : Type} {E : Enc α}
end
/-! ### Bytes as strings -/
end Ev
end Go.Proofs.Ytgnmjjakmeomiaa
