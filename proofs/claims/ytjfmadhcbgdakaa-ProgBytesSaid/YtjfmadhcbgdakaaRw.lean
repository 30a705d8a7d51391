/- Rows of elements of any kind: each element so many cells. -/
import Derived.Test.YtjfmadhcbgdakaaFm
namespace Go.Proofs.Ytjfmadhcbgdakaa
open Go.RowKit
namespace Ev
structure Enc (α : Type) where
 enc : α → List Value
 w : Nat
 dflt : α
 len : ∀ a, (enc a).length = w
 atoms : ∀ a, ZV atom (enc a) = true
def Zc {α : Type} (E : Enc α) (L : List α) : List Value := L.flatMap E.enc
section
variable {α : Type} {E : Enc α}
theorem ZiJ : Zc E [] = [] := rfl
theorem Zey (x : α) (L : List α) : Zc E (x :: L) = E.enc x ++ Zc E L := rfl
theorem Zvi (L M : List α) : Zc E (L ++ M) = Zc E L ++ Zc E M := by simp [Zc]
theorem ZoC : ∀ L : List α, (Zc E L).length = L.length * E.w
 | [] => by simp [ZiJ]
 | x :: L => by rw [Zey, List.length_append, ZoC L, E.len, List.length_cons, Nat.add_mul, Nat.one_mul, Nat.add_comm]
theorem Zm9 : ∀ (i : Nat) (L : List α), (Zc E L).drop (i * E.w) = Zc E (L.drop i)
 | 0, L => by simp
 | i + 1, [] => by simp [ZiJ]
 | i + 1, x :: L => by
  rw [Zey, List.drop_succ_cons, ← Zm9 i L, Nat.add_mul, Nat.one_mul, Nat.add_comm, ← List.drop_drop, ← E.len x, List.drop_left]
theorem ZmA : ∀ (i : Nat) (L : List α), (Zc E L).take (i * E.w) = Zc E (L.take i)
 | 0, L => by simp [ZiJ]
 | i + 1, [] => by simp [ZiJ]
 | i + 1, x :: L => by
  rw [Zey, List.take_succ_cons, Zey, ← ZmA i L, Nat.add_mul, Nat.one_mul, Nat.add_comm, List.take_append, E.len]
  rw [List.take_of_length_le (by rw [E.len]; omega), Nat.add_sub_cancel_left]
theorem ZmB {L : List α} {i : Nat} (h : i < L.length) (d : α) : L.drop i = L.getD i d :: L.drop (i + 1) := by
 rw [List.getD_eq_getElem?_getD, List.getElem?_eq_getElem h, Option.getD_some]
 exact List.drop_eq_getElem_cons h
theorem Zv6 {L : List α} {o i q : Nat} (hi : i < L.length) (ho : o = i * E.w + q) (hq : q ≤ E.w) : (Zc E L).drop o = (E.enc (L.getD i E.dflt)).drop q ++ Zc E (L.drop (i + 1)) := by
 subst ho
 rw [← List.drop_drop, Zm9, ZmB hi E.dflt, Zey, List.drop_append, E.len, Nat.sub_eq_zero_of_le hq, List.drop_zero]
theorem Zlh {β : Type} : ∀ (m : Nat) (l : List β), m ≤ l.length → Z4 m l = some (l.take m)
 | 0, l, _ => by simp [Z4]
 | m + 1, [], h => by simp at h
 | m + 1, x :: l, h => by
  simp only [Z4]
  rw [Zlh m l (by simpa using h)]
  rfl
theorem Zvj {L : List α} {o i q m : Nat} (hi : i < L.length) (ho : o = i * E.w + q) (hq : q + m ≤ E.w) : Z4 m ((Zc E L).drop o) = some (((E.enc (L.getD i E.dflt)).drop q).take m) := by
 have hl := E.len (L.getD i E.dflt)
 rw [Zv6 hi ho (by omega), Zlh _ _ (by simp only [List.length_append, List.length_drop, hl]; omega), List.take_append]
 have : m - ((E.enc (L.getD i E.dflt)).drop q).length = 0 := by simp only [List.length_drop, hl]; omega
 rw [this, List.take_zero, List.append_nil]
def Zix : List Cell → Bool
 | [] => true
 | .any :: _ => false
 | .i _ :: l => Zix l
 | .b _ :: l => Zix l
 | .k _ _ :: l => Zix l
 | .s _ :: l => Zix l
theorem Zf1 : ∀ {cs : List Cell}, Zix cs = true → ZaI (Zca cs) cs = true
 | [], _ => rfl
 | c :: l, h => by
  cases c with
  | any => cases h
  | i n => show ((n == n) && ZaI (Zca l) l) = true; rw [Zf1 (cs := l) h]; simp
  | b q => show ((q == q) && ZaI (Zca l) l) = true; rw [Zf1 (cs := l) h]; simp
  | s x => show (dP (x = x) && ZaI (Zca l) l) = true; rw [Zf1 (cs := l) h]; simp [dP]
  | k kk n =>
   by_cases hk : kk = .i64
   ·subst hk; show ((decide (IntKind.i64 = IntKind.i64) && (n == n)) && ZaI (Zca l) l) = true; rw [Zf1 (cs := l) h]; simp
   ·have e : ZaI (.int kk n :: Zca l) (.k kk n :: l) = ((decide (kk = kk) && (n == n)) && ZaI (Zca l) l) := by cases kk <;> rfl
    show ZaI (.int kk n :: Zca l) (.k kk n :: l) = true
    rw [e, Zf1 (cs := l) h]; simp
theorem ZbH {L : List α} {o i q m : Nat} {cs : List Cell} (hi : i < L.length) (ho : o = i * E.w + q) (hq : q + m ≤ E.w) (hs : Zix cs = true) (hc : ((E.enc (L.getD i E.dflt)).drop q).take m = Zca cs) : Zan (Z4 m ((Zc E L).drop o)) cs = true := by
 rw [Zvj hi ho hq, hc]
 exact Zf1 hs
theorem Zsu {L R : List α} {o a n m : Nat} (ha : a + n ≤ L.length) (ho : o = a * E.w) (hm : m = n * E.w) (hR : (L.drop a).take n = R) : Z4 m ((Zc E L).drop o) = some (Zc E R) := by
 subst ho hm hR
 rw [Zm9, Zlh, ZmA]
 rw [ZoC, List.length_drop]
 exact Nat.mul_le_mul_right _ (by omega)
theorem Zci {L M R : List α} {n m : Nat} (hm : m = n * E.w) (hn : n ≤ L.length) (hR : L.take n ++ M = R) : m ≤ (Zc E L).length ∧ (Zc E L).take m ++ Zc E M = Zc E R := by
 subst hm hR
 refine ⟨by rw [ZoC]; exact Nat.mul_le_mul_right _ hn, ?_⟩
 rw [ZmA, Zvi]
/-! ### Such a row is a row of atoms -/
theorem Zg5 : ∀ L : List α, ZV atom (Zc E L) = true
 | [] => rfl
 | x :: L => by
  have app : ∀ (a b : List Value), ZV atom a = true → ZV atom b = true → ZV atom (a ++ b) = true := by
   intro a b ha hb
   induction a with
   | nil => exact hb
   | cons y a ih =>
    simp only [ZV, Bool.and_eq_true] at ha
    show (atom y && ZV atom (a ++ b)) = true
    rw [ha.1, ih ha.2]; rfl
  rw [Zey]
  exact app _ _ (E.atoms x) (Zg5 L)
theorem Zli {p q : Value → Bool} (h : ∀ v, p v = true → q v = true) : ∀ {l : List Value}, ZV p l = true → ZV q l = true
 | [], _ => rfl
 | x :: l, hl => by
  simp only [ZV, Bool.and_eq_true] at hl ⊢
  exact ⟨h x hl.1, Zli h hl.2⟩
theorem Zsv (d : Nat) {v : Value} (h : atom v = true) : Zbt d v = true := by
 cases v with
 | agg => simp [atom] at h
 | tuple => simp [atom] at h
 | func f a b =>
  cases f with
  | func f =>
   simp only [atom, Bool.and_eq_true, Array.isEmpty_iff] at h
   obtain ⟨rfl, rfl⟩ := h
   cases d <;> rfl
  | _ => simp [atom] at h
 | _ => cases d <;> rfl
theorem Zui (m d : Nat) {v : Value} (h : atom v = true) : ZcG m d v = true := by
 cases v with
 | agg => simp [atom] at h
 | tuple => simp [atom] at h
 | pointer a => cases a with
  | none => cases d <;> exact h
  | some a => simp [atom] at h
 | slice a n c => cases a with
  | none => cases d <;> exact h
  | some a => simp [atom] at h
 | _ => cases d <;> exact h
theorem Zuj {v : Value} (h : atom v = true) : Zbd v = true := by
 cases v <;> first | rfl | simp [atom] at h
theorem ZtH (ρ : Nat → Nat) (d : Nat) (L : List α) : (Zc E L).map (ZbG ρ d) = Zc E L := by
 have : ∀ l : List Value, ZV atom l = true → l.map (ZbG ρ d) = l := fun l => by
  induction l with
  | nil => intro _; rfl
  | cons y l ih =>
   intro h
   simp only [ZV, Bool.and_eq_true] at h
   rw [List.map_cons, ih h.2, ZhF d h.1]
 exact this _ (Zg5 L)
theorem Zts (d : Nat) (L : List α) : ZV (Zbt d) (Zc E L) = true := Zli (fun _ => Zsv d) (Zg5 L)
theorem ZaE (m d : Nat) (L : List α) : ZV (ZcG m d) (Zc E L) = true := Zli (fun _ => Zui m d) (Zg5 L)
theorem ZuD (L : List α) : ZV Zbd (Zc E L) = true := Zli (fun _ => Zuj) (Zg5 L)
theorem Zn (ρ : Nat → Nat) (L : List α) (t : TypeId) : ZnG ρ (.cells (Zc E L) t) (.cells (Zc E L) t) := ⟨rfl, ⟨[], by rw [ZtH, List.append_nil]⟩, Zts 1 L⟩
theorem Zaq (ρ : Nat → Nat) {c : List Value} {L : List α} (t : TypeId) (h : c = Zc E L) : ZnG ρ (.cells c t) (.cells (Zc E L) t) := h ▸ Zn ρ L t
theorem ZbJ (ρ : Nat → Nat) (L : List α) (t : TypeId) : AObj.cells (Zc E L) t = ZjS ρ (.cells (Zc E L) t) := by
 show _ = AObj.cells ((Zc E L).map (ZbG ρ 1)) t
 rw [ZtH]
theorem ZnJ {L R : List α} {o a n m : Nat} (ha : a + n ≤ L.length) (ho : o = a * E.w) (hm : m = n * E.w) (hR : (L.drop a).take n = R) : Z4 m ((Zc E L).drop o) = some (Zc E R) ∧ ZV Zbd (Zc E R) = true := ⟨Zsu ha ho hm hR, ZuD R⟩
end
theorem Zkp {b : Bool} (h : ¬ (b = true)) : (!b) = true := by cases b <;> simp_all
theorem Zb8 {b : Bool} (h : b = true) : (!b) = false := by subst h; rfl
def Ze (k : IntKind) : Enc Int := ⟨fun n => [.int k n], 1, 0, fun _ => rfl, fun _ => rfl⟩
abbrev vi (x : Int) : Value := .int .i64 x
abbrev vs (k o n c : Nat) : Value := .slice (some ⟨k, o, none⟩) n c
abbrev vp (k o : Nat) : Value := .pointer (some ⟨k, o, none⟩)
theorem bT {a b : Int} (h : a = b) : (a == b) = true := beq_iff_eq.2 h
theorem bF {a b : Int} (h : ¬ a = b) : (a == b) = false := beq_eq_false_iff_ne.2 h
/-! ### Rows of the caller's, as rows -/
theorem ZiK : ∀ {c : List Value} {l : List Cell}, Zix l = true → ZaI c l = true → c = Zca l
 | [], [], _, _ => rfl
 | [], b :: l, _, h => by cases b <;> simp [ZaI] at h
 | x :: c, [], _, h => by cases x <;> simp [ZaI] at h
 | x :: c, b :: l, hs, h => by
  cases b with
  | any => cases hs
  | i n =>
   cases x with
   | int k a =>
    cases k <;> simp only [ZaI, Bool.and_eq_true, Bool.false_eq_true, beq_iff_eq] at h
    rw [h.1, ZiK (c := c) (l := l) hs h.2]; rfl
   | _ => simp [ZaI] at h
  | b q =>
   cases x with
   | bool a =>
    simp only [ZaI, Bool.and_eq_true, beq_iff_eq] at h
    rw [h.1, ZiK (c := c) (l := l) hs h.2]; rfl
   | int k a => cases k <;> simp [ZaI] at h
   | _ => simp [ZaI] at h
  | s y =>
   cases x with
   | string a =>
    simp only [ZaI, Bool.and_eq_true] at h
    rw [Zby.1 h.1, ZiK (c := c) (l := l) hs h.2]; rfl
   | int k a => cases k <;> simp [ZaI] at h
   | _ => simp [ZaI] at h
  | k kk n =>
   cases x with
   | int k a =>
    have h' : (decide (k = kk) && (a == n)) = true ∧ ZaI c l = true := by
     cases k <;> simpa only [ZaI, Bool.and_eq_true] using h
    simp only [Bool.and_eq_true, decide_eq_true_eq, beq_iff_eq] at h'
    rw [h'.1.1, h'.1.2, ZiK (c := c) (l := l) hs h'.2]; rfl
   | _ => simp [ZaI] at h
theorem Zvk {r : Option (List Value)} {l : List Cell} (hs : Zix l = true) (h : Zan r l = true) : r = some (Zca l) := by
 unfold Zan at h
 split at h
 ·rw [ZiK hs h]
 ·cases h
theorem ZuE {β : Type} {l : List β} : ∀ {m k : Nat} {a b : List β}, Z4 m l = some a → Z4 k (l.drop m) = some b → Z4 (m + k) l = some (a ++ b) := by
 intro m k a b h1 h2
 obtain ⟨l1, e1⟩ := Zsn h1
 obtain ⟨l2, e2⟩ := Zsn h2
 rw [Zlh _ _ (by simp at l2; omega), e1, e2, List.take_add]
theorem ZuF {O : Obj} {o m k : Nat} {a b : List Value} (h1 : Za1 O o m = some a) (h2 : Za1 O (o + m) k = some b) : Za1 O o (m + k) = some (a ++ b) := by
 unfold Za1 at h1 h2 ⊢
 split at h1
 ·exact ZuE h1 (by rw [List.drop_drop]; exact h2)
 ·cases h1
section
variable {α : Type} {E : Enc α}
theorem ZtI {O : Obj} {o : Nat} {L : List α} (h : ∀ i, i < L.length → Za1 O (o + i * E.w) E.w = some (E.enc (L.getD i E.dflt))) : ∀ n a, a + (n + 1) ≤ L.length → Za1 O (o + a * E.w) ((n + 1) * E.w) = some (Zc E ((L.drop a).take (n + 1)))
 | 0, a, ha => by
  rw [ZmB (by omega) E.dflt, List.take_succ_cons, List.take_zero, Zey, ZiJ, List.append_nil, Nat.zero_add, Nat.one_mul]
  exact h a (by omega)
 | n + 1, a, ha => by
  have h1 := h a (by omega)
  have h2 := ZtI h n (a + 1) (by omega)
  rw [ZmB (by omega) E.dflt, List.take_succ_cons, Zey, show (n + 1 + 1) * E.w = E.w + (n + 1) * E.w by rw [Nat.add_mul, Nat.one_mul, Nat.add_comm]]
  refine ZuF h1 ?_
  rw [show o + a * E.w + E.w = o + (a + 1) * E.w by rw [Nat.add_mul, Nat.one_mul, Nat.add_assoc]]
  exact h2
theorem ZuG {O : Obj} {o b a n m : Nat} {L R : List α} {C : α → List Cell} (F : ∀ i, i < L.length → Zat O (b + i * E.w) (C (L.getD i E.dflt))) (hC : ∀ x, Zix (C x) = true ∧ Zca (C x) = E.enc x) (h0 : 0 < n) (ha : a + n ≤ L.length) (ho : o = b + a * E.w) (hm : m = n * E.w) (hR : (L.drop a).take n = R) : Za1 O o m = some (Zc E R) ∧ ZV atom (Zc E R) = true := by
 subst ho hm hR
 refine ⟨?_, Zg5 _⟩
 obtain ⟨k, rfl⟩ : ∃ k, n = k + 1 := ⟨n - 1, by omega⟩
 refine ZtI (fun i hi => ?_) k a ha
 obtain ⟨c1, c2⟩ := hC (L.getD i E.dflt)
 have hl : (C (L.getD i E.dflt)).length = E.w := by
  have := congrArg List.length c2
  rw [E.len] at this
  simpa [Zca] using this
 have := F i hi 0 E.w (by omega)
 rw [List.drop_zero, Nat.add_zero, List.take_of_length_le (by omega)] at this
 rw [Zvk c1 this, c2]
end
/-! ### Bytes as strings -/
noncomputable def roS (O : Obj) (o m : Nat) : Option (List Value) := bif Nat.beq m 0 then some [] else match Za1 O o m with
 | some l => bif ZV atom l then some l else none
 | none => none
theorem Zqb : ∀ L : List Int, Zc (Ze .u8) L = L.map (Value.int .u8)
 | [] => rfl
 | x :: L => by rw [Zey, Zqb L]; rfl
theorem ZaB {L R : List Int} {o a n : Nat} (ha : a + n ≤ L.length) (ho : o = a * 1) (hR : (L.drop a).take n = R) : Z4 n ((Zc (Ze .u8) L).drop o) = some (R.map (Value.int .u8)) := by
 rw [← Zqb]
 exact Zsu (E := Ze .u8) ha ho (show n = n * 1 from (Nat.mul_one n).symm) hR
theorem ZcZ {O : Obj} {o b a n : Nat} {L R : List Int} (F : ∀ i, i < L.length → Zat O (b + i * 1) [.k .u8 (L.getD i 0)]) (ha : a + n ≤ L.length) (ho : o = b + a * 1) (hR : (L.drop a).take n = R) : roS O o n = some (R.map (Value.int .u8)) := by
 unfold roS
 by_cases h0 : n = 0
 ·subst h0
  rw [List.take_zero] at hR
  subst hR
  rfl
 ·have h := ZuG (E := Ze .u8) (O := O) (C := fun x => [.k .u8 x]) (L := L) (R := R) F (fun x => ⟨rfl, rfl⟩) (show 0 < n by omega) ha ho (show n = n * 1 from (Nat.mul_one n).symm) hR
  have hb : Nat.beq n 0 = false := by cases n with | zero => exact absurd rfl h0 | succ n => rfl
  rw [hb, h.1]
  simp only [cond_false, h.2, cond_true]
  rw [Zqb]
end Ev
end Go.Proofs.Ytjfmadhcbgdakaa
