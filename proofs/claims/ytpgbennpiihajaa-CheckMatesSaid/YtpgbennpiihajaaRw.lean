/- Rows of elements of any kind: each element so many cells. -/
import Derived.Test.YtpgbennpiihajaaFm
namespace Go.Proofs.Ytpgbennpiihajaa
open Go.RowKit
namespace Ev
structure Enc (α : Type) where
 enc : α → List Value
 w : Nat
 dflt : α
 len : ∀ a, (enc a).length = w
 atoms : ∀ a, ZH atom (enc a) = true
def Zb {α : Type} (E : Enc α) (L : List α) : List Value := L.flatMap E.enc
section
variable {α : Type} {E : Enc α}
theorem ZlL : Zb E [] = [] := rfl
theorem Zfw (x : α) (L : List α) : Zb E (x :: L) = E.enc x ++ Zb E L := rfl
theorem ZpF (L M : List α) : Zb E (L ++ M) = Zb E L ++ Zb E M := by simp [Zb]
theorem ZhR : ∀ L : List α, (Zb E L).length = L.length * E.w
 | [] => by simp [ZlL]
 | x :: L => by rw [Zfw, List.length_append, ZhR L, E.len, List.length_cons, Nat.add_mul, Nat.one_mul, Nat.add_comm]
theorem Zn5 : ∀ (i : Nat) (L : List α), (Zb E L).drop (i * E.w) = Zb E (L.drop i)
 | 0, L => by simp
 | i + 1, [] => by simp [ZlL]
 | i + 1, x :: L => by
  rw [Zfw, List.drop_succ_cons, ← Zn5 i L, Nat.add_mul, Nat.one_mul, Nat.add_comm, ← List.drop_drop, ← E.len x, List.drop_left]
theorem Zkk : ∀ (i : Nat) (L : List α), (Zb E L).take (i * E.w) = Zb E (L.take i)
 | 0, L => by simp [ZlL]
 | i + 1, [] => by simp [ZlL]
 | i + 1, x :: L => by
  rw [Zfw, List.take_succ_cons, Zfw, ← Zkk i L, Nat.add_mul, Nat.one_mul, Nat.add_comm, List.take_append, E.len]
  rw [List.take_of_length_le (by rw [E.len]; omega), Nat.add_sub_cancel_left]
theorem Zr4 {L : List α} {i : Nat} (h : i < L.length) (d : α) : L.drop i = L.getD i d :: L.drop (i + 1) := by
 rw [List.getD_eq_getElem?_getD, List.getElem?_eq_getElem h, Option.getD_some]
 exact List.drop_eq_getElem_cons h
theorem Zun {L : List α} {o i q : Nat} (hi : i < L.length) (ho : o = i * E.w + q) (hq : q ≤ E.w) : (Zb E L).drop o = (E.enc (L.getD i E.dflt)).drop q ++ Zb E (L.drop (i + 1)) := by
 subst ho
 rw [← List.drop_drop, Zn5, Zr4 hi E.dflt, Zfw, List.drop_append, E.len, Nat.sub_eq_zero_of_le hq, List.drop_zero]
theorem ZpG {β : Type} : ∀ (m : Nat) (l : List β), m ≤ l.length → Z7 m l = some (l.take m)
 | 0, l, _ => by simp [Z7]
 | m + 1, [], h => by simp at h
 | m + 1, x :: l, h => by
  simp only [Z7]
  rw [ZpG m l (by simpa using h)]
  rfl
theorem ZvJ {L : List α} {o i q m : Nat} (hi : i < L.length) (ho : o = i * E.w + q) (hq : q + m ≤ E.w) : Z7 m ((Zb E L).drop o) = some (((E.enc (L.getD i E.dflt)).drop q).take m) := by
 have hl := E.len (L.getD i E.dflt)
 rw [Zun hi ho (by omega), ZpG _ _ (by simp only [List.length_append, List.length_drop, hl]; omega), List.take_append]
 have : m - ((E.enc (L.getD i E.dflt)).drop q).length = 0 := by simp only [List.length_drop, hl]; omega
 rw [this, List.take_zero, List.append_nil]
def Zo9 : List Cell → Bool
 | [] => true
 | .any :: _ => false
 | .i _ :: l => Zo9 l
 | .b _ :: l => Zo9 l
 | .k _ _ :: l => Zo9 l
 | .s _ :: l => Zo9 l
theorem ZfM : ∀ {cs : List Cell}, Zo9 cs = true → Zb9 (ZcZ cs) cs = true
 | [], _ => rfl
 | c :: l, h => by
  cases c with
  | any => cases h
  | i n => show ((n == n) && Zb9 (ZcZ l) l) = true; rw [ZfM (cs := l) h]; simp
  | b q => show ((q == q) && Zb9 (ZcZ l) l) = true; rw [ZfM (cs := l) h]; simp
  | s x => show (dP (x = x) && Zb9 (ZcZ l) l) = true; rw [ZfM (cs := l) h]; simp [dP]
  | k kk n =>
   by_cases hk : kk = .i64
   ·subst hk; show ((decide (IntKind.i64 = IntKind.i64) && (n == n)) && Zb9 (ZcZ l) l) = true; rw [ZfM (cs := l) h]; simp
   ·have e : Zb9 (.int kk n :: ZcZ l) (.k kk n :: l) = ((decide (kk = kk) && (n == n)) && Zb9 (ZcZ l) l) := by cases kk <;> rfl
    show Zb9 (.int kk n :: ZcZ l) (.k kk n :: l) = true
    rw [e, ZfM (cs := l) h]; simp
theorem Zaq {L : List α} {o i q m : Nat} {cs : List Cell} (hi : i < L.length) (ho : o = i * E.w + q) (hq : q + m ≤ E.w) (hs : Zo9 cs = true) (hc : ((E.enc (L.getD i E.dflt)).drop q).take m = ZcZ cs) : Zz (Z7 m ((Zb E L).drop o)) cs = true := by
 rw [ZvJ hi ho hq, hc]
 exact ZfM hs
theorem ZhS {L : List α} {o i q : Nat} {l : List Value} (x : α) (hi : i < L.length) (ho : o = i * E.w + q) (hq : q + l.length ≤ E.w) (hx : Zfz (E.enc (L.getD i E.dflt)) q l = E.enc x) : o + l.length ≤ (Zb E L).length ∧ Zfz (Zb E L) o l = Zb E (L.set i x) := by
 have hl := E.len (L.getD i E.dflt)
 have hle : o + l.length ≤ (Zb E L).length := by
  have : (i + 1) * E.w ≤ L.length * E.w := Nat.mul_le_mul_right _ hi
  rw [Nat.add_mul, Nat.one_mul] at this
  rw [ZhR]; omega
 refine ⟨hle, ?_⟩
 have e1 : L.set i x = L.take i ++ x :: L.drop (i + 1) := by rw [List.set_eq_take_append_cons_drop, if_pos hi]
 rw [e1, ZpF, Zfw, ← hx]
 unfold Zfz
 have h1 : (Zb E L).take o = Zb E (L.take i) ++ (E.enc (L.getD i E.dflt)).take q := by
  have hd : Zb E L = Zb E (L.take i) ++ (E.enc (L.getD i E.dflt) ++ Zb E (L.drop (i + 1))) := by
   rw [← Zfw, ← Zr4 hi, ← ZpF, List.take_append_drop]
  rw [hd, List.take_append]
  have hlen : (Zb E (L.take i)).length = i * E.w := by rw [ZhR, List.length_take]; rw [Nat.min_eq_left (by omega)]
  rw [List.take_of_length_le (by omega), hlen, show o - i * E.w = q by omega, List.take_append]
  rw [show q - (E.enc (L.getD i E.dflt)).length = 0 by omega, List.take_zero, List.append_nil]
 have h2 : (Zb E L).drop (o + l.length) = (E.enc (L.getD i E.dflt)).drop (q + l.length) ++ Zb E (L.drop (i + 1)) := Zun hi (by omega) hq
 rw [h1, h2]
 simp
theorem ZvK {L R : List α} {o a n m : Nat} (ha : a + n ≤ L.length) (ho : o = a * E.w) (hm : m = n * E.w) (hR : (L.drop a).take n = R) : Z7 m ((Zb E L).drop o) = some (Zb E R) := by
 subst ho hm hR
 rw [Zn5, ZpG, Zkk]
 rw [ZhR, List.length_drop]
 exact Nat.mul_le_mul_right _ (by omega)
theorem ZaW {L M R : List α} {n m : Nat} (hm : m = n * E.w) (hn : n ≤ L.length) (hR : L.take n ++ M = R) : m ≤ (Zb E L).length ∧ (Zb E L).take m ++ Zb E M = Zb E R := by
 subst hm hR
 refine ⟨by rw [ZhR]; exact Nat.mul_le_mul_right _ hn, ?_⟩
 rw [Zkk, ZpF]
theorem Zr5 {L : List α} {c m : Nat} (hc : c ≤ L.length) (hm : m = c * E.w) : m ≤ (Zb E L).length := by
 subst hm
 rw [ZhR]
 exact Nat.mul_le_mul_right _ hc
theorem ZsV {L R : List α} {h m : Nat} (hm : m = h * E.w) (hR : L.take h = R) : (Zb E L).take m = Zb E R := by
 subst hm hR
 exact Zkk h L
/-! ### Such a row is a row of atoms -/
theorem Zim : ∀ L : List α, ZH atom (Zb E L) = true
 | [] => rfl
 | x :: L => by
  have app : ∀ (a b : List Value), ZH atom a = true → ZH atom b = true → ZH atom (a ++ b) = true := by
   intro a b ha hb
   induction a with
   | nil => exact hb
   | cons y a ih =>
    simp only [ZH, Bool.and_eq_true] at ha
    show (atom y && ZH atom (a ++ b)) = true
    rw [ha.1, ih ha.2]; rfl
  rw [Zfw]
  exact app _ _ (E.atoms x) (Zim L)
theorem ZlM {p q : Value → Bool} (h : ∀ v, p v = true → q v = true) : ∀ {l : List Value}, ZH p l = true → ZH q l = true
 | [], _ => rfl
 | x :: l, hl => by
  simp only [ZH, Bool.and_eq_true] at hl ⊢
  exact ⟨h x hl.1, ZlM h hl.2⟩
theorem ZsW (d : Nat) {v : Value} (h : atom v = true) : Zbv d v = true := by
 cases v with
 | agg => simp [atom] at h
 | tuple => simp [atom] at h
 | func f a b =>
  cases f with
  | func f =>
   simp only [atom, Bool.and_eq_true, Array.isEmpty_iff] at h
   obtain ⟨rfl, rfl⟩ := h
   cases d <;> rfl
  | _ => simp [atom] at h
 | _ => cases d <;> rfl
theorem ZuJ (m d : Nat) {v : Value} (h : atom v = true) : ZcN m d v = true := by
 cases v with
 | agg => simp [atom] at h
 | tuple => simp [atom] at h
 | pointer a => cases a with
  | none => cases d <;> exact h
  | some a => simp [atom] at h
 | slice a n c => cases a with
  | none => cases d <;> exact h
  | some a => simp [atom] at h
 | _ => cases d <;> exact h
theorem ZuK {v : Value} (h : atom v = true) : ZaG v = true := by
 cases v <;> first | rfl | simp [atom] at h
theorem Zuo (ρ : Nat → Nat) (d : Nat) (L : List α) : (Zb E L).map (ZbL ρ d) = Zb E L := by
 have : ∀ l : List Value, ZH atom l = true → l.map (ZbL ρ d) = l := fun l => by
  induction l with
  | nil => intro _; rfl
  | cons y l ih =>
   intro h
   simp only [ZH, Bool.and_eq_true] at h
   rw [List.map_cons, ih h.2, Zil d h.1]
 exact this _ (Zim L)
theorem ZtQ (d : Nat) (L : List α) : ZH (Zbv d) (Zb E L) = true := ZlM (fun _ => ZsW d) (Zim L)
theorem Zp (m d : Nat) (L : List α) : ZH (ZcN m d) (Zb E L) = true := ZlM (fun _ => ZuJ m d) (Zim L)
theorem Zvm (L : List α) : ZH ZaG (Zb E L) = true := ZlM (fun _ => ZuK) (Zim L)
theorem Zg (ρ : Nat → Nat) (L : List α) (t : TypeId) : Zo5 ρ (.cells (Zb E L) t) (.cells (Zb E L) t) := ⟨rfl, ⟨[], by rw [Zuo, List.append_nil]⟩, ZtQ 1 L⟩
theorem ZbO (ρ : Nat → Nat) {c : List Value} {L : List α} (t : TypeId) (h : c = Zb E L) : Zo5 ρ (.cells c t) (.cells (Zb E L) t) := h ▸ Zg ρ L t
theorem Zy (ρ : Nat → Nat) (L : List α) (t : TypeId) : AObj.cells (Zb E L) t = Zk9 ρ (.cells (Zb E L) t) := by
 show _ = AObj.cells ((Zb E L).map (ZbL ρ 1)) t
 rw [Zuo]
theorem Zup {L R : List α} {o a n m : Nat} (ha : a + n ≤ L.length) (ho : o = a * E.w) (hm : m = n * E.w) (hR : (L.drop a).take n = R) : Z7 m ((Zb E L).drop o) = some (Zb E R) ∧ ZH ZaG (Zb E R) = true := ⟨ZvK ha ho hm hR, Zvm R⟩
end
theorem ZgK {b : Bool} (h : ¬ (b = true)) : (!b) = true := by cases b <;> simp_all
theorem ZfA {b : Bool} (h : b = true) : (!b) = false := by subst h; rfl
def encI (k : IntKind) : Enc Int := ⟨fun n => [.int k n], 1, 0, fun _ => rfl, fun _ => rfl⟩
abbrev eI : Enc Int := encI .i64
abbrev vi (x : Int) : Value := .int .i64 x
abbrev vs (k o n c : Nat) : Value := .slice (some ⟨k, o, none⟩) n c
abbrev vp (k o : Nat) : Value := .pointer (some ⟨k, o, none⟩)
theorem bT {a b : Int} (h : a = b) : (a == b) = true := beq_iff_eq.2 h
theorem bF {a b : Int} (h : ¬ a = b) : (a == b) = false := beq_eq_false_iff_ne.2 h
/-! ### Rows of the caller's, as rows -/
section
variable {α : Type} {E : Enc α}
end
end Ev
end Go.Proofs.Ytpgbennpiihajaa
