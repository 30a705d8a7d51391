/- Part 4. -/
import Derived.Test.YtomkpfibofpkbaaZac
import Derived.Shelf.SlicesE.Clone
import Derived.Ground.SlgnProg
set_option linter.unusedSimpArgs false
set_option linter.unusedVariables false
/- Rows of elements of any kind: each element so many cells. -/
namespace Go.Proofs.Ytomkpfibofpkbaa
open Go.RowKit
namespace Ev
def Zes : List Cell → Bool
 | [] => true
 | .any :: _ => false
 | .i _ :: l => Zes l
 | .b _ :: l => Zes l
 | .k _ _ :: l => Zes l
 | .s _ :: l => Zes l
 | .m _ _ _ _ :: l => Zes l
structure Enc (α : Type) where
 cel : α → List Cell
 w : Nat
 dflt : α
 clen : ∀ a, (cel a).length = w
 sure : ∀ a, Zes (cel a) = true
def Enc.enc {α : Type} (E : Enc α) (a : α) : List Value := Zs (E.cel a)
theorem Enc.len {α : Type} (E : Enc α) (a : α) : (E.enc a).length = E.w := by unfold Enc.enc Zs; rw [List.length_map, E.clen]
def ZdO : Value → Bool
 | .pointer (some ⟨_, _, some _⟩) => true
 | .slice (some ⟨_, _, some _⟩) _ _ => true
 | v => atom v
theorem ZnW : ∀ l : List Cell, Zes l = true → Zt ZdO (Zs l) = true
 | [], _ => rfl
 | c :: l, h => by
  show (ZdO (ZcE c) && Zt ZdO (Zs l)) = true
  cases c with
  | any => cases h
  | _ => rw [ZnW l h]; rfl
theorem Enc.atoms {α : Type} (E : Enc α) (a : α) : Zt ZdO (E.enc a) = true := ZnW _ (E.sure a)
def Za {α : Type} (E : Enc α) (L : List α) : List Value := L.flatMap E.enc
def Zac {α : Type} (E : Enc α) (L : List α) : List Cell := L.flatMap E.cel
section
variable {α : Type} {E : Enc α}
theorem ZhN : Za E [] = [] := rfl
theorem ZdB (x : α) (L : List α) : Za E (x :: L) = E.enc x ++ Za E L := rfl
theorem Zkh (L M : List α) : Za E (L ++ M) = Za E L ++ Za E M := by simp [Za]
theorem Zca : ∀ L : List α, (Za E L).length = L.length * E.w
 | [] => by simp [ZhN]
 | x :: L => by rw [ZdB, List.length_append, Zca L, E.len, List.length_cons, Nat.add_mul, Nat.one_mul, Nat.add_comm]
theorem Zl3 : ∀ (i : Nat) (L : List α), (Za E L).drop (i * E.w) = Za E (L.drop i)
 | 0, L => by simp
 | i + 1, [] => by simp [ZhN]
 | i + 1, x :: L => by
  rw [ZdB, List.drop_succ_cons, ← Zl3 i L, Nat.add_mul, Nat.one_mul, Nat.add_comm, ← List.drop_drop, ← E.len x, List.drop_left]
theorem Zi0 : ∀ (i : Nat) (L : List α), (Za E L).take (i * E.w) = Za E (L.take i)
 | 0, L => by simp [ZhN]
 | i + 1, [] => by simp [ZhN]
 | i + 1, x :: L => by
  rw [ZdB, List.take_succ_cons, ZdB, ← Zi0 i L, Nat.add_mul, Nat.one_mul, Nat.add_comm, List.take_append, E.len]
  rw [List.take_of_length_le (by rw [E.len]; omega), Nat.add_sub_cancel_left]
theorem Zl4 {L : List α} {i : Nat} (h : i < L.length) (d : α) : L.drop i = L.getD i d :: L.drop (i + 1) := by
 rw [List.getD_eq_getElem?_getD, List.getElem?_eq_getElem h, Option.getD_some]
 exact List.drop_eq_getElem_cons h
theorem ZoN {L : List α} {o i q : Nat} (hi : i < L.length) (ho : o = i * E.w + q) (hq : q ≤ E.w) : (Za E L).drop o = (E.enc (L.getD i E.dflt)).drop q ++ Za E (L.drop (i + 1)) := by
 subst ho
 rw [← List.drop_drop, Zl3, Zl4 hi E.dflt, ZdB, List.drop_append, E.len, Nat.sub_eq_zero_of_le hq, List.drop_zero]
theorem Zl5 {β : Type} {L : List β} {i : Nat} {x d : β} (h : i < L.length) : (L.set i x).getD i d = x := by simp [List.getD, h]
theorem ZhO {β : Type} : ∀ (m : Nat) (l : List β), m ≤ l.length → Zad m l = some (l.take m)
 | 0, l, _ => by simp [Zad]
 | m + 1, [], h => by simp at h
 | m + 1, x :: l, h => by
  simp only [Zad]
  rw [ZhO m l (by simpa using h)]
  rfl
theorem Zrn {L : List α} {o i q m : Nat} (hi : i < L.length) (ho : o = i * E.w + q) (hq : q + m ≤ E.w) : Zad m ((Za E L).drop o) = some (((E.enc (L.getD i E.dflt)).drop q).take m) := by
 have hl := E.len (L.getD i E.dflt)
 rw [ZoN hi ho (by omega), ZhO _ _ (by simp only [List.length_append, List.length_drop, hl]; omega), List.take_append]
 have : m - ((E.enc (L.getD i E.dflt)).drop q).length = 0 := by simp only [List.length_drop, hl]; omega
 rw [this, List.take_zero, List.append_nil]
theorem Zdh : ∀ {cs : List Cell}, Zes cs = true → ZcF (Zs cs) cs = true
 | [], _ => rfl
 | c :: l, h => by
  cases c with
  | any => cases h
  | i n => show ((n == n) && ZcF (Zs l) l) = true; rw [Zdh (cs := l) h]; simp
  | b q => show ((q == q) && ZcF (Zs l) l) = true; rw [Zdh (cs := l) h]; simp
  | s x => show (dP (x = x) && ZcF (Zs l) l) = true; rw [Zdh (cs := l) h]; simp [dP]
  | m id o n c =>
   show (dP (ZcE (.m id o n c) = ZcE (.m id o n c)) && ZcF (Zs l) l) = true
   rw [Zdh (cs := l) h, ZaD rfl]; rfl
  | k kk n =>
   by_cases hk : kk = .i64
   ·subst hk; show ((decide (IntKind.i64 = IntKind.i64) && (n == n)) && ZcF (Zs l) l) = true; rw [Zdh (cs := l) h]; simp
   ·have e : ZcF (.int kk n :: Zs l) (.k kk n :: l) = ((decide (kk = kk) && (n == n)) && ZcF (Zs l) l) := by cases kk <;> rfl
    show ZcF (.int kk n :: Zs l) (.k kk n :: l) = true
    rw [e, Zdh (cs := l) h]; simp
theorem Zl6 {L : List α} {o i q m : Nat} {cs : List Cell} (hi : i < L.length) (ho : o = i * E.w + q) (hq : q + m ≤ E.w) (hs : Zes cs = true) (hc : ((E.enc (L.getD i E.dflt)).drop q).take m = Zs cs) : Zff (Zad m ((Za E L).drop o)) cs = true := by
 rw [Zrn hi ho hq, hc]
 exact Zdh hs
theorem ZaL {L : List α} {o i q : Nat} {l : List Value} (x : α) (hi : i < L.length) (ho : o = i * E.w + q) (hq : q + l.length ≤ E.w) (hx : ZfQ (E.enc (L.getD i E.dflt)) q l = E.enc x) : o + l.length ≤ (Za E L).length ∧ ZfQ (Za E L) o l = Za E (L.set i x) := by
 have hl := E.len (L.getD i E.dflt)
 have hle : o + l.length ≤ (Za E L).length := by
  have : (i + 1) * E.w ≤ L.length * E.w := Nat.mul_le_mul_right _ hi
  rw [Nat.add_mul, Nat.one_mul] at this
  rw [Zca]; omega
 refine ⟨hle, ?_⟩
 have e1 : L.set i x = L.take i ++ x :: L.drop (i + 1) := by rw [List.set_eq_take_append_cons_drop, if_pos hi]
 rw [e1, Zkh, ZdB, ← hx]
 unfold ZfQ
 have h1 : (Za E L).take o = Za E (L.take i) ++ (E.enc (L.getD i E.dflt)).take q := by
  have hd : Za E L = Za E (L.take i) ++ (E.enc (L.getD i E.dflt) ++ Za E (L.drop (i + 1))) := by
   rw [← ZdB, ← Zl4 hi, ← Zkh, List.take_append_drop]
  rw [hd, List.take_append]
  have hlen : (Za E (L.take i)).length = i * E.w := by rw [Zca, List.length_take]; rw [Nat.min_eq_left (by omega)]
  rw [List.take_of_length_le (by omega), hlen, show o - i * E.w = q by omega, List.take_append]
  rw [show q - (E.enc (L.getD i E.dflt)).length = 0 by omega, List.take_zero, List.append_nil]
 have h2 : (Za E L).drop (o + l.length) = (E.enc (L.getD i E.dflt)).drop (q + l.length) ++ Za E (L.drop (i + 1)) := ZoN hi (by omega) hq
 rw [h1, h2]
 simp
theorem ZdL {L M R : List α} {n m : Nat} (hm : m = n * E.w) (hn : n ≤ L.length) (hR : L.take n ++ M = R) : m ≤ (Za E L).length ∧ (Za E L).take m ++ Za E M = Za E R := by
 subst hm hR
 refine ⟨by rw [Zca]; exact Nat.mul_le_mul_right _ hn, ?_⟩
 rw [Zi0, Zkh]
theorem Zuq {L : List α} {c m : Nat} (hc : c ≤ L.length) (hm : m = c * E.w) : m ≤ (Za E L).length := by
 subst hm
 rw [Zca]
 exact Nat.mul_le_mul_right _ hc
theorem Zvi {L R : List α} {h m : Nat} (hm : m = h * E.w) (hR : L.take h = R) : (Za E L).take m = Za E R := by
 subst hm hR
 exact Zi0 h L
theorem Zur {L : List α} (j : Nat) (hw : 0 < E.w) : (Za E L)[j]? = if h : j / E.w < L.length then (E.enc (L[j / E.w]'h))[j % E.w]? else none := by
 by_cases h : j / E.w < L.length
 ·rw [dif_pos h]
  have hj : j = (j / E.w) * E.w + j % E.w := by rw [Nat.mul_comm]; exact (Nat.div_add_mod j E.w).symm
  have hr : j % E.w < E.w := Nat.mod_lt _ hw
  have := ZoN (E := E) h hj (Nat.le_of_lt hr)
  have h0 : ((Za E L).drop j)[0]? = (Za E L)[j]? := by rw [List.getElem?_drop]; rfl
  rw [← h0, this, List.getElem?_append_left (by rw [List.length_drop, E.len]; omega), List.getElem?_drop, Nat.add_zero]
  rw [List.getD_eq_getElem?_getD, List.getElem?_eq_getElem h, Option.getD_some]
 ·rw [dif_neg h, List.getElem?_eq_none]
  rw [Zca]
  have : L.length ≤ j / E.w := by omega
  exact (Nat.le_div_iff_mul_le hw).1 this
theorem Zki {z : List Value} (x : α) (n : Nat) (hw : 0 < E.w) (hz : E.enc x = z) {m : Nat} (hm : m = n * E.w) : rep z m = Za E (List.replicate n x) := by
 subst hz hm
 apply List.ext_getElem?
 intro j
 rw [Zur j hw]
 have hl := E.len x
 by_cases h : j < n * E.w
 ·have h' : j / E.w < n := (Nat.div_lt_iff_lt_mul hw).2 h
  rw [dif_pos (by simpa using h')]
  have : (rep (E.enc x) (n * E.w))[j]? = some ((E.enc x).getD (j % (E.enc x).length) undef) := by simp [rep, h]
  rw [this, List.getElem_replicate, hl, List.getD_eq_getElem?_getD]
  have hr : j % E.w < (E.enc x).length := by rw [hl]; exact Nat.mod_lt _ hw
  rw [List.getElem?_eq_getElem hr, Option.getD_some]
 ·rw [dif_neg (by simp; exact (Nat.le_div_iff_mul_le hw).2 (by omega)), List.getElem?_eq_none]
  simp [rep]; omega
/-! ### The same, as told cells -/
theorem Zkj : Zac E [] = [] := rfl
theorem ZgG (x : α) (L : List α) : Zac E (x :: L) = E.cel x ++ Zac E L := rfl
theorem ZhP : ∀ L : List α, (Zac E L).length = L.length * E.w
 | [] => by simp [Zkj]
 | x :: L => by rw [ZgG, List.length_append, ZhP L, E.clen, List.length_cons, Nat.add_mul, Nat.one_mul, Nat.add_comm]
theorem Zl7 : ∀ (i : Nat) (L : List α), (Zac E L).drop (i * E.w) = Zac E (L.drop i)
 | 0, L => by simp
 | i + 1, [] => by simp [Zkj]
 | i + 1, x :: L => by
  rw [ZgG, List.drop_succ_cons, ← Zl7 i L, Nat.add_mul, Nat.one_mul, Nat.add_comm, ← List.drop_drop, ← E.clen x, List.drop_left]
theorem Zp5 : ∀ (i : Nat) (L : List α), (Zac E L).take (i * E.w) = Zac E (L.take i)
 | 0, L => by simp [Zkj]
 | i + 1, [] => by simp [Zkj]
 | i + 1, x :: L => by
  rw [ZgG, List.take_succ_cons, ZgG, ← Zp5 i L, Nat.add_mul, Nat.one_mul, Nat.add_comm, List.take_append, E.clen]
  rw [List.take_of_length_le (by rw [E.clen]; omega), Nat.add_sub_cancel_left]
theorem ZsL {L : List α} {o i q : Nat} (hi : i < L.length) (ho : o = i * E.w + q) (hq : q ≤ E.w) : (Zac E L).drop o = (E.cel (L.getD i E.dflt)).drop q ++ Zac E (L.drop (i + 1)) := by
 subst ho
 rw [← List.drop_drop, Zl7, Zl4 hi E.dflt, ZgG, List.drop_append, E.clen, Nat.sub_eq_zero_of_le hq, List.drop_zero]
theorem Zvj {L : List α} {o i q m : Nat} (hi : i < L.length) (ho : o = i * E.w + q) (hq : q + m ≤ E.w) : Zad m ((Zac E L).drop o) = some (((E.cel (L.getD i E.dflt)).drop q).take m) := by
 have hl := E.clen (L.getD i E.dflt)
 rw [ZsL hi ho (by omega), ZhO _ _ (by simp only [List.length_append, List.length_drop, hl]; omega), List.take_append]
 have : m - ((E.cel (L.getD i E.dflt)).drop q).length = 0 := by simp only [List.length_drop, hl]; omega
 rw [this, List.take_zero, List.append_nil]
theorem Zvk {L R : List α} {o a n m : Nat} (ha : a + n ≤ L.length) (ho : o = a * E.w) (hm : m = n * E.w) (hR : (L.drop a).take n = R) : Zad m ((Zac E L).drop o) = some (Zac E R) := by
 subst ho hm hR
 rw [Zl7, ZhO, Zp5]
 rw [ZhP, List.length_drop]
 exact Nat.mul_le_mul_right _ (by omega)
theorem Zus {L : List α} (j : Nat) (hw : 0 < E.w) : (Zac E L)[j]? = if h : j / E.w < L.length then (E.cel (L[j / E.w]'h))[j % E.w]? else none := by
 by_cases h : j / E.w < L.length
 ·rw [dif_pos h]
  have hj : j = (j / E.w) * E.w + j % E.w := by rw [Nat.mul_comm]; exact (Nat.div_add_mod j E.w).symm
  have hr : j % E.w < E.w := Nat.mod_lt _ hw
  have := ZsL (E := E) h hj (Nat.le_of_lt hr)
  have h0 : ((Zac E L).drop j)[0]? = (Zac E L)[j]? := by rw [List.getElem?_drop]; rfl
  rw [← h0, this, List.getElem?_append_left (by rw [List.length_drop, E.clen]; omega), List.getElem?_drop, Nat.add_zero]
  rw [List.getD_eq_getElem?_getD, List.getElem?_eq_getElem h, Option.getD_some]
 ·rw [dif_neg h, List.getElem?_eq_none]
  rw [ZhP]
  have : L.length ≤ j / E.w := by omega
  exact (Nat.le_div_iff_mul_le hw).1 this
/-! ### Such a row is a row of atoms -/
theorem Zi1 : ∀ L : List α, Zt ZdO (Za E L) = true
 | [] => rfl
 | x :: L => by
  have app : ∀ (a b : List Value), Zt ZdO a = true → Zt ZdO b = true → Zt ZdO (a ++ b) = true := by
   intro a b ha hb
   induction a with
   | nil => exact hb
   | cons y a ih =>
    simp only [Zt, Bool.and_eq_true] at ha
    show (ZdO y && Zt ZdO (a ++ b)) = true
    rw [ha.1, ih ha.2]; rfl
  rw [ZdB]
  exact app _ _ (E.atoms x) (Zi1 L)
theorem Zne {p q : Value → Bool} (h : ∀ v, p v = true → q v = true) : ∀ {l : List Value}, Zt p l = true → Zt q l = true
 | [], _ => rfl
 | x :: l, hl => by
  simp only [Zt, Bool.and_eq_true] at hl ⊢
  exact ⟨h x hl.1, Zne h hl.2⟩
theorem Zjd {v : Value} (h : ZdO v = true) : (∃ k o z, v = .pointer (some ⟨k, o, some z⟩)) ∨ (∃ k o z n c, v = .slice (some ⟨k, o, some z⟩) n c) ∨ atom v = true := by
 unfold ZdO at h
 split at h
 ·exact .inl ⟨_, _, _, rfl⟩
 ·exact .inr (.inl ⟨_, _, _, _, _, rfl⟩)
 ·exact .inr (.inr h)
theorem Zro (d : Nat) {v : Value} (h : ZdO v = true) : Z9 d v = true := by
 rcases Zjd h with ⟨k, o, z, rfl⟩ | ⟨k, o, z, n, c, rfl⟩ | h
 ·cases d <;> rfl
 ·cases d <;> rfl
 ·cases v with
  | agg => simp [atom] at h
  | tuple => simp [atom] at h
  | func f a b =>
   cases f with
   | func f =>
    simp only [atom, Bool.and_eq_true, Array.isEmpty_iff] at h
    obtain ⟨rfl, rfl⟩ := h
    cases d <;> rfl
   | _ => simp [atom] at h
  | _ => cases d <;> rfl
theorem Zt7 (m d : Nat) {v : Value} (h : ZdO v = true) : Zau m d v = true := by
 rcases Zjd h with ⟨k, o, z, rfl⟩ | ⟨k, o, z, n, c, rfl⟩ | h
 ·cases d <;> rfl
 ·cases d <;> rfl
 ·cases v with
  | agg => simp [atom] at h
  | tuple => simp [atom] at h
  | pointer a => cases a with
   | none => cases d <;> exact h
   | some a => simp [atom] at h
  | slice a n c => cases a with
   | none => cases d <;> exact h
   | some a => simp [atom] at h
  | map a => cases a with
   | none => cases d <;> exact h
   | some a => simp [atom] at h
  | _ => cases d <;> exact h
theorem Zt8 {ρ : Nat → Nat} (d : Nat) {v : Value} (h : ZdO v = true) : ZT ρ d v = v := by
 rcases Zjd h with ⟨k, o, z, rfl⟩ | ⟨k, o, z, n, c, rfl⟩ | h
 ·cases d <;> rfl
 ·cases d <;> rfl
 ·exact ZgE d h
theorem Zml (ρ : Nat → Nat) (d : Nat) (L : List α) : (Za E L).map (ZT ρ d) = Za E L := by
 have : ∀ l : List Value, Zt ZdO l = true → l.map (ZT ρ d) = l := fun l => by
  induction l with
  | nil => intro _; rfl
  | cons y l ih =>
   intro h
   simp only [Zt, Bool.and_eq_true] at h
   rw [List.map_cons, ih h.2, Zt8 d h.1]
 exact this _ (Zi1 L)
theorem ZmG (d : Nat) (L : List α) : Zt (Z9 d) (Za E L) = true := Zne (fun _ => Zro d) (Zi1 L)
theorem Zak (m d : Nat) (L : List α) : Zt (Zau m d) (Za E L) = true := Zne (fun _ => Zt7 m d) (Zi1 L)
theorem ZeV (ρ : Nat → Nat) (L : List α) (t : TypeId) : Zfl ρ (.cells (Za E L) t) (.cells (Za E L) t) := ⟨rfl, ⟨[], by rw [Zml, List.append_nil]⟩, ZmG 1 L⟩
theorem Zet (ρ : Nat → Nat) {c : List Value} {L : List α} (t : TypeId) (h : c = Za E L) : Zfl ρ (.cells c t) (.cells (Za E L) t) := h ▸ ZeV ρ L t
theorem Zrp (ρ : Nat → Nat) (L : List α) (t : TypeId) : AObj.cells (Za E L) t = ZfZ ρ (.cells (Za E L) t) := by
 show _ = AObj.cells ((Za E L).map (ZT ρ 1)) t
 rw [Zml]
end
theorem Zrq {b : Bool} (h : ¬ (b = true)) : (!b) = true := by cases b <;> simp_all
theorem Zrr {b : Bool} (h : b = true) : (!b) = false := by subst h; rfl
theorem eqB_t {a b : Bool} (h : a = b) : (a == b) = true := by subst h; simp
theorem eqB_f {a b : Bool} (h : ¬ (a = b)) : (a == b) = false := by cases a <;> cases b <;> simp_all
def encI (k : IntKind) : Enc Int := ⟨fun n => match k with | .i64 => [.i n] | k => [.k k n], 1, 0, fun _ => by cases k <;> rfl, fun _ => by cases k <;> rfl⟩
abbrev eI : Enc Int := encI .i64
abbrev vi (x : Int) : Value := .int .i64 x
abbrev vs (k o n c : Nat) : Value := .slice (some ⟨k, o, none⟩) n c
abbrev vp (k o : Nat) : Value := .pointer (some ⟨k, o, none⟩)
/-! ### Rows that never change -/
noncomputable def mc {α : Type} (E : Enc α) (L : List α) : Cell := .m (code (Zac E L)) 0 L.length L.length
noncomputable abbrev ms {α : Type} (E : Enc α) (L : List α) : Value := .slice (some ⟨code (Zac E L), 0, some 0⟩) L.length L.length
noncomputable abbrev mp {α : Type} (E : Enc α) (L : List α) (o : Nat) : Value := .pointer (some ⟨code (Zac E L), o, some 0⟩)
theorem Zvl {α : Type} {E : Enc α} {L : List α} {o i q m : Nat} {cs : List Cell} (hi : i < L.length) (ho : o = i * E.w + q) (hq : q + m ≤ E.w) (hc : ((E.cel (L.getD i E.dflt)).drop q).take m = cs) : Zat (code (Zac E L)) o m = some cs := by
 unfold Zat
 rw [Zcz]
 show Zad m ((Zac E L).drop o) = some cs
 rw [Zvj hi ho hq, hc]
theorem Zrs {α : Type} {E : Enc α} {L R : List α} {o a n m : Nat} (ha : a + n ≤ L.length) (ho : o = a * E.w) (hm : m = n * E.w) (hR : (L.drop a).take n = R) : Zat (code (Zac E L)) o m = some (Zac E R) := by
 unfold Zat
 rw [Zcz]
 exact Zvk ha ho hm hR
theorem Zgc {α : Type} {E : Enc α} (L : List α) : Za E L = Zs (Zac E L) := by
 unfold Za Zac Zs Enc.enc Zs
 rw [List.map_flatMap]
theorem Zt9 {α : Type} {E : Enc α} {L R : List α} {l h size : Nat} (h1 : l ≤ h) (h2 : h ≤ L.length) (hs : size = E.w) (hR : R = (L.drop l).take (h - l)) :
  l ≤ h ∧ h ≤ L.length ∧ Zat (code (Zac E L)) (0 + l * size) (Zac E R).length = some (Zac E R) ∧ (h - l) * size = (Zac E R).length ∧ R.length = h - l := by
 have hl : R.length = h - l := by rw [hR, List.length_take, List.length_drop]; omega
 have hc : (Zac E R).length = (h - l) * size := by rw [ZhP, hl, hs]
 refine ⟨h1, h2, ?_, hc.symm, hl⟩
 rw [hc]
 exact Zrs (a := l) (n := h - l) (by omega) (by rw [hs]; omega) (by rw [hs]) hR.symm
theorem Zf0 {α : Type} {E : Enc α} {L : List α} {n size : Nat} (hn : L.length = n) (hs : size = E.w) (h0 : n * size ≠ 0) :
  (n * size = 0 ∧ Za E L = []) ∨ ∃ c, n * size ≠ 0 ∧ Zat (code (Zac E L)) 0 (n * size) = some c ∧ Za E L = Zs c := by
 subst hn hs
 exact .inr ⟨_, h0, Zrs (a := 0) (n := L.length) (by omega) (by omega) rfl (by simp), Zgc L⟩
/-! ### Bytes as strings -/
end Ev
end Go.Proofs.Ytomkpfibofpkbaa
namespace Go.Proofs.Ytomkpfibofpkbaa
open Go.ChangeShapes Go.WideShapes Go.ChangeAt Go.RowKit Go.Deep
namespace Ev
section
variable {H : Type} {enc : TypeId × Value → H} {P : Program} {w : World}
def Trd (enc : TypeId × Value → H) (P : Program) (w : World) (t : TypeId) (cs : List Value) : Prop := ∃ n y, DataW.trod enc P w 0 (fun _ => true) true n t cs = some y
def Elems (enc : TypeId × Value → H) (P : Program) (w : World) (e : TypeId) (O : Obj) (o cap : Nat) : Prop :=
 ∀ i, i < cap → ∃ C t fr cs, O = .cells C t fr ∧ cs.length = P.cellsOf e ∧ (∀ j, j < P.cellsOf e → C[o + (i * P.cellsOf e + j)]? = cs[j]?) ∧ Trd enc P w e cs
theorem Zut {t : TypeId} {fs : Array Field} {cs : List Value} (ht : P.underlying t = some (.struct fs)) (h : Trd enc P w t cs) (i : Nat) {f : Field} (hf : fs[i]? = some f) : Trd enc P w f.type ((cs.drop f.offset).take (P.cellsOf f.type)) := by
 obtain ⟨n, y, h⟩ := h
 obtain ⟨xs, n', _, _, _, hxl, hfl⟩ := DataW.trod_struct ht h
 have hi : i < fs.size := (Array.getElem?_eq_some_iff.1 hf).1
 have := hfl i f hf
 rw [List.getElem?_eq_getElem (show i < xs.length by omega)] at this
 exact ⟨n', _, this⟩
theorem ZvW {t : TypeId} {k : IntKind} {cs : List Value} (ht : P.underlying t = some (.int k)) (h : Trd enc P w t cs) : ∃ z, cs = [.int k z] ∧ k.min ≤ z ∧ z ≤ k.max := by
 obtain ⟨n, y, h⟩ := h
 obtain ⟨z, e0, _, wx⟩ := DataW.trod_int ht h
 simp only [Lit.wf, Bool.and_eq_true, decide_eq_true_eq] at wx
 exact ⟨z, e0, wx.1, wx.2⟩
theorem Zvm {t : TypeId} {cs : List Value} (ht : P.underlying t = some .bool) (h : Trd enc P w t cs) : ∃ z, cs = [.bool z] := by
 obtain ⟨n, y, h⟩ := h
 obtain ⟨z, e0, _⟩ := DataW.trod_bool ht h
 exact ⟨z, e0⟩
theorem Zuu {t e : TypeId} {cs : List Value} (ht : P.underlying t = some (.slice e)) (hpos : 0 < P.cellsOf e) (h : Trd enc P w t cs) :
  (∃ a, cs = [.slice a 0 0]) ∨ ∃ (b o len cap : Nat) (O : Obj), cs = [.slice (some ⟨b, o, none⟩) len cap] ∧ 0 < cap ∧ len ≤ cap ∧ cap ≤ 9223372036854775807 ∧ w.heap[b]? = some O ∧ Elems enc P w e O o cap := by
 obtain ⟨n0, y, h⟩ := h
 rcases open_slice ht h with ⟨hcs, _⟩ | ⟨a, len, cap, m, n, D, Pl, hcs, hb, hl, hm, hmm, hx, hi⟩
 ·exact .inl ⟨_, hcs⟩
 ·simp only [if_true] at hmm
  subst hmm
  rcases Nat.eq_zero_or_pos m with h0 | h0
  ·subst h0
   obtain rfl : len = 0 := by omega
   exact .inl ⟨_, hcs⟩
  ·right
   obtain ⟨cs0, hc0, _⟩ := hi 0 h0
   obtain ⟨_, hcl0, hat0⟩ := World.cells?_some hc0
   have h1 := hat0 0 hpos
   rw [Nat.zero_mul] at h1
   have ha0 : (a.add 0).add 0 = a := by simp [Addr.add]
   rw [ha0] at h1
   have h2 : w.cell? a = some (cs0[0]'(by omega)) := h1.trans (List.getElem?_eq_getElem (by omega))
   obtain ⟨b, o, spot⟩ := a
   have hspot : spot = none := by
    unfold World.cell? at h2
    split at h2
    ·cases spot with
     | none => rfl
     | some z => simp at h2
    ·cases h2
   subst hspot
   obtain ⟨C, el, fr, hB, _⟩ := Zkz h2
   refine ⟨b, o, len, m, _, hcs, h0, hl, by unfold maxLen at hm; omega, hB, fun i hi' => ?_⟩
   obtain ⟨cs', hc, ht'⟩ := hi i hi'
   obtain ⟨_, hcl, hat⟩ := World.cells?_some hc
   refine ⟨C, el, fr, cs', rfl, hcl, fun j hj => ?_, n, _, ht'⟩
   have h1 := hat j hj
   rw [Go.Deep.add_add] at h1
   have h2 : w.cell? ⟨b, o + (i * P.cellsOf e + j), none⟩ = some (cs'[j]'(by omega)) := by
    have : (⟨b, o, none⟩ : Addr).add (i * P.cellsOf e + j) = ⟨b, o + (i * P.cellsOf e + j), none⟩ := Go.WideShapes.add_plain b o _
    rw [← this, h1]
    exact List.getElem?_eq_getElem (by omega)
   obtain ⟨C', t', fr', hB', hv'⟩ := Zkz h2
   rw [hB] at hB'
   injection hB' with hB'
   injection hB' with e1 e2 e3
   subst e1
   rw [hv']
   exact (List.getElem?_eq_getElem (by omega)).symm
def DecL (w : World) (cs : List Value) (l : List Cell) : Prop := cs.length = l.length ∧ ∀ (i : Nat) x y, l[i]? = some x → cs[i]? = some y → DecC w x y
theorem ZvX {w : World} {cs : List Value} {l : List Cell} (hl : cs.length = l.length) (h : ∀ (i : Nat) x, l[i]? = some x → ∃ y, cs[i]? = some y ∧ DecC w x y) : DecL w cs l :=
 ⟨hl, fun i x y hx hy => by
  obtain ⟨y', h1, h2⟩ := h i x hx
  rw [hy] at h1
  injection h1 with h1
  subst h1
  exact h2⟩
theorem Zw5 {w : World} {cs : List Value} {k : Nat} : ∀ (j : Nat) x, ([] : List Cell)[j]? = some x → ∃ y, cs[k + j]? = some y ∧ DecC w x y := fun j x h => by simp at h
theorem Ze7 {w : World} {cs : List Value} {b : Cell} {l : List Cell} {k : Nat} {y : Value} (hx : cs[k]? = some y) (hd : DecC w b y) (t : ∀ (j : Nat) x, l[j]? = some x → ∃ y, cs[k + 1 + j]? = some y ∧ DecC w x y) :
  ∀ (j : Nat) x, (b :: l)[j]? = some x → ∃ y, cs[k + j]? = some y ∧ DecC w x y := fun j x h => by
 cases j with
 | zero => injection h with h; subst h; exact ⟨y, hx, hd⟩
 | succ j =>
  obtain ⟨y', h1, h2⟩ := t j x (by simpa using h)
  exact ⟨y', by rw [show k + (j + 1) = k + 1 + j by omega]; exact h1, h2⟩
theorem DecL.vr {w : World} {cs : List Value} {l : List Cell} (h : DecL w cs l) : VRs (ιMk w) (Zs l).toArray cs.toArray :=
 ⟨by simp [Zs, h.1], fun i x y hx hy => by
  have hx' : (Zs l)[i]? = some x := by simpa using hx
  have hy' : cs[i]? = some y := by simpa using hy
  unfold Zs at hx'
  rw [List.getElem?_map] at hx'
  cases hb : l[i]? with
  | none => rw [hb] at hx'; cases hx'
  | some z =>
   rw [hb] at hx'
   injection hx' with hx'
   subst hx'
   exact (h.2 i z y hb hy').vr⟩
theorem pick1 {α : Type} {n : Nat} (d : α) {R : Nat → α → Prop} (h : ∀ i, i < n → ∃ x, R i x) : ∃ f : Nat → α, ∀ i, i < n → R i (f i) := by
 classical
 refine ⟨fun i => if hi : i < n then (h i hi).choose else d, fun i hi => ?_⟩
 simp only [hi, dite_true]
 exact (h i hi).choose_spec
theorem Zuv {α : Type} {E : Enc α} {Q : α → Prop} {t e : TypeId} {cs : List Value} (ht : P.underlying t = some (.slice e)) (hw : P.cellsOf e = E.w) (hpos : 0 < E.w)
  (hel : ∀ cs, cs.length = E.w → Trd enc P w e cs → ∃ x : α, DecL w cs (E.cel x) ∧ Q x) (h : Trd enc P w t cs) : ∃ (L : List α) (v : Value), cs = [v] ∧ DecC w (mc E L) v ∧ L.length ≤ 9223372036854775807 ∧ ∀ x ∈ L, Q x := by
 rcases Zuu ht (by omega) h with ⟨a, rfl⟩ | ⟨b, o, len, cap, O, rfl, h0, hl, hm, hB, hE⟩
 ·exact ⟨[], _, rfl, .m0, by simp, fun x hx => by cases hx⟩
 ·have each : ∀ i, i < len → ∃ x : α, (∃ C t fr, O = .cells C t fr ∧ ∀ j y, (E.cel x)[j]? = some y → ∃ v, C[o + (i * E.w + j)]? = some v ∧ DecC w y v) ∧ Q x := fun i hi => by
   obtain ⟨C, t, fr, cs, hO, hcl, hc, htr⟩ := hE i (by omega)
   obtain ⟨x, hd, hq⟩ := hel cs (by omega) htr
   refine ⟨x, ⟨C, t, fr, hO, fun j y hy => ?_⟩, hq⟩
   have hj : j < cs.length := by rw [hd.1]; exact (List.getElem?_eq_some_iff.1 hy).1
   rw [← hw]
   refine ⟨cs[j], ?_, hd.2 j y _ hy (List.getElem?_eq_getElem hj)⟩
   rw [hc j (by omega)]
   exact List.getElem?_eq_getElem hj
  obtain ⟨G, hG⟩ := pick1 E.dflt each
  obtain ⟨C, t, fr, cs0, hO, _⟩ := hE 0 h0
  subst hO
  refine ⟨(List.range len).map G, _, rfl, ?_, by simp; omega, fun x hx => ?_⟩
  ·have hlen : ((List.range len).map G).length = len := by simp
   unfold mc
   rw [hlen]
   refine .m (base := o) (.mk (Zcz _) hB (fun hp => ?_) fun i x y hx hy => ?_) (Nat.le_refl _) hl
   ·rw [ZhP, hlen] at hp ⊢
    have hlen0 : 0 < len := by
     rcases Nat.eq_zero_or_pos len with e0 | e0
     ·subst e0; simp at hp
     ·exact e0
    obtain ⟨⟨C', t', fr', hO', hx'⟩, _⟩ := hG (len - 1) (by omega)
    injection hO' with e1 e2 e3
    subst e1
    have hw1 : (E.cel (G (len - 1))).length = E.w := E.clen _
    obtain ⟨v, hv, _⟩ := hx' (E.w - 1) _ (List.getElem?_eq_getElem (by omega))
    have := (Array.getElem?_eq_some_iff.1 hv).1
    have e2 : (len - 1) * E.w + E.w = len * E.w := by rw [← Nat.succ_mul]; congr 1; omega
    omega
   ·rw [Zus i hpos] at hx
    split at hx
    ·rename_i hlt
     rw [List.getElem_map, List.getElem_range] at hx
     obtain ⟨⟨C', t', fr', hO', hx'⟩, _⟩ := hG (i / E.w) (by rw [hlen] at hlt; exact hlt)
     injection hO' with e1 e2 e3
     subst e1
     obtain ⟨v, hv, hd⟩ := hx' (i % E.w) x hx
     have e : i / E.w * E.w + i % E.w = i := by rw [Nat.mul_comm]; exact Nat.div_add_mod i E.w
     rw [e, hy] at hv
     injection hv with hv
     subst hv
     exact hd
    ·cases hx
  ·obtain ⟨i, hi, rfl⟩ := List.mem_map.1 hx
   exact (hG i (List.mem_range.1 hi)).2
theorem Zsl {cs : List Value} {j m : Nat} {v : Value} (h : (cs.drop j).take m = [v]) (hm : m = 1) : cs[j]? = some v := by
 subst hm
 have : ((cs.drop j).take 1)[0]? = some v := by rw [h]; rfl
 rwa [List.getElem?_take_of_lt (by decide), List.getElem?_drop, Nat.add_zero] at this
/-! ### Parts of a value, by where they lie among its cells -/
def Zi2 (enc : TypeId × Value → H) (P : Program) (w : World) (t : TypeId) (cs : List Value) (o : Nat) : Prop := Trd enc P w t ((cs.drop o).take (P.cellsOf t))
theorem Zw6 {t : TypeId} {cs : List Value} {c : Nat} (hc : P.cellsOf t = c) (hl : cs.length = c) (h : Trd enc P w t cs) : Zi2 enc P w t cs 0 := by
 unfold Zi2
 rw [List.drop_zero, List.take_of_length_le (by omega)]
 exact h
theorem Zvn {cs : List Value} {o m a k : Nat} (h : a + k ≤ m) : (((cs.drop o).take m).drop a).take k = (cs.drop (o + a)).take k := by
 rw [List.drop_take, List.take_take, List.drop_drop, Nat.min_eq_left (by omega)]
theorem ZcR {t te : TypeId} {fs : Array Field} {cs : List Value} {o o' : Nat} (fo c ct : Nat) (ht : P.underlying t = some (.struct fs)) (h : Zi2 enc P w t cs o) (i : Nat) (hf : (fs[i]?).map (fun f => (f.type, f.offset)) = some (te, fo)) (ho : o' = o + fo) (hc : P.cellsOf te = c) (hct : P.cellsOf t = ct) (hle : fo + c ≤ ct) : Zi2 enc P w te cs o' := by
 cases hx : fs[i]? with
 | none => rw [hx] at hf; cases hf
 | some f =>
  rw [hx] at hf
  injection hf with hf
  injection hf with h1 h2
  subst h1 h2 ho
  have := Zut ht h i hx
  rw [Zvn (by omega)] at this
  exact this
theorem Zrt {cs : List Value} {o : Nat} {v : Value} (h : (cs.drop o).take 1 = [v]) : cs[o]? = some v := Zsl h rfl
theorem Zgd {t : TypeId} {k : IntKind} {cs : List Value} {o : Nat} (ht : P.underlying t = some (.int k)) (hc : P.cellsOf t = 1) (h : Zi2 enc P w t cs o) : ∃ z, cs[o]? = some (.int k z) ∧ k.min ≤ z ∧ z ≤ k.max := by
 unfold Zi2 at h
 rw [hc] at h
 obtain ⟨z, h1, h2⟩ := ZvW ht h
 exact ⟨z, Zrt h1, h2⟩
theorem ZvY {t : TypeId} {cs : List Value} {o : Nat} (ht : P.underlying t = some .bool) (hc : P.cellsOf t = 1) (h : Zi2 enc P w t cs o) : ∃ z, cs[o]? = some (.bool z) := by
 unfold Zi2 at h
 rw [hc] at h
 obtain ⟨z, h1⟩ := Zvm ht h
 exact ⟨z, Zrt h1⟩
theorem ZvZ {t : TypeId} {v : Value} {d : DataW H} {p : List MemPlace} (h : DataW.Trod enc P w 0 (fun _ => true) true t v d p) : Trd enc P w t v.cells.toList := by
 obtain ⟨fuel, hf⟩ := h
 exact ⟨fuel, _, hf⟩
end
end Ev
end Go.Proofs.Ytomkpfibofpkbaa
namespace Go.Proofs.Ytomkpfibofpkbaa
open Go.RowKit
namespace Ev
section
variable {P : Program} {ext : FuncId → Option Ext} {pre : List AObj} {A : Array Value} {R : Type} {V : R → Value} {Po : R → List (Option AObj)} {live : List Nat} {bl : List (Option AObj)} {ob : List (Bool × Bool)} {fu : Nat} {orc : Orc}
noncomputable def ZnX (P : Program) (ext : FuncId → Option Ext) (f : FuncId) (pre : List AObj) (A : Array Value) (fu : Nat) (orc : Orc) : Option Stop :=
 match ZdT P ext fu f A ⟨ZcZ 0 pre, pre.length, [], orc, []⟩ with
 | some (v, s) => some (.fin v s)
 | none => none
def Gx (P : Program) (f : FuncId) (pre : List AObj) (A : Array Value) {R : Type} (V : R → Value) (Po : R → List (Option AObj)) (o : Option R) : Prop :=
 ∀ r, o = some r → LSpec P f A pre (V r) (Po r)
variable {f : FuncId}
theorem Zbw : Gx P f pre A V Po none := fun _ h => by cases h
theorem Zw {c : Prop} [Decidable c] {B C : Option R} (h1 : c → Gx P f pre A V Po B) (h2 : ¬ c → Gx P f pre A V Po C) : Gx P f pre A V Po (if c then B else C) := by
 by_cases h : c
 ·rw [if_pos h]; exact h1 h
 ·rw [if_neg h]; exact h2 h
theorem Z4 {α : Type} {o : Option α} {k : α → Option R} (h : ∀ r, o = some r → Gx P f pre A V Po (k r)) : Gx P f pre A V Po (o.bind k) := by
 cases o with
 | none => exact Zbw
 | some r => exact h r rfl
end
set_option linter.unusedVariables false
section
variable {P : Program}
noncomputable def ιMv (ι0 ι : Ren) (mv : Nat → Prop) (live : List Nat) (M : Nat) : Ren := fun j => @ite _ (mv j) (Classical.propDecidable _) (ι0 j) ((sig live M j).bind ι)
theorem Zvo {nt : Nat} {ι0 ι : Ren} {h0 h : AH} {w0 w : World} {T : Tr Value} {a : Act} (hT : TR ι nt [] T a) (hS : Step P ι0 h0 w0 ι h w)
  (live : List Nat) (m M : Nat) (hM : M = 1000000000) (hll : ∀ k ∈ live, k < M) (hlen : live.length = m) (hmM : m ≤ M) (hn : live.Nodup) (mv : Nat → Prop) (h3 : ∀ k, ι0 k ≠ none → live[k]? = some k ∨ ZH k ∨ mv k)
  (L : Nat → Option Value) (hL : ∀ t v, t < nt → L t = some v → v = ZT (rho live M) 3 ((T.get t).getD undef) ∧ Z9 3 ((T.get t).getD undef) = true)
  (g : AH) (hmv : ∀ j, mv j → g j = none ∧ j < m ∧ (∀ k, live[j]? = some k → ι k = none) ∧ ∀ b, ZO (h0 j) b = true → ZJ (h0 j) b = true) (hg : ∀ j o, g j = some o → ∃ k, live[j]? = some k ∧ match o with
   | .ro O m => h k = some (.ro O m)
   | .cells c t q => ∃ c' r, h k = some (.cells c' t q) ∧ c'.map (ZT (rho live M) 1) = c ++ r ∧ (q = true → r = []) ∧ Zt (Z9 1) c' = true) :
  ∃ gv ι', TR ι' nt [] (tmps nt L gv) a ∧ Step P ι0 h0 w0 ι' g w ∧ (∀ k, m ≤ k → k < M → ι' k = none) := by
 have h2M : M % 2 = 0 := by omega
 have s1 := fun k => ZsE (live := live) (M := M) (by omega) h2M hll k
 have rm : ∀ b base id, rho live M (ZM b base id) = ZM b base id := fun b base id => by
  have := Zdr b base id
  unfold rho
  rw [if_pos ⟨by omega, this.2⟩]
 have nmv : ∀ j k b, sig live M j = some k → ι k = some b → ¬ mv j := fun j k b hs hk hm => by
  obtain ⟨_, hlt, h0, _⟩ := hmv j hm
  have : sig live M j = live[j]? := by unfold sig; rw [if_pos (by omega)]
  rw [h0 k (this ▸ hs)] at hk
  cases hk
 have hno : ∀ j, ¬ mv j → ιMv ι0 ι mv live M j = (sig live M j).bind ι := fun j hj => by unfold ιMv; rw [if_neg hj]
 have hyes : ∀ j, mv j → ιMv ι0 ι mv live M j = ι0 j := fun j hj => by unfold ιMv; rw [if_pos hj]
 have hι : ∀ k b, ι k = some b → (ιMv ι0 ι mv live M) (rho live M k) = some b := fun k b hk => by
  rw [hno _ (nmv _ k b (s1 k) hk), s1 k, Option.bind_some, hk]
 have hlive : ∀ j k, live[j]? = some k → sig live M j = some k := fun j k hk => by
  have hlt := (List.getElem?_eq_some_iff.1 hk).1
  unfold sig
  rw [if_pos hlt]
  exact hk
 have back : ∀ j b, ¬ mv j → ιMv ι0 ι mv live M j = some b → ∃ k, sig live M j = some k ∧ ι k = some b := fun j b hm hj => by
  rw [hno j hm] at hj
  cases hs : sig live M j with
  | none => rw [hs] at hj; cases hj
  | some k => rw [hs] at hj; exact ⟨k, rfl, hj⟩
 have sm : ∀ k, ZH k → sig live M k = some k := fun k hk => by
  unfold ZH at hk
  unfold sig
  rw [if_neg (by omega), if_pos (by omega), if_pos hk.2]
 have old : ∀ k, ¬ mv k → ι0 k ≠ none → sig live M k = some k := fun k hm hk => (h3 k hk).elim (hlive k k) fun h => h.elim (sm k) fun h => absurd h hm
 have mkm : ∀ k, ZH k → ¬ mv k := fun k hk hm => by
  have := (hmv k hm).2.1
  unfold ZH at hk
  omega
 have gmv : ∀ j o, g j = some o → ¬ mv j := fun j o hj hm => by rw [(hmv j hm).1] at hj; cases hj
 have gmC : ∀ j b, ZJ (g j) b = true → ¬ mv j := fun j b hj hm => by rw [(hmv j hm).1] at hj; cases hj
 have gmS : ∀ j b, ZO (g j) b = true → ¬ mv j := fun j b hj hm => by rw [(hmv j hm).1] at hj; cases hj
 have gC : ∀ j b, ZJ (g j) b = true → ∃ k, sig live M j = some k ∧ ZJ (h k) b = true := fun j b hj => by
  cases hx : g j with
  | none => rw [hx] at hj; cases hj
  | some o =>
   obtain ⟨k, hk, ho⟩ := hg j o hx
   cases o with
   | ro O m1 => rw [hx] at hj; exact ⟨k, hlive j k hk, by rw [show h k = some (.ro O m1) from ho]; exact hj⟩
   | cells c t q => obtain ⟨c', r, hc, hcr, hq, _⟩ := ho; exact ⟨k, hlive j k hk, by rw [hc]; rw [hx] at hj; exact ZjX hcr hq hj⟩
 have gS : ∀ j b, ZO (g j) b = true → ∃ k, sig live M j = some k ∧ ZO (h k) b = true := fun j b hj => by
  cases hx : g j with
  | none => rw [hx] at hj; cases hj
  | some o =>
   obtain ⟨k, hk, ho⟩ := hg j o hx
   cases o with
   | ro O m1 => exact ⟨k, hlive j k hk, by rw [show h k = some (.ro O m1) from ho]; rfl⟩
   | cells c t q => obtain ⟨c', r, hc, hcr, hq, _⟩ := ho; exact ⟨k, hlive j k hk, by rw [hc]; rw [hx] at hj; exact ZjX hcr hq hj⟩
 have garb : ∀ t, ∃ u, VR (ιMv ι0 ι mv live M) u (a.tmps.getD t undef) := fun t => ZnO hι rm (hT.2.2 t)
 refine ⟨fun t => (garb t).choose, ιMv ι0 ι mv live M, ⟨hT.1, hT.2.1, fun t => ?_⟩, ⟨fun k b hk => ?_, ⟨fun j c t q hj => ?_, fun j O hj => ?_, fun j j' b b' h1 h2 h4 h5 h6 => ?_, fun j b hj => ?_, fun b base id q hq => ?_, fun x hx => (hS.emb.tb x hx).imp fun q hq => by
  rw [hno _ (mkm _ (Zb8 x.1 0 (code x.2))), sm _ (Zb8 x.1 0 (code x.2))]; exact hq⟩, hS.os, hS.tape, hS.output, hS.size, hS.frame, fun j b h1 h2 h0 => ?_, fun j b h1 h2 => ?_, fun j b h1 h2 => ?_⟩, fun j h1 h2 => ?_⟩
 ·rw [ZhG]
  by_cases ht : t < nt
  ·rw [if_pos ht]
   cases hl : L t with
   | none => exact (garb t).choose_spec
   | some v =>
    obtain ⟨e, hd⟩ := hL t v ht hl
    subst e
    exact Zfk hι rm 3 _ _ (hT.2.2 t) hd
  ·rw [if_neg ht]
   have : a.tmps.getD t undef = undef := by
    have := hT.1
    simp [Array.getD, show ¬ t < a.tmps.size by omega]
   rw [this]
   exact VR.undef'
 ·by_cases hm : mv k
  ·rw [hyes k hm]; exact hk
  ·rw [hno k hm, old k hm (by rw [hk]; simp)]
   exact hS.ext k b hk
 ·obtain ⟨k, hk, c', r, hc, hcr, hq, hd⟩ := hg j _ hj
  obtain ⟨b, hb, ⟨z1, z2, z3⟩ | ⟨z1, C, hB, hC, hQ⟩⟩ := hS.emb.obj k c' t q hc
  ·refine ⟨b, by rw [hno j (gmv j _ hj), hlive j k hk]; exact hb, .inl ⟨z1, ?_, z3⟩⟩
   subst z2
   have := congrArg List.length hcr
   simp at this
   exact List.eq_nil_of_length_eq_zero (by omega)
  have hqc : ZJ (some (.cells c t q)) b = true := by
   cases q with
   | false => rfl
   | true =>
    rw [hq rfl, List.append_nil] at hcr
    rw [← hcr]
    cases c' with
    | nil => exact z1
    | cons x c' => rfl
  have hle : c.length ≤ c'.length := by
   have := congrArg List.length hcr
   simp at this
   omega
  refine ⟨b, by rw [hno j (gmv j _ hj), hlive j k hk]; exact hb, .inr ⟨hqc, C, hB, ⟨Nat.le_trans hle hC.1, fun i x y hx hy => ?_⟩, hQ⟩⟩
  have hx' : (c'.map (ZT (rho live M) 1))[i]? = some x := by
   rw [hcr, List.getElem?_append_left (List.getElem?_eq_some_iff.1 hx).1]
   exact hx
  rw [List.getElem?_map] at hx'
  cases hz : c'[i]? with
  | none => rw [hz] at hx'; cases hx'
  | some z =>
   rw [hz] at hx'
   injection hx' with hx'
   subst hx'
   exact Zfk hι rm 1 z y (hC.2 i z y hz hy) (ZB hd z (List.mem_of_getElem? hz))
 ·obtain ⟨k, hk, hr⟩ := hg j _ hj
  obtain ⟨b, hb, hB⟩ := hS.emb.ro k O hr
  exact ⟨b, by rw [hno j (gmv j _ hj), hlive j k hk]; exact hb, hB⟩
 ·obtain ⟨k, q1, q2⟩ := gC j b h1
  obtain ⟨k', q3, q4⟩ := gS j' b' h2
  obtain ⟨_, e1, e2⟩ := back j b (gmC j b h1) h4
  rw [q1] at e1; injection e1 with e1; subst e1
  obtain ⟨_, e3, e4⟩ := back j' b' (gmS j' b' h2) h5
  rw [q3] at e3; injection e3 with e3; subst e3
  have := hS.emb.inj k k' b b' q2 q4 e2 e4 h6
  subst this
  rw [← ZfJ hn h2M hll q1, ← ZfJ hn h2M hll q3]
 ·by_cases hm : mv j
  ·rw [hyes j hm] at hj; exact hS.emb.lt j b (hS.ext j b hj)
  ·obtain ⟨k, _, e2⟩ := back j b hm hj
   exact hS.emb.lt k b e2
 ·obtain ⟨k, e1, e2⟩ := back _ q (mkm _ (Zb8 b base id)) hq
  rw [sm _ (Zb8 b base id)] at e1; injection e1 with e1; subst e1
  obtain ⟨m1, m2, m3⟩ := hS.emb.mks b base id q e2
  refine ⟨m1, ⟨m2.1.ren hι rm, fun o c hc => by
   have := hι _ _ (m2.2 o c hc)
   rw [rm] at this
   exact this⟩, fun k d hk hd => ?_⟩
  obtain ⟨k', q1, q2⟩ := gC k d hk
  obtain ⟨k2, e3, e4⟩ := back k d (gmC k d hk) hd
  rw [q1] at e3; injection e3 with e3; subst e3
  exact m3 k' d q2 e4
 ·by_cases hm : mv j
  ·rw [hyes j hm, h1] at h2; cases h2
  obtain ⟨k, e1, e2⟩ := back j b hm h2
  have h0' : ZO (h k) b = true ∨ ZH k := by
   rcases h0 with h0 | h0
   ·obtain ⟨k2, q1, q2⟩ := gS j b h0
    rw [e1] at q1; injection q1 with q1; subst q1
    exact .inl q2
   ·rw [sm j h0] at e1; injection e1 with e1; subst e1
    exact .inr h0
  cases hk : ι0 k with
  | none => exact hS.new k b hk e2 h0'
  | some c =>
   have e4 := hS.ext k c hk
   rw [e2] at e4; injection e4 with e4; subst e4
   by_cases hmk : mv k
   ·rcases h0' with h0' | h0'
    ·exact .inr ⟨k, _, (hmv k hmk).2.2.2 _ (hS.alive k _ h0' hk), hk, rfl⟩
    ·exact absurd hmk (mkm k h0')
   ·have := ZfJ hn h2M hll (old k hmk (by rw [hk]; simp))
    have e3 := ZfJ hn h2M hll e1
    rw [this] at e3
    subst e3
    rw [h1] at hk; cases hk
 ·obtain ⟨k, e1, e2⟩ := gS j b h1
  rw [old j (gmS j b h1) (by rw [h2]; simp)] at e1; injection e1 with e1; subst e1
  exact hS.alive j b e2 h2
 ·obtain ⟨k, e1, e2⟩ := gC j b h1
  rw [old j (gmC j b h1) (by rw [h2]; simp)] at e1; injection e1 with e1; subst e1
  exact hS.kind j b e2 h2
 ·rw [hno j (fun hm => by have := (hmv j hm).2.1; omega)]
  unfold sig
  rw [if_neg (by omega), if_neg (by omega)]
  rfl
def Zl8 (k n : Nat) (live : List Nat) : Bool := (live.take k == List.range k) && (Zt (fun d => Nat.ble 900000000 d) ((live.drop k).take (n - k)) && (Nat.ble k n && (Nat.ble n live.length && Zt (fun d => Nat.blt d 1000000000) live)))
def ZnY (k n : Nat) (post : List (Option AObj)) : Bool := Zt (fun o => match o with | none => true | some _ => false) ((post.drop k).take (n - k))
def ZtA (k : Nat) (pre : List AObj) : Bool := Zt (fun o => match o with | .cells _ _ _ => true | .ro _ _ => false) (pre.drop k)
def Zw7 (k n0 : Nat) (v : Value) (post : List (Option AObj)) (u : Value) (s : St) (live : List Nat) : Prop :=
 live.length = post.length ∧ live.Nodup ∧ Zl8 k n0 live = true ∧ ZnY k n0 post = true ∧ (v = ZT (rho live far) 3 u ∧ Z9 3 u = true) ∧
  ∀ j o, lkO post j = some o → ∃ k, live[j]? = some k ∧ match o with
   | .ro O m => s.h.get k = some (.ro O m)
   | .cells c t q => ∃ c' r, s.h.get k = some (.cells c' t q) ∧ c'.map (ZT (rho live far) 1) = c ++ r ∧ (q = true → r = []) ∧ Zt (Z9 1) c' = true
theorem Zwa {ι0 ι : Ren} {pre : List AObj} {w0 w : World} {u v v' : Value} {post : List (Option AObj)} {s : St} {live : List Nat} {kp : Nat} (hle : post.length ≤ far) (hd : ∀ k, ι0 k ≠ none → k < pre.length ∨ ZH k) (ho : ZtA kp pre = true) (h : Zw7 kp pre.length v post u s live) (hn : s.n ≤ 900000000) (hD : ∀ k, s.n ≤ k → k < far → ι k = none) (hS : Step P ι0 (lk pre) w0 ι s.h.get w) (hv : VR ι u v') : Fin P ι0 pre w0 v post (.returned v') w := by
 obtain ⟨h1, h2, h3, hno, h4, h5⟩ := h
 unfold Zl8 at h3
 simp only [Bool.and_eq_true] at h3
 obtain ⟨k1, k2, k3, k4, k5⟩ := h3
 have k1 : live.take kp = List.range kp := by simpa using k1
 have k3 := Nat.le_of_ble_eq_true k3
 have k4 := Nat.le_of_ble_eq_true k4
 have hlt : ∀ d ∈ live, d < far := fun d hd => Nat.le_of_ble_eq_true (ZB k5 d hd)
 have hT : TR ι 1 [] ((Tr.nil : Tr Value).set 0 (some u)) { tmps := #[v'], defers := [] } := ⟨rfl, rfl, fun t => by
  rw [Tr.get_set]
  by_cases ht : t = 0
  ·subst ht; rw [Zk]; exact hv
  ·rw [Zd ht, Tr.get_nil]
   have : (#[v'] : Array Value).getD t undef = undef := by simp [Array.getD, show ¬ t < 1 by omega]
   rw [this]
   exact VR.undef'⟩
 obtain ⟨gv, ι', hT', hS', hfr⟩ := Zvo hT hS live post.length far rfl hlt h1 hle h2 (fun j => kp ≤ j ∧ j < pre.length) (fun k hk => by
  rcases hd k hk with h | h
  ·rcases Nat.lt_or_ge k kp with h6 | h6
   ·refine .inl ?_
    have e : (live.take kp)[k]? = some k := by rw [k1, List.getElem?_range h6]
    rwa [List.getElem?_take_of_lt h6] at e
   ·exact .inr (.inr ⟨h6, h⟩)
  ·exact .inr (.inl h)) (fun _ => some v) (fun t x ht hx => by
  injection hx with hx
  subst hx
  obtain rfl : t = 0 := by omega
  rw [Tr.get_set, Zk]
  exact h4) (lkO post) (fun j hj => by
  have hmem : ∀ {α : Type} (l : List α) (x : α), l[j]? = some x → x ∈ (l.drop kp).take (pre.length - kp) := fun l x hx => by
   refine List.mem_iff_getElem?.2 ⟨j - kp, ?_⟩
   rw [List.getElem?_take_of_lt (by omega), List.getElem?_drop, show kp + (j - kp) = j by omega]
   exact hx
  refine ⟨?_, by omega, fun d hdd => ?_, fun b hb => ?_⟩
  ·cases hp : post[j]? with
   | none => unfold lkO; rw [hp]; rfl
   | some o =>
    have := ZB hno o (hmem post o hp)
    cases o with
    | none => unfold lkO; rw [hp]; rfl
    | some o => cases this
  ·have := Nat.le_of_ble_eq_true (ZB k2 d (hmem live d hdd))
   exact hD d (by omega) (hlt d (List.mem_of_getElem? hdd))
  ·cases hp : pre[j]? with
   | none => unfold lk at hb; rw [hp] at hb; cases hb
   | some o =>
    have hb : ZO (some o) b = true := by unfold lk at hb; rw [hp] at hb; exact hb
    have := ZB ho o (List.mem_iff_getElem?.2 ⟨j - kp, by rw [List.getElem?_drop, show kp + (j - kp) = j by omega]; exact hp⟩)
    cases o with
    | ro O m => cases this
    | cells c t q =>
     show ZJ (lk pre j) b = true
     unfold lk
     rw [hp]
     cases q <;> exact hb) h5
 refine .inl ⟨v', ι', rfl, hS', fun k hk => ?_, ?_⟩
 ·rcases Nat.lt_or_ge k post.length with h | h
  ·exact .inl h
  ·rcases Nat.lt_or_ge k far with h' | h'
   ·exact absurd (hfr k h h') hk
   ·exact .inr h'
 ·have := hT'.2.2 0
  rw [ZhG, if_pos (by omega)] at this
  exact this
theorem Fin.wk {ι0 : Ren} {pre : List AObj} {w0 w : World} {v : Value} {post post' : List (Option AObj)} {e : Ending} (hw : WkL post post') (h : Fin P ι0 pre w0 v post e w) : Fin P ι0 pre w0 v post' e w := by
 rcases h with ⟨v', ι', h1, h2, h3, h4⟩ | ⟨h0, ι', h1, h2, h3⟩
 ·exact .inl ⟨v', ι', h1, h2.weaken hw.at_, fun k hk => by rw [← hw.len]; exact h3 k hk, h4⟩
 ·exact .inr ⟨h0, ι', h1, h2.weaken hw.at_, fun k hk => by rw [← hw.len]; exact h3 k hk⟩
end
section
variable {P : Program} {ext : FuncId → Option Ext} {f : FuncId} {pre : List AObj} {A : Array Value} {R : Type} {V : R → Value} {Po : R → List (Option AObj)} {live : List Nat} {bl : List (Option AObj)} {ob : List (Bool × Bool)} {orc : Orc}
noncomputable def Zj9 (live : List Nat) (r : Option Stop) : Option (Value × List (Option AObj) × List (Bool × Bool)) :=
 match r with
 | some (.fin u s) => bif Nat.ble s.n 900000000 then some (u, live.map s.h.get, s.ob) else none
 | _ => none
theorem Zru {r : Option Stop} {u : Value} (h : Zj9 live r = some (u, bl, ob)) : ∃ s, r = some (.fin u s) ∧ live.map s.h.get = bl ∧ s.ob = ob ∧ s.n ≤ 900000000 := by
 unfold Zj9 at h
 split at h
 ·rename_i u' s
  obtain ⟨hn, h⟩ := Zl h
  injection h with h
  simp only [Prod.mk.injEq] at h
  obtain ⟨rfl, rfl, rfl⟩ := h
  exact ⟨s, rfl, rfl, rfl, Nat.le_of_ble_eq_true hn⟩
 ·cases h
theorem ZsM (F : Fit P ext) (kp : Nat) (H0 : List (Option AObj)) {r : R} {u : Value} (ho : ∀ p ∈ ob, p.1 = p.2) (hw : WkL H0 (Po r)) (hv : V r = ZT (rho live far) 3 u ∧ Z9 3 u = true) (hbl : Zx (rho live far) bl H0) (hev : Zj9 live (ZnX P ext f pre A 4000 orc) = some (u, bl, ob) := by as_aux_lemma => kernel_rfl) (hl : live.length = H0.length := by rfl) (hn : live.Nodup := by decide) (hk : Zl8 kp pre.length live = true := by rfl) (hno : ZnY kp pre.length H0 = true := by rfl) (hown : ZtA kp pre = true := by rfl) (hle : H0.length ≤ far := by exact Z8 _ rfl) : Gx P f pre A V Po (some r) := by
 intro r' hr
 obtain rfl := Option.some.inj hr
 obtain ⟨s, h1, rfl, rfl, h4⟩ := Zru hev
 intro ι w args' hd ha he
 have hc : ZdT P ext 4000 f A ⟨ZcZ 0 pre, pre.length, [], orc, []⟩ = some (u, s) := by
  unfold ZnX at h1
  split at h1
  ·rename_i v1 s1 h2
   injection h1 with h1
   injection h1 with q1 q2
   rw [h2, q1, q2]
  ·cases h1
 have hF := (Zck (P := P) F 4000).2.2.2.1 f A _ u s hc ho ι w args' ha (by show Emb P ι (ZcZ 0 pre).get w; rw [ZdK]; exact he)
  ⟨Nat.le_trans h4 (by decide), fun k h1 h2 => by
   cases hk : ι k with
   | none => rfl
   | some b => exact absurd (hd k (by rw [hk]; simp)) (by have h3 : pre.length ≤ k := h1; have h5 : k < s.n := h2; unfold ZH; omega)⟩
 refine hF.mono ?_
 rintro e w' ⟨v', ι', rfl, g1, g2, g3⟩
 refine Fin.wk hw (Zwa hle hd hown ⟨hl, hn, hk, hno, hv, Zd9 hbl⟩ h4 (fun k h1 h2 => ?_) (by have := g1; simp only [ZdK] at this; exact this) g3)
 cases hi : ι' k with
 | none => rfl
 | some c =>
  rcases g2 k (by rw [hi]; simp) with h | ⟨_, h⟩ | h
  ·rcases hd k h with h6 | h6
   ·have h7 : pre.length ≤ s.n := (Zb0 (P := P) (ext := ext) (fun f g hg => (F.hp f g hg).up) 4000).2.2.2.1 f A _ u s hc |>.n
    omega
   ·unfold ZH at h6; unfold far at h2; omega
  ·omega
  ·unfold far at *; omega
end
set_option linter.unusedVariables false
section
variable {P : Program}
theorem VR.cutV {ι ι2 : Ren} {m : Nat} (hι : ∀ k b, k < m ∨ ZH k → ι k = some b → ι2 k = some b) : ∀ (d : Nat) (v v' : Value), VR ι v v' → Zau m d v = true → VR ι2 v v'
 | d, v, v', h, hd => by
  cases h with
  | atom h => exact .atom h
  | glob h => exact .glob h
  | ptr h => cases d <;> exact .ptr (hι _ _ (.inl (Nat.le_of_ble_eq_true hd)) h)
  | map h => cases d <;> exact .map (hι _ _ (.inl (Nat.le_of_ble_eq_true hd)) h)
  | slice h hn hc hq => cases d <;> exact .slice (hι _ _ (.inl (Nat.le_of_ble_eq_true hd)) h) hn hc hq
  | slice0 h => exact .slice0 h
  | mptr h => exact .mptr (hι _ _ (.inr (Zb8 _ _ _)) h)
  | mslice h hn hc => exact .mslice (hι _ _ (.inr (Zb8 _ _ _)) h) hn hc
  | func hs ht h1 h2 =>
   rename_i fn a a' b b'
   have ha : Ev.atom (.func fn a b) = true := by cases d <;> exact hd
   have e := VR.eq_of_atom ha (.func hs ht h1 h2)
   rw [e]
   exact .atom ha
  | agg hs h1 =>
   cases d with
   | zero => simp [Zau, Ev.atom] at hd
   | succ d =>
    simp only [Zau] at hd
    exact .agg hs fun i x y hx hy => VR.cutV hι d x y (h1 i x y hx hy) (Za1 hd i x hx)
  | tuple hs h1 =>
   cases d with
   | zero => simp [Zau, Ev.atom] at hd
   | succ d =>
    simp only [Zau] at hd
    exact .tuple hs fun i x y hx hy => VR.cutV hι d x y (h1 i x y hx hy) (Za1 hd i x hx)
def ZgH (m : Nat) : List (Option AObj) → Prop
 | [] => True
 | o :: l => (match o with | some x => Zft m x = true | none => True) ∧ ZgH m l
theorem ZnZ {m : Nat} : ∀ {H : List (Option AObj)}, ZgH m H → ∀ k o, lkO H k = some o → Zft m o = true
 | [], _, k, o, hk => by simp [lkO] at hk
 | x :: H, h, 0, o, hk => by
  have e : x = some o := by simpa [lkO] using hk
  subst e
  exact h.1
 | x :: H, h, k + 1, o, hk => ZnZ h.2 k o (by simpa [lkO] using hk)
noncomputable def ιTv (ι : Ren) (m : Nat) : Ren := fun k => @ite _ (k < m ∨ ZH k) (Classical.propDecidable _) (ι k) none
theorem ιTv_yes {ι : Ren} {m k : Nat} (h : k < m ∨ ZH k) : ιTv ι m k = ι k := by unfold ιTv; rw [if_pos h]
theorem ιTv_inv {ι : Ren} {m k : Nat} {q : Nat × Nat} (h : ιTv ι m k = some q) : (k < m ∨ ZH k) ∧ ι k = some q := by
 by_cases hk : k < m ∨ ZH k
 ·rw [ιTv_yes hk] at h; exact ⟨hk, h⟩
 ·unfold ιTv at h
  rw [if_neg hk] at h; cases h
theorem Zuw {post : List (Option AObj)} {k : Nat} {o : AObj} (h : lkO post k = some o) : k < post.length := by
 unfold lkO at h
 cases hx : post[k]? with
 | none => rw [hx] at h; cases h
 | some y => exact (List.getElem?_eq_some_iff.1 hx).1
theorem Step.letgo {ι ι' : Ren} {w w' : World} {pre : List AObj} {post : List (Option AObj)} (hd : ∀ k, ι k ≠ none → k < pre.length ∨ ZH k) (hpre : pre.length ≤ post.length) (hUA : ZgH post.length post) (hS : Step P ι (lk pre) w ι' (lkO post) w') : Step P ι (lk pre) w (ιTv ι' post.length) (lkO post) w' := by
 have hι : ∀ k b, k < post.length ∨ ZH k → ι' k = some b → (ιTv ι' post.length) k = some b := fun k b hk h => (ιTv_yes hk).trans h
 have hmk : ∀ b base id q, ι' (ZM b base id) = some q → (ιTv ι' post.length) (ZM b base id) = some q := fun b base id q h => hι _ _ (.inr (Zb8 _ _ _)) h
 refine ⟨fun k b hb' => hι k b ((hd k (by rw [hb']; simp)).imp (fun q => by omega) id) (hS.ext k b hb'), ⟨fun k c' t' q' hk => ?_, fun {m} k O hk => ?_, fun k k' b b' h1 h2 h3 h4 h5 => hS.emb.inj k k' b b' h1 h2 (ιTv_inv h3).2 (ιTv_inv h4).2 h5, fun k b h => hS.emb.lt k b (ιTv_inv h).2, fun b base id q hq => ?_, fun x hx => (hS.emb.tb x hx).imp fun q hq => hmk _ _ _ _ hq⟩, hS.os, hS.tape, hS.output, hS.size, hS.frame, fun k b h1 h2 h3 => hS.new k b h1 (ιTv_inv h2).2 h3, hS.alive, hS.kind⟩
 ·obtain ⟨b, r1, hz⟩ := hS.emb.obj k c' t' q' hk
  have hcs : Zt (Zau post.length 1) c' = true := ZnZ hUA k (.cells c' t' q') hk
  exact ⟨b, hι k b (.inl (Zuw hk)) r1, hz.imp id fun ⟨q0, D, r2, r3, r4⟩ => ⟨q0, D, r2, ⟨r3.1, fun i x y hx hy => VR.cutV hι 1 x y (r3.2 i x y hx hy) (ZB hcs x (List.mem_of_getElem? hx))⟩, r4⟩⟩
 ·obtain ⟨b, r1, r2⟩ := hS.emb.ro k O hk
  exact ⟨b, hι k b (.inl (Zuw hk)) r1, r2⟩
 ·obtain ⟨m1, m2, m3⟩ := hS.emb.mks b base id q (ιTv_inv hq).2
  exact ⟨m1, ⟨m2.1.on hmk, fun o c' hc => hmk _ _ _ _ (m2.2 o c' hc)⟩, fun k d hk hd2 => m3 k d hk (ιTv_inv hd2).2⟩
theorem Zrv {post : List (Option AObj)} {o : AObj} : lkO (post ++ [some o]) post.length = some o := by simp [lkO]
theorem Zrw {post : List (Option AObj)} {o : AObj} : upd (lkO (post ++ [some o])) post.length none = lkO post := by
 funext k
 by_cases hk : k = post.length
 ·subst hk
  rw [Zk]
  simp [lkO]
 ·rw [Zd hk]
  unfold lkO
  rcases Nat.lt_or_ge k post.length with h | h
  ·rw [List.getElem?_append_left h]
  ·rw [List.getElem?_eq_none (by simp; omega), List.getElem?_eq_none h]
theorem Zi3 {p : Option Addr} {n n' c c' : Nat} (h2 : n = n') (h3 : c = c') : Value.slice p n c = .slice p n' c' := by rw [h2, h3]
theorem LSpec.frzv {α : Type} {E : Enc α} {L : List α} {f : FuncId} {A : Array Value} {pre : List AObj} {v v2 : Value} {post : List (Option AObj)} {t : TypeId} (h : LSpec P f A pre v (post ++ [some (.cells (Za E L) t)])) (hpre : pre.length ≤ post.length) (hle : post.length < 1000000000) (hUA : ZgH post.length post) (hz : ZbJ v = false)
  (h2 : ZmV post.length (code (Zac E L)) 3 v = v2) (hu : Zau post.length 3 v2 = true) : LSpec P f A pre v2 post := by
 subst h2
 intro ι w args' hd ha he
 refine (h ι w args' hd ha he).mono fun e w' hf => ?_
 rcases hf with ⟨v', ι', rfl, hS, hdm, hvr⟩ | ⟨hz', _⟩
 rotate_left
 ·rw [hz] at hz'; cases hz'
 rw [Zgc] at hS
 obtain ⟨ι2, g1, g2, g3⟩ := Step.frz hS.emb Zrv
 rw [Zrw] at g1
 have hT := Step.letgo hd hpre hUA (hS.trans g1)
 refine .inl ⟨v', _, rfl, hT, fun k hk => ?_, VR.cutV (fun k b hk h => (ιTv_yes hk).trans h) 3 _ _ (Zs4 g1.ext g2 3 hvr) hu⟩
 cases hq : ιTv ι2 post.length k with
 | none => exact absurd hq hk
 | some q => exact (ιTv_inv hq).1.imp id fun h => h.1
noncomputable def nlV : Nat → Value → Value
 | d + 1, .agg cs => .agg ((cs.toList.map (nlV d)).toArray)
 | d + 1, .tuple cs => .tuple ((cs.toList.map (nlV d)).toArray)
 | _, .slice none 0 0 => .slice (some ⟨code [], 0, some 0⟩) 0 0
 | _, v => v
theorem Zp6 {ι : Ren} {n m : Nat} {v' : Value} (d : Nat) (h : VR ι (.slice none n m) v') : VR ι (nlV d (.slice none n m)) v' := by
 cases n with
 | succ n => cases d <;> exact h
 | zero =>
  cases m with
  | succ m => cases d <;> exact h
  | zero =>
   have e := h.eq_of_atom rfl
   subst e
   cases d <;> exact .slice0 fun _ => rfl
theorem Zw8 {ι : Ren} (d : Nat) : ∀ {v v' : Value}, VR ι v v' → VR ι (nlV d v) v' := by
 induction d with
 | zero =>
  intro v v' h
  cases v with
  | slice p n m =>
   cases p with
   | none => exact Zp6 0 h
   | some a => exact h
  | _ => exact h
 | succ d ih =>
  intro v v' h
  cases v with
  | slice p n m =>
   cases p with
   | none => exact Zp6 (d + 1) h
   | some a => exact h
  | agg cs =>
   obtain ⟨a', rfl, hs, h1⟩ := h.agg_inv
   show VR ι (.agg ((cs.toList.map (nlV d)).toArray)) _
   refine .agg (by simpa using hs) fun i x y hx1 hy => ?_
   simp only [List.getElem?_toArray, List.getElem?_map] at hx1
   cases hc : cs.toList[i]? with
   | none => rw [hc] at hx1; cases hx1
   | some z =>
    rw [hc] at hx1
    injection hx1 with hx1
    subst hx1
    exact ih (h1 i z y (by simpa using hc) hy)
  | tuple cs =>
   cases h with
   | atom h => simp [Ev.atom] at h
   | tuple hs h1 =>
    show VR ι (.tuple ((cs.toList.map (nlV d)).toArray)) _
    refine .tuple (by simpa using hs) fun i x y hx1 hy => ?_
    simp only [List.getElem?_toArray, List.getElem?_map] at hx1
    cases hc : cs.toList[i]? with
    | none => rw [hc] at hx1; cases hx1
    | some z =>
     rw [hc] at hx1
     injection hx1 with hx1
     subst hx1
     exact ih (h1 i z y (by simpa using hc) hy)
  | _ => exact h
theorem LSpec.nlv {f : FuncId} {A : Array Value} {pre : List AObj} {v v2 : Value} {post : List (Option AObj)} (h : LSpec P f A pre v post) (hz : ZbJ v = false) (h2 : nlV 3 v = v2) : LSpec P f A pre v2 post := by
 subst h2
 intro ι w args' hd ha he
 refine (h ι w args' hd ha he).mono fun e w' hf => ?_
 rcases hf with ⟨v', ι', rfl, hS, hdm, hvr⟩ | ⟨hz', _⟩
 ·exact .inl ⟨v', ι', rfl, hS, hdm, Zw8 3 hvr⟩
 ·rw [hz] at hz'; cases hz'
end
set_option linter.unusedVariables false
section
variable {α : Type} {E : Enc α}
theorem ZD (ρ : Nat → Nat) (L : List α) (t : TypeId) : Zfl ρ (.cells (Za E L) t true) (.cells (Za E L) t true) := ⟨rfl, by rw [Zml], ZmG 1 L⟩
theorem Zp7 (ρ : Nat → Nat) (L : List α) (t : TypeId) : AObj.cells (Za E L) t true = ZfZ ρ (.cells (Za E L) t true) := by
 show _ = AObj.cells ((Za E L).map (ZT ρ 1)) t true
 rw [Zml]
theorem Zw9 {L : List α} (h : 0 < L.length) (hw : 0 < E.w) : Za E L ≠ [] := fun e => by
 have h1 : (Za E L).length = 0 := by rw [e]; rfl
 cases L with
 | nil => cases h
 | cons x L =>
  unfold Za at h1
  rw [List.flatMap_cons, List.length_append, E.len] at h1
  omega
theorem Zrx : ∀ c, WkC c c
 | [] => trivial
 | _ :: c => ⟨.inl rfl, Zrx c⟩
theorem wk_q2 {L : List α} {t : TypeId} : WkO (some (.cells (Za E L) t)) (some (.cells (Za E L) t true)) := .inr (.inr ⟨_, _, _, rfl, rfl, Zrx _⟩)
theorem wk_c {c c' : List Value} {t : TypeId} (h : WkC c c') : WkO (some (.cells c t)) (some (.cells c' t)) := .inr (.inl ⟨_, _, _, _, rfl, rfl, h⟩)
end
def Zkk (W : Nat → List Int) (k : Nat) (x : List Int) : Nat → List Int := fun j => bif Nat.beq j k then x else W j
def ZoO {α : Type} (n : Nat) (x : Int) (f : Nat → Option α) : Option α := if 0 ≤ x ∧ x < (n : Int) then f x.toNat else none
def wOf : List (List Int) → Nat → List Int
 | [], _ => []
 | x :: _, 0 => x
 | _ :: l, k + 1 => wOf l k
abbrev lw (W : Nat → List Int) (k : Nat) : Int := (W k).getD ((W k).length - 1) 0
abbrev pw (W : Nat → List Int) (k : Nat) : List Int := (W k).take ((W k).length - 1)
abbrev uw (W : Nat → List Int) (k : Nat) : Nat → List Int := Zkk W k (pw W k)
abbrev iw (W : Nat → List Int) (k : Nat) : Int := IntKind.i64.wrap (lw W k - (1 : Int))
theorem Zp8 {W : Nat → List Int} {k : Nat} {x : List Int} : Zkk W k x k = x := by unfold Zkk; rw [show Nat.beq k k = true from Nat.beq_refl k]; rfl
theorem Zoa {W : Nat → List Int} {k j : Nat} {x : List Int} (h : j ≠ k) : Zkk W k x j = W j := by
 unfold Zkk
 cases hb : Nat.beq j k with
 | true => exact absurd (Nat.eq_of_beq_eq_true hb) h
 | false => rfl
set_option linter.unusedVariables false
noncomputable section
def nth : List Nat → Nat → Nat
 | [], _ => 0
 | a :: _, 0 => a
 | _ :: l, j + 1 => nth l j
def hpC (a : Int) (n1 x n2 y b : Nat) (W : Nat → List Int) : List Value := [vi a, vs n1 0 x x, vs n2 0 y y, vs b 0 (W 0).length (W 0).length, vs (b + 1) 0 (W 1).length (W 1).length, vs (b + 2) 0 (W 2).length (W 2).length, vs (b + 3) 0 (W 3).length (W 3).length, vs (b + 4) 0 (W 4).length (W 4).length, vs (b + 5) 0 (W 5).length (W 5).length, vs (b + 6) 0 (W 6).length (W 6).length, vs (b + 7) 0 (W 7).length (W 7).length, vs (b + 8) 0 (W 8).length (W 8).length, vs (b + 9) 0 (W 9).length (W 9).length, vs (b + 10) 0 (W 10).length (W 10).length, vs (b + 11) 0 (W 11).length (W 11).length, vs (b + 12) 0 (W 12).length (W 12).length, vs (b + 13) 0 (W 13).length (W 13).length, vs (b + 14) 0 (W 14).length (W 14).length, vs (b + 15) 0 (W 15).length (W 15).length, vs (b + 16) 0 (W 16).length (W 16).length]
def hpCa (W : Nat → List Int) : Nat → List Nat → List Value
 | _, [] => []
 | j, k :: l => vs k 0 (W j).length (W j).length :: hpCa W (j + 1) l
def Zeu (ks : List Nat) : Nat → Nat → List Nat
 | _, 0 => []
 | a, n + 1 => nth ks a :: Zeu ks (a + 1) n
def hpCl (l : List Nat) (W : Nat → List Int) : List Value := hpCa W 0 l
def ZhQ (a : Int) (n1 x n2 y : Nat) (l : List Nat) (W : Nat → List Int) : List Value := vi a :: vs n1 0 x x :: vs n2 0 y y :: hpCl l W
def hpO (W : Nat → List Int) (r : List (Option AObj)) : List (Option AObj) := some (.cells (Za eI (W 0)) 3 true) :: some (.cells (Za eI (W 1)) 3 true) :: some (.cells (Za eI (W 2)) 3 true) :: some (.cells (Za eI (W 3)) 3 true) :: some (.cells (Za eI (W 4)) 3 true) :: some (.cells (Za eI (W 5)) 3 true) :: some (.cells (Za eI (W 6)) 3 true) :: some (.cells (Za eI (W 7)) 3 true) :: some (.cells (Za eI (W 8)) 3 true) :: some (.cells (Za eI (W 9)) 3 true) :: some (.cells (Za eI (W 10)) 3 true) :: some (.cells (Za eI (W 11)) 3 true) :: some (.cells (Za eI (W 12)) 3 true) :: some (.cells (Za eI (W 13)) 3 true) :: some (.cells (Za eI (W 14)) 3 true) :: some (.cells (Za eI (W 15)) 3 true) :: some (.cells (Za eI (W 16)) 3 true) :: r
def hpP (W : Nat → List Int) (r : List AObj) : List AObj := .cells (Za eI (W 0)) 3 true :: .cells (Za eI (W 1)) 3 true :: .cells (Za eI (W 2)) 3 true :: .cells (Za eI (W 3)) 3 true :: .cells (Za eI (W 4)) 3 true :: .cells (Za eI (W 5)) 3 true :: .cells (Za eI (W 6)) 3 true :: .cells (Za eI (W 7)) 3 true :: .cells (Za eI (W 8)) 3 true :: .cells (Za eI (W 9)) 3 true :: .cells (Za eI (W 10)) 3 true :: .cells (Za eI (W 11)) 3 true :: .cells (Za eI (W 12)) 3 true :: .cells (Za eI (W 13)) 3 true :: .cells (Za eI (W 14)) 3 true :: .cells (Za eI (W 15)) 3 true :: .cells (Za eI (W 16)) 3 true :: r
def hpD (W : Nat → List Int) (r : List (Bool × Bool)) : List (Bool × Bool) := (dP (Za eI (W 0) = Za eI (W 0)), true) :: (dP (Za eI (W 1) = Za eI (W 1)), true) :: (dP (Za eI (W 2) = Za eI (W 2)), true) :: (dP (Za eI (W 3) = Za eI (W 3)), true) :: (dP (Za eI (W 4) = Za eI (W 4)), true) :: (dP (Za eI (W 5) = Za eI (W 5)), true) :: (dP (Za eI (W 6) = Za eI (W 6)), true) :: (dP (Za eI (W 7) = Za eI (W 7)), true) :: (dP (Za eI (W 8) = Za eI (W 8)), true) :: (dP (Za eI (W 9) = Za eI (W 9)), true) :: (dP (Za eI (W 10) = Za eI (W 10)), true) :: (dP (Za eI (W 11) = Za eI (W 11)), true) :: (dP (Za eI (W 12) = Za eI (W 12)), true) :: (dP (Za eI (W 13) = Za eI (W 13)), true) :: (dP (Za eI (W 14) = Za eI (W 14)), true) :: (dP (Za eI (W 15) = Za eI (W 15)), true) :: (dP (Za eI (W 16) = Za eI (W 16)), true) :: r
def hpKa (W : Nat → List Int) (r : List (Nat × AObj)) : Nat → List Nat → List (Nat × AObj)
 | _, [] => r
 | j, k :: l => (k, .cells (Za eI (W j)) 3 true) :: hpKa W r (j + 1) l
def hpK (l : List Nat) (W : Nat → List Int) (r : List (Nat × AObj)) : List (Nat × AObj) := hpKa W r 0 l
theorem hpS {ρ : Nat → Nat} {W : Nat → List Int} {l m : List (Option AObj)} (h : Zx ρ l m) : Zx ρ (hpO W l) (hpO W m) := ⟨ZD (E := eI) (α := Int) _ (W 0) _, ⟨ZD (E := eI) (α := Int) _ (W 1) _, ⟨ZD (E := eI) (α := Int) _ (W 2) _, ⟨ZD (E := eI) (α := Int) _ (W 3) _, ⟨ZD (E := eI) (α := Int) _ (W 4) _, ⟨ZD (E := eI) (α := Int) _ (W 5) _, ⟨ZD (E := eI) (α := Int) _ (W 6) _, ⟨ZD (E := eI) (α := Int) _ (W 7) _, ⟨ZD (E := eI) (α := Int) _ (W 8) _, ⟨ZD (E := eI) (α := Int) _ (W 9) _, ⟨ZD (E := eI) (α := Int) _ (W 10) _, ⟨ZD (E := eI) (α := Int) _ (W 11) _, ⟨ZD (E := eI) (α := Int) _ (W 12) _, ⟨ZD (E := eI) (α := Int) _ (W 13) _, ⟨ZD (E := eI) (α := Int) _ (W 14) _, ⟨ZD (E := eI) (α := Int) _ (W 15) _, ⟨ZD (E := eI) (α := Int) _ (W 16) _, h⟩⟩⟩⟩⟩⟩⟩⟩⟩⟩⟩⟩⟩⟩⟩⟩⟩
end
set_option linter.unusedVariables false
def rg : Nat → Nat → List Nat → List Nat
 | _, 0, l => l
 | a, n + 1, l => a :: rg (a + 1) n l
def oq : List Nat → List (Nat × Bool)
 | [] => []
 | a :: l => (a / 2, Nat.beq (a % 2) 1) :: oq l
abbrev Ob (l : List (Bool × Bool)) : Prop := ∀ q ∈ l, q.1 = q.2
section
variable {l : List (Bool × Bool)}
theorem kX (t b : Bool) (h : t = b) (hl : Ob l) : Ob ((t, b) :: l) := Zbr h hl
theorem hT {a b : Int} (h : a = b) (hl : Ob l) : Ob ((a == b, true) :: l) := Zbr (beq_iff_eq.2 h) hl
theorem hF {a b : Int} (h : ¬ a = b) (hl : Ob l) : Ob ((a == b, false) :: l) := Zbr (beq_eq_false_iff_ne.2 h) hl
theorem hD {a b : Int} (h : ¬ a = b) (hl : Ob l) : Ob ((a != b, true) :: l) := Zbr (bne_iff_ne.2 h) hl
theorem hE {a b : Int} (h : a = b) (hl : Ob l) : Ob ((a != b, false) :: l) := Zbr (bne_eq_false_iff_eq.2 h) hl
theorem hY {p : Prop} [Decidable p] (h : p) (hl : Ob l) : Ob ((decide p, true) :: l) := Zbr (decide_eq_true h) hl
theorem hN {p : Prop} [Decidable p] (h : ¬ p) (hl : Ob l) : Ob ((decide p, false) :: l) := Zbr (decide_eq_false h) hl
theorem kT (a b : Int) (hl : Ob l) (h : a = b := by omega) : Ob ((a == b, true) :: l) := hT h hl
theorem kF (a b : Int) (hl : Ob l) (h : ¬ a = b := by omega) : Ob ((a == b, false) :: l) := hF h hl
theorem kE (a b : Int) (hl : Ob l) (h : a = b := by omega) : Ob ((a != b, false) :: l) := hE h hl
theorem kY (p : Prop) [Decidable p] (hl : Ob l) (h : p := by omega) : Ob ((decide p, true) :: l) := hY h hl
theorem kN (p : Prop) [Decidable p] (hl : Ob l) (h : ¬ p := by omega) : Ob ((decide p, false) :: l) := hN h hl
theorem kR {α : Type} (a : α) (hl : Ob l) : Ob ((dP (a = a), true) :: l) := Zbr (ZaD rfl) hl
theorem kC {p : Prop} (h : p) (hl : Ob l) : Ob ((dP p, true) :: l) := Zbr (ZaD h) hl
theorem kB (a b : Nat) (hl : Ob l) (h : a < b := by first | omega | (simp only [List.length_set, List.length_append, List.length_cons, List.length_nil, List.length_replicate, List.length_take, List.length_drop] at * <;> omega)) : Ob ((Nat.blt a b, true) :: l) := Zbr (Zwz h) hl
theorem kI (a b : Int) (hl : Ob l) (h : a = b := by first | rfl | exact Zj8 (by omega)) : Ob ((a == b, true) :: l) := hT h hl
theorem kJ (a : Int) (n : Nat) (hl : Ob l) (h : a = (n : Int) := by omega) : Ob ((a == Int.ofNat n, true) :: l) := hT h hl
theorem kM (a b : Int) (hl : Ob l) (h : 0 ≤ a := by omega) : Ob ((Int.tmod a b == a % b, true) :: l) := hT (Zve h) hl
theorem kV (a b : Int) (hl : Ob l) (h : 0 ≤ a := by omega) (h' : -9223372036854775808 ≤ a / b ∧ a / b ≤ 9223372036854775807 := by omega) : Ob ((IntKind.i64.wrap (Int.tdiv a b) == a / b, true) :: l) := hT (by rw [Zvf h]; exact wrap_i64 h') hl
theorem kW (a b : Int) (hl : Ob l) (h : -9223372036854775808 ≤ a ∧ a ≤ 9223372036854775807 := by first | omega | (simp only [List.length_set, List.length_append, List.length_cons, List.length_nil, List.length_replicate, List.length_take, List.length_drop] at * <;> omega)) (h' : a = b := by first | rfl | omega) : Ob ((IntKind.i64.wrap a == b, true) :: l) := hT ((wrap_i64 h).trans h') hl
theorem kZ (t : Bool) (hl : Ob l) (h : t = true := by first | (simp only [beq_self_eq_true, Bool.and_self]; done) | (simp only [Bool.and_true, Bool.and_eq_true, beq_iff_eq] <;> first | omega | (simp_all; done) | grind)) : Ob ((t, true) :: l) := Zbr h hl
theorem kO (t : Bool) (hl : Ob l) (h : t = false := by exact Bool.eq_false_iff.2 (by simp only [ne_eq, Bool.and_true, Bool.and_eq_true, beq_iff_eq]; first | omega | (intro hh; simp_all; done) | (intro hh; grind))) : Ob ((t, false) :: l) := Zbr h hl
theorem kS (b : Int) (n : Nat) (k : IntKind) (hl : Ob l) (h : b = Int.ofNat n := by first | rfl | exact Zj8 (by omega)) (h' : n ≤ IntKind.bits k := by (show _ ≤ 64); omega) : Ob ((dP (b = Int.ofNat n ∧ n ≤ IntKind.bits k), true) :: l) := kC ⟨h, h'⟩ hl
section
variable {α : Type} (E : Enc α) (L : List α)
theorem Zry {L : List α} {o i q m : Nat} (hi : i < L.length) (ho : o = i * E.w + q) (hq : q + m ≤ E.w) : Zff (Zad m ((Za E L).drop o)) (((E.cel (L.getD i E.dflt)).drop q).take m) = true := by
 rw [Zrn hi ho hq]
 have e : ((E.enc (L.getD i E.dflt)).drop q).take m = Zs (((E.cel (L.getD i E.dflt)).drop q).take m) := by
  unfold Enc.enc Zs; rw [List.map_take, List.map_drop]
 rw [e]
 refine Zdh ?_
 have hs := E.sure (L.getD i E.dflt)
 have h1 : ∀ (cs : List Cell) (n : Nat), Zes cs = true → Zes (cs.drop n) = true := fun cs => by
  induction cs with
  | nil => intro n _; simp [Zes]
  | cons c cs ih =>
   intro n h
   cases n with
   | zero => exact h
   | succ n => rw [List.drop_succ_cons]; exact ih n (by cases c <;> first | cases h; done | exact h)
 have h2 : ∀ (cs : List Cell) (n : Nat), Zes cs = true → Zes (cs.take n) = true := fun cs => by
  induction cs with
  | nil => intro n _; simp [Zes]
  | cons c cs ih =>
   intro n h
   cases n with
   | zero => rfl
   | succ n =>
    rw [List.take_succ_cons]
    cases c with
    | any => cases h
    | _ => exact ih n h
 exact h2 _ _ (h1 _ _ hs)
theorem kL (i q m : Nat) (hl : Ob l) (h : i < L.length := by first | omega | (simp only [List.length_set, List.length_append, List.length_cons, List.length_nil, List.length_replicate, List.length_take, List.length_drop] at * <;> omega)) (hq : q + m ≤ E.w := by decide) : Ob ((Zff (Zad m (List.drop ((0 + (i * E.w)) + q) (Za E L))) (((E.cel (L.getD i E.dflt)).drop q).take m), true) :: l) := Zbr (Zry E h (by omega) hq) hl
theorem kLn (i q m : Nat) (hl : Ob l) (h : i < L.length := by first | omega | (simp only [List.length_set, List.length_append, List.length_cons, List.length_nil, List.length_replicate, List.length_take, List.length_drop] at * <;> omega)) (hq : q + m ≤ E.w := by decide) : Ob ((Zff (Zad m (List.drop (0 + (i * E.w)) (Za E L))) (((E.cel (L.getD i E.dflt)).drop 0).take m), true) :: l) := Zbr (Zry E (q := 0) h (by omega) (by omega)) hl
theorem kG (o i q m w : Nat) (hl : Ob l) (h : i < L.length := by first | omega | (simp only [List.length_set, List.length_append, List.length_cons, List.length_nil, List.length_replicate, List.length_take, List.length_drop] at * <;> omega)) (ho : o = i * w + q := by omega) (hw : w = E.w := by rfl) (hq : q + m ≤ E.w := by decide) : Ob ((dP (Zat (code (Zac E L)) o m = some (((E.cel (L.getD i E.dflt)).drop q).take m)), true) :: l) := kC (Zvl h (by rw [← hw]; exact ho) hq rfl) hl
theorem kA (x : α) (hl : Ob l) (h : L.length ≤ 100000 := by first | omega | (simp only [List.length_set, List.length_append, List.length_cons, List.length_nil, List.length_replicate, List.length_take, List.length_drop] at * <;> omega)) (h1 : Zt ZcC (E.enc x) = true := by rfl) : Ob ((dP ((1 = 1 ∧ Zad (1 * E.w) (List.drop 0 (E.enc x)) = some (E.enc x) ∧ Zt ZcC (E.enc x) = true) ∧ 0 < 1 ∧ 1 ≤ 100000 ∧ L.length < L.length + 1 ∧ L.length ≤ 100000 ∧ L.length * E.w ≤ (List.length (Za E L)) ∧ List.take (L.length * E.w) (Za E L) ++ E.enc x = Za E (L ++ [x])), true) :: l) := by
 refine kC ⟨⟨rfl, ?_, h1⟩, by omega, by omega, by omega, h, by rw [Zca]; exact Nat.le_refl _, ?_⟩ hl
 ·rw [Nat.one_mul, List.drop_zero, ← E.len x, ZhO _ _ (Nat.le_refl _), List.take_length]
 ·rw [List.take_of_length_le (by rw [Zca]; exact Nat.le_refl _), Zkh]
  show _ = _ ++ Za E (x :: [])
  rw [ZdB, ZhN, List.append_nil]
end
end
section
variable {ρ : Nat → Nat} {bl H : List (Option AObj)}
theorem bE : Zx ρ [] [] := trivial
theorem b1 {b : Option AObj} (h : Zx ρ bl H) : Zx ρ (b :: bl) (none :: H) := h
theorem bN (h : Zx ρ bl H) : Zx ρ (none :: bl) (none :: H) := h
theorem bN4 (h : Zx ρ bl H) : Zx ρ (none :: none :: none :: none :: bl) (none :: none :: none :: none :: H) := h
theorem ZN (h : Zx ρ bl H) : Zx ρ (none :: none :: none :: none :: none :: none :: none :: none :: none :: none :: none :: none :: none :: none :: none :: none :: bl) (none :: none :: none :: none :: none :: none :: none :: none :: none :: none :: none :: none :: none :: none :: none :: none :: H) := h
theorem bC {o p : AObj} (h : Zfl ρ o p) (hb : Zx ρ bl H) : Zx ρ (some o :: bl) (some p :: H) := ⟨h, hb⟩
theorem bS (c : List Value) {t : TypeId} {c' : List Value} (hb : Zx ρ bl H) (h : c.map (ZT ρ 1) = c' ++ [] := by rfl) (hs : Zt (Z9 1) c = true := by rfl) : Zx ρ (some (.cells c t) :: bl) (some (.cells c' t) :: H) := ⟨⟨rfl, ⟨[], h⟩, hs⟩, hb⟩
theorem bR {α : Type} {E : Enc α} {L : List α} {t : TypeId} (hb : Zx ρ bl H) : Zx ρ (some (.cells (Za E L) t) :: bl) (some (.cells (Za E L) t) :: H) := ⟨ZeV _ L _, hb⟩
theorem bQ {α : Type} {E : Enc α} {L : List α} {t : TypeId} (hb : Zx ρ bl H) : Zx ρ (some (.cells (Za E L) t true) :: bl) (some (.cells (Za E L) t true) :: H) := ⟨ZD _ L _, hb⟩
theorem Zo {α : Type} {E : Enc α} {t : TypeId} {l0 l1 l2 l3 l4 l5 l6 l7 l8 l9 la lb lc ld le lf : List α} (hb : Zx ρ bl H) : Zx ρ (some (.cells (Za E l0) t true) :: some (.cells (Za E l1) t true) :: some (.cells (Za E l2) t true) :: some (.cells (Za E l3) t true) :: some (.cells (Za E l4) t true) :: some (.cells (Za E l5) t true) :: some (.cells (Za E l6) t true) :: some (.cells (Za E l7) t true) :: some (.cells (Za E l8) t true) :: some (.cells (Za E l9) t true) :: some (.cells (Za E la) t true) :: some (.cells (Za E lb) t true) :: some (.cells (Za E lc) t true) :: some (.cells (Za E ld) t true) :: some (.cells (Za E le) t true) :: some (.cells (Za E lf) t true) :: bl) (some (.cells (Za E l0) t true) :: some (.cells (Za E l1) t true) :: some (.cells (Za E l2) t true) :: some (.cells (Za E l3) t true) :: some (.cells (Za E l4) t true) :: some (.cells (Za E l5) t true) :: some (.cells (Za E l6) t true) :: some (.cells (Za E l7) t true) :: some (.cells (Za E l8) t true) :: some (.cells (Za E l9) t true) :: some (.cells (Za E la) t true) :: some (.cells (Za E lb) t true) :: some (.cells (Za E lc) t true) :: some (.cells (Za E ld) t true) :: some (.cells (Za E le) t true) :: some (.cells (Za E lf) t true) :: H) := bQ <| bQ <| bQ <| bQ <| bQ <| bQ <| bQ <| bQ <| bQ <| bQ <| bQ <| bQ <| bQ <| bQ <| bQ <| bQ <| hb
end
section
variable {P : Program} {ext : FuncId → Option Ext} {f : FuncId} {fn : Func} {pre : List AObj} {A : Array Value} {R : Type} {V : R → Value} {Po : R → List (Option AObj)} {bl : List (Option AObj)} {ob : List (Bool × Bool)}
theorem gxR (F : Fit P ext) (kp : Nat) (orc : Orc) (live : List Nat) (u : Value) {r : R} (ho : Ob ob) (hbl : Zx (rho live far) bl (Po r)) (hv : V r = ZT (rho live far) 3 u ∧ Z9 3 u = true := by exact ⟨by rfl, by rfl⟩) (hev : Zj9 live (ZnX P ext f pre A 4000 orc) = some (u, bl, ob) := by as_aux_lemma => kernel_rfl) (hl : live.length = (Po r).length := by rfl) (hn : live.Nodup := by decide +kernel) (hk : Zl8 kp pre.length live = true := by rfl) (hno : ZnY kp pre.length (Po r) = true := by rfl) (hown : ZtA kp pre = true := by rfl) (hle : (Po r).length ≤ far := by exact Z8 _ rfl) : Gx P f pre A V Po (some r) :=
 ZsM F kp (Po r) ho (WkL.refl _) hv hbl hev hl hn hk hno hown hle
theorem fxC (orc : Orc) (live : List Nat) (u : Value) {r : R} (ho : Ob ob) (hbl : Zx (rho live far) bl (Po r)) (hv : V r = ZT (rho live far) 3 u ∧ Z9 3 u = true := by exact ⟨by rfl, by rfl⟩) (hev : ZnV live (Zrm P ext fn pre A 4000 orc) = some (u, bl, ob) := by as_aux_lemma => kernel_rfl) (hl : live.length = (Po r).length := by rfl) (hn : live.Nodup := by decide +kernel) (hk : Zbj pre.length live = true := by rfl) : Fx P ext fn pre A V Po (some r) :=
 Zw4 hev ho hl hn hk hv hbl
end
namespace Mach
section
variable {P : Program} {ext : FuncId → Option Ext} {M : Mach} {x : M.X} {A : Array Value} {bl : List (Option AObj)} {ob : List (Bool × Bool)}
theorem okF (orc : Orc) (live : List Nat) (u : Value) {r : M.R} (ho : Ob ob) (hbl : Zx (rho live far) bl (M.Po r)) (hv : M.V r = ZT (rho live far) 3 u ∧ Z9 3 u = true := by exact ⟨by rfl, by rfl⟩) (hev : ∀ gv, Zhw live (M.Start x gv P ext 1000000 0 4000 orc) = some (u, bl, ob) := by intro gv; kernel_rfl) (hl : live.length = (M.Po r).length := by rfl) (hn : live.Nodup := by decide +kernel) (hk : Zbj M.pre.length live = true := by rfl) : M.Ok P ext x (some (.inr r)) :=
 Zw2 hev ho hl hn hk hv hbl
theorem enF (orc : Orc) (live : List Nat) (u : Value) {r : M.R} (ho : Ob ob) (hbl : Zx (rho live far) bl (M.Po r)) (hv : M.V r = ZT (rho live far) 3 u ∧ Z9 3 u = true := by exact ⟨by rfl, by rfl⟩) (hev : Zhw live (M.startE P ext A 1000000 0 4000 orc) = some (u, bl, ob) := by kernel_rfl) (hl : live.length = (M.Po r).length := by rfl) (hn : live.Nodup := by decide +kernel) (hk : Zbj M.pre.length live = true := by rfl) : M.Enter P ext A (some (.inr r)) :=
 Zw3 hev ho hl hn hk hv hbl
theorem okN (orc : Orc) (live : List Nat) (tv : List (Option Value)) {y : M.X} (ho : Ob ob) (ht : ZcG (rho live far) tv (M.L y)) (hbl : Zx (rho live far) bl (M.H y)) (hr : M.hd y ∈ ZZ (M.KK (M.hd x))) (hev : ∀ gv, Zkf (M.hd y) live ((M.L y).map (·.1)) (M.Start x gv P ext 1000000 0 4000 orc) = some (tv, bl, ob) := by intro gv; kernel_rfl) (hL : M.isL (M.hd y) = true := by rfl) (hl : live.length = (M.H y).length := by rfl) (hn : live.Nodup := by decide +kernel) (hk : Zbj M.pre.length live = true := by rfl) : M.Ok P ext x (some (.inl y)) :=
 ZvV (tv := fun _ => tv) hL hr hev ho hl hn hk (fun _ => ht) hbl
end
end Mach
theorem tE {ρ : Nat → Nat} : ZcG ρ [] [] := trivial
theorem tC {ρ : Nat → Nat} {u : Value} {tv : List (Option Value)} {x : Nat × Value} {l : List (Nat × Value)} (ht : ZcG ρ tv l) (h : x.2 = ZT ρ 3 u ∧ Z9 3 u = true := by exact ⟨by rfl, by rfl⟩) : ZcG ρ (some u :: tv) (x :: l) := ⟨h, ht⟩
theorem ZdM {k : Nat} (h : k < 17) : k = 0 ∨ k = 1 ∨ k = 2 ∨ k = 3 ∨ k = 4 ∨ k = 5 ∨ k = 6 ∨ k = 7 ∨ k = 8 ∨ k = 9 ∨ k = 10 ∨ k = 11 ∨ k = 12 ∨ k = 13 ∨ k = 14 ∨ k = 15 ∨ k = 16 := by omega
section
variable {l : List (Bool × Bool)}
theorem kRW (W : Nat → List Int) (hl : Ob l) : Ob (hpD W l) := kR _ <| kR _ <| kR _ <| kR _ <| kR _ <| kR _ <| kR _ <| kR _ <| kR _ <| kR _ <| kR _ <| kR _ <| kR _ <| kR _ <| kR _ <| kR _ <| kR _ hl
theorem kU (c : List Value) (j : Nat) {x y : Value} (h : x = y) (hl : Ob l) : Ob ((dP (c.set j x = c.set j y), true) :: l) := kC (by rw [h]) hl
end
theorem bU {ρ : Nat → Nat} {bl H : List (Option AObj)} (c : List Value) (j : Nat) {x y : Value} (hxy : x = y) {t : TypeId} {c' : List Value} (hb : Zx ρ bl H) (h1 : c.map (ZT ρ 1) = c'.set j x := by rfl) (h2 : c'.set j y = c' := by rfl) (hs : Zt (Z9 1) c = true := by rfl) : Zx ρ (some (.cells c t) :: bl) (some (.cells c' t) :: H) := ⟨⟨rfl, ⟨[], by rw [h1, hxy, h2, List.append_nil]⟩, hs⟩, hb⟩
theorem bUP {ρ : Nat → Nat} {bl H : List (Option AObj)} {κ : Nat} (hκ : κ < 17) (c : List Value) (j : Nat) {x y : Value} (hxy : x = y) {t : TypeId} {c' : List Value} (hb : Zx ρ bl H) (h1 : c.map (ZT ρ 1) = c'.set j x := by rcases ZdM (by assumption) with rfl | rfl | rfl | rfl | rfl | rfl | rfl | rfl | rfl | rfl | rfl | rfl | rfl | rfl | rfl | rfl | rfl <;> rfl) (h2 : c'.set j y = c' := by rcases ZdM (by assumption) with rfl | rfl | rfl | rfl | rfl | rfl | rfl | rfl | rfl | rfl | rfl | rfl | rfl | rfl | rfl | rfl | rfl <;> rfl) (hs : Zt (Z9 1) c = true := by rcases ZdM (by assumption) with rfl | rfl | rfl | rfl | rfl | rfl | rfl | rfl | rfl | rfl | rfl | rfl | rfl | rfl | rfl | rfl | rfl <;> rfl) : Zx ρ (some (.cells c t) :: bl) (some (.cells c' t) :: H) := ⟨⟨rfl, ⟨[], by rw [h1, hxy, h2, List.append_nil]⟩, hs⟩, hb⟩
theorem bU2P {ρ : Nat → Nat} {bl H : List (Option AObj)} {κ : Nat} (hκ : κ < 17) (c : List Value) (j : Nat) {x y : Value} (hxy : x = y) (j' : Nat) {x' y' : Value} (hxy' : x' = y') {t : TypeId} {c' : List Value} (hb : Zx ρ bl H) (h1 : c.map (ZT ρ 1) = (c'.set j x).set j' x' := by rcases ZdM (by assumption) with rfl | rfl | rfl | rfl | rfl | rfl | rfl | rfl | rfl | rfl | rfl | rfl | rfl | rfl | rfl | rfl | rfl <;> rfl) (h2 : (c'.set j y).set j' y' = c' := by rcases ZdM (by assumption) with rfl | rfl | rfl | rfl | rfl | rfl | rfl | rfl | rfl | rfl | rfl | rfl | rfl | rfl | rfl | rfl | rfl <;> rfl) (hs : Zt (Z9 1) c = true := by rcases ZdM (by assumption) with rfl | rfl | rfl | rfl | rfl | rfl | rfl | rfl | rfl | rfl | rfl | rfl | rfl | rfl | rfl | rfl | rfl <;> rfl) : Zx ρ (some (.cells c t) :: bl) (some (.cells c' t) :: H) := ⟨⟨rfl, ⟨[], by rw [h1, hxy, hxy', h2, List.append_nil]⟩, hs⟩, hb⟩
theorem bSP {ρ : Nat → Nat} {bl H : List (Option AObj)} {κ : Nat} (hκ : κ < 17) (c : List Value) {t : TypeId} {c' : List Value} (hb : Zx ρ bl H) (h : c.map (ZT ρ 1) = c' ++ [] := by rcases ZdM (by assumption) with rfl | rfl | rfl | rfl | rfl | rfl | rfl | rfl | rfl | rfl | rfl | rfl | rfl | rfl | rfl | rfl | rfl <;> rfl) (hs : Zt (Z9 1) c = true := by rcases ZdM (by assumption) with rfl | rfl | rfl | rfl | rfl | rfl | rfl | rfl | rfl | rfl | rfl | rfl | rfl | rfl | rfl | rfl | rfl <;> rfl) : Zx ρ (some (.cells c t) :: bl) (some (.cells c' t) :: H) := ⟨⟨rfl, ⟨[], h⟩, hs⟩, hb⟩
section
variable {P : Program} {ext : FuncId → Option Ext} {f : FuncId} {fn : Func} {pre : List AObj} {A : Array Value} {R : Type} {V : R → Value} {Po : R → List (Option AObj)} {bl : List (Option AObj)} {ob : List (Bool × Bool)}
theorem Zux {n : Nat} {x : Int} {g : Nat → Option R} (h : ∀ κ, κ < n → x = (κ : Int) → Gx P f pre A V Po (g κ)) : Gx P f pre A V Po (ZoO n x g) := by
 unfold ZoO
 by_cases hx : 0 ≤ x ∧ x < (n : Int)
 ·rw [if_pos hx]; exact h _ (by omega) (by omega)
 ·rw [if_neg hx]; exact Zbw
theorem ZtB (F : Fit P ext) {κ : Nat} (hκ : κ < 17) (kp : Nat) (orc : Orc) (live : List Nat) (u : Value) {r : R} (ho : Ob ob) (hbl : Zx (rho live far) bl (Po r)) (hv : V r = ZT (rho live far) 3 u ∧ Z9 3 u = true := by exact ⟨by rfl, by rfl⟩)
  (hev : Zj9 live (ZnX P ext f pre A 4000 orc) = some (u, bl, ob) := by rcases ZdM (by assumption) with rfl | rfl | rfl | rfl | rfl | rfl | rfl | rfl | rfl | rfl | rfl | rfl | rfl | rfl | rfl | rfl | rfl <;> (as_aux_lemma => kernel_rfl)) (hl : live.length = (Po r).length := by rcases ZdM (by assumption) with rfl | rfl | rfl | rfl | rfl | rfl | rfl | rfl | rfl | rfl | rfl | rfl | rfl | rfl | rfl | rfl | rfl <;> rfl) (hn : live.Nodup := by rcases ZdM (by assumption) with rfl | rfl | rfl | rfl | rfl | rfl | rfl | rfl | rfl | rfl | rfl | rfl | rfl | rfl | rfl | rfl | rfl <;> decide +kernel) (hk : Zl8 kp pre.length live = true := by rcases ZdM (by assumption) with rfl | rfl | rfl | rfl | rfl | rfl | rfl | rfl | rfl | rfl | rfl | rfl | rfl | rfl | rfl | rfl | rfl <;> rfl) (hno : ZnY kp pre.length (Po r) = true := by rfl) (hown : ZtA kp pre = true := by rfl) (hle : (Po r).length ≤ far := by exact Z8 _ rfl) : Gx P f pre A V Po (some r) :=
 ZsM F kp (Po r) ho (WkL.refl _) hv hbl hev hl hn hk hno hown hle
end
structure ToldS where
 A : Array Value
 pt : List (Nat × AObj)
 gv : Value
 qt : List (Nat × Option AObj)
 dn : Nat
noncomputable def ToldS.t (S : ToldS) : ZiV := .call S.pt S.gv S.qt S.dn
def ToldS.P (S : ToldS) (P : Program) (f : FuncId) (n : Nat) : Prop := Zdt P f S.A S.pt S.gv S.qt n S.dn
noncomputable def Zqp : List (Nat × AObj) → List (Bool × Bool) → List (Bool × Bool)
 | [], l => l
 | (_, .cells c _ _) :: r, l => (dP (c = c), true) :: Zqp r l
 | (_, .ro O _) :: r, l => (dP (O = O), true) :: Zqp r l
theorem Znf : ∀ (r : List (Nat × AObj)) {l : List (Bool × Bool)}, Ob l → Ob (Zqp r l)
 | [], _, h => h
 | (_, .cells _ _ _) :: r, _, h => kR _ (Znf r h)
 | (_, .ro _ _) :: r, _, h => kR _ (Znf r h)
theorem kK {P : Program} {f : FuncId} {S : ToldS} {n : Nat} (h : S.P P f n) {l : List (Bool × Bool)} (hl : Ob l) : Ob ((dP (Zdt P f S.A S.pt S.gv S.qt n S.dn), true) :: Zqp S.pt l) := Zbr (ZaD h) (Znf _ hl)
theorem kKa {P : Program} {f : FuncId} {S : ToldS} {n : Nat} (h : S.P P f n) {l : List (Bool × Bool)} (hl : Ob l) : Ob ((dP (Zdt P f S.A S.pt S.gv S.qt n S.dn), true) :: l) := Zbr (ZaD h) hl
theorem kKb {P : Program} {f : FuncId} {S : ToldS} {n : Nat} {A : Array Value} (e : A = S.A) (h : S.P P f n) {l : List (Bool × Bool)} (hl : Ob l) : Ob ((dP (Zdt P f A S.pt S.gv S.qt n S.dn), true) :: l) := Zbr (ZaD (e ▸ h)) hl
theorem ZW {P : Program} {f : FuncId} {A : Array Value} {pre : List AObj} {v : Value} {post : List (Option AObj)} (h : LSpec P f A pre v post) (κ : List Nat) (n : Nat) (ch : List Nat) {S : ToldS} (hnd : κ.Nodup) (hlt : ∀ k ∈ κ, k < n) (hκ : κ.length = pre.length := by rfl) (hle : Nat.ble pre.length post.length = true := by rfl) (hch : Zt (fun j => Nat.blt j post.length) ch = true := by rfl)
  (hA : Zt (Zau pre.length 3) A.toList = true := by rfl) (hpre : Zkd pre.length pre := by repeat' (first | exact trivial | apply And.intro | exact Zak _ _ _ | rfl)) (hv : (Zau post.length 3 v || ZbJ v) = true := by rfl) (hpost : ZgF post.length post := by repeat' (first | exact trivial | apply And.intro | exact Zak _ _ _ | rfl)) (hk : Zrd ch 0 pre post := by repeat' (first | exact trivial | apply And.intro | exact Or.inl (by decide) | exact Or.inr rfl | decide))
  (eA : S.A = Zf5 (ZT (kap κ n) 3) A := by rfl) (ev : S.gv = ZT (kap κ n) 3 v := by rfl) (edn : pre.length + S.dn = post.length := by rfl) (ep : S.pt = preL κ n pre := by repeat' (first | refine Zj (ZsJ rfl ?_) ?_ | exact Zrp _ _ _ | exact Zp7 _ _ _ | rfl)) (eq : S.qt = Zt6 κ n ch post := by repeat' (first | refine Zj (ZsJ rfl ?_) ?_ | refine ZvU ?_ | exact Zrp _ _ _ | exact Zp7 _ _ _ | rfl)) : S.P P f n :=
 LSpec.callL h κ n ch hκ hnd hlt (Nat.le_of_ble_eq_true hle) (fun j hj => Nat.le_of_ble_eq_true (ZB hch j hj)) hA hpre hv hpost hk eA ev edn ep eq
section
variable {P : Program} {ext : FuncId → Option Ext}
section
variable {ι0 : Ren} {h0 : AH} {w0 : World} {n0 cn : Nat} {cT : Tr Value} {ac : Act} {l K : Nat} {R : Loop}
theorem IS.into {nt m : Nat} {L : Nat → Option Value} {H : Tr AObj} {T : Tr Value} {s : St} {live : List Nat} (hm : m ≤ far) (h : ZoG nt m L H T s live) {n1 : Nat} (hk : Zbj n1 live = true) (hd : ∀ k, ι0 k ≠ none → k < n1 ∨ ZH k)
  {ι : Ren} {a : Act} {W : World} (hb : TR ι0 cn [] cT { tmps := ac.tmps, defers := [] }) (hT : TR ι nt [] T a) (I : IS P ι0 h0 w0 0 cn cT ac l K R ι s W) (orc : Orc) :
  ∃ gv ι', TR ι' nt [] (tmps nt L gv) a ∧ IS P ι0 h0 w0 0 cn cT ac l K R ι' ⟨H, m, [], orc, []⟩ W ∧ ∀ k, m ≤ k → k < far → ι' k = none := by
 obtain ⟨gv, ι', a1, a2, a3, a4, _⟩ := ZjY hT I.st live m far rfl (ZhH hk) h.1 hm h.2.1 (fun k hk2 => (hd k hk2).imp (Zhp hk) id) L h.2.2.1 H.get h.2.2.2
 refine ⟨gv, ι', a1, ⟨a2, fun k hk => ?_, Nat.zero_le _, hb.on a2.ext, I.lo, I.de, I.ll, I.lk, fun k b hs hk => ?_⟩, a3⟩
 ·rcases Nat.lt_or_ge k m with h | h
  ·exact .inr (.inl ⟨Nat.zero_le _, h⟩)
  ·rcases Nat.lt_or_ge k far with h' | h'
   ·exact absurd (a3 k h h') hk
   ·exact .inr (.inr h')
 ·obtain ⟨k2, hs2, hk2⟩ := a4 k b hs hk
  exact I.nl k2 b hs2 hk2
end
def Zuy (P : Program) (ι : Ren) (h : AH) (w : World) (nt : Nat) (T : Tr Value) (Hf : Tr AObj) (mf : Nat) (ex : Exit) (a' : Act) (w' : World) : Prop :=
 ex = .normal ∧ ∃ ι' K, Step P ι h w ι' Hf.get w' ∧ (∀ k, mf ≤ k → k < far → ι' k = none) ∧ w.heap.size ≤ K ∧ TR ι' nt [{ target := .collected K, args := #[] }] T a' ∧ w'.heap[K]? = some (.deferred (some [])) ∧ ∀ k b, ZO (Hf.get k) b = true ∨ ZH k → ι' k = some b → b.1 ≠ K
theorem Zwb (F : Fit P ext) {nt m mf n1 gf id fuA : Nat} {g : Operand} {ps : Array Tmp} {asg body cA cB : Code} {T : Tr Value} {h : Tr AObj} {ι : Ren} {a : Act} {w : World} {av bv : Array Value} {fn : Func}
  (hT : TR ι nt [] T a) (he : Emb P ι h.get w) (hd : ∀ k, ι k ≠ none → k < n1 ∨ ZH k)
  (hg : opnd T g = .func (.func gf) av bv) (hgd : Zd3 g = true) (hfn : P.funcs[gf]? = some fn) (hb : fn.body = some (.seq cA (.block id (.loop cB)))) (hsz : Nat.ble (av ++ #[Value.chan (some 0)] ++ bv).size fn.ntmps = true) (hres : fn.results.toList = [])
  (hm : m ≤ far) (hmf : mf ≤ far) {X : Type} (L : X → Nat → Option Value) (H : X → Tr AObj) (μ : X → Nat) (x0 : X) (ys : List Tmp) (Hf : Tr AObj)
  {orcA : Orc} {TA : Tr Value} {sA : St} {liveA : List Nat} {ysA : List Tmp} (hA : evI P ext fn.ntmps ⟨nt, T, ps, asg, body⟩ fuA cA (ZcY 0 (av ++ #[Value.chan (some 0)] ++ bv).toList .nil) ⟨h, n1, [], orcA, []⟩ [av.size] none = some (.normal, TA, sA, ysA, none)) (hAy : ∀ t ∈ ys, t ∈ ysA) (hAo : ∀ p ∈ sA.ob, p.1 = p.2) (hAn : sA.n ≤ far)
  (hAi : ZoG fn.ntmps m (L x0) (H x0) TA sA liveA) (hAk : Zbj n1 liveA = true)
  (hB : ∀ x gv, ∃ fu orc e T' s' ys' live, evI P ext fn.ntmps ⟨nt, T, ps, asg, body⟩ fu cB (tmps fn.ntmps (L x) gv) ⟨H x, m, [], orc, []⟩ ys none = some (e, T', s', ys', none) ∧ (∀ t ∈ ys, t ∈ ys') ∧ (∀ p ∈ s'.ob, p.1 = p.2) ∧ s'.n ≤ far ∧ Zbj n1 live = true ∧
   ((e = .normal ∧ ∃ y, μ y < μ x ∧ ZoG fn.ntmps m (L y) (H y) T' s' live) ∨ (e = .exit id ∧ ZoG fn.ntmps mf (fun _ => none) Hf T' s' live))) :
  (Code.rangeFunc g ps asg body).wpIn (Fr none) 0 P (Zuy P ι h.get w nt T Hf mf) a w := by
 have hsz := Nat.le_of_ble_eq_true hsz
 have hgv : ∃ av' bv', Zbi a g = .func (.func gf) av' bv' ∧ VRs ι av av' ∧ VRs ι bv bv' := by
  have hv := hg ▸ hT.opnd g
  generalize Zbi a g = x' at hv
  cases hv with
  | atom h =>
   simp [Ev.atom] at h
   obtain ⟨rfl, rfl⟩ := h
   exact ⟨_, _, rfl, ⟨rfl, fun i x y hx => by simp at hx⟩, ⟨rfl, fun i x y hx => by simp at hx⟩⟩
  | func hs ht h1 h2 => exact ⟨_, _, rfl, ⟨hs, h1⟩, ⟨ht, h2⟩⟩
 obtain ⟨av', bv', hgv, hav, hbv⟩ := hgv
 have hgv : a.eval g = .func (.func gf) av' bv' := by
  cases g with
  | const v => simp only [Zd3] at hgd; simpa [Zbi, hgd, Act.eval] using hgv
  | _ => exact hgv
 refine wpIn_rangeFunc ?_
 intro fn0 _
 obtain ⟨R, hRd⟩ : ∃ R : Loop, R = { state := .ready, pending := none, fn := fn0, tmps := a.tmps, params := ps, assign := asg, body, defers := w.heap.size } := ⟨_, rfl⟩
 obtain ⟨W1, hW1⟩ : ∃ W1, (w.alloc (.deferred (some []))).alloc (.loop R) = W1 := ⟨_, rfl⟩
 have hL1 : W1.heap[w.heap.size + 1]? = some (.loop (Rp R none)) := by
  rw [show Rp R none = R by rw [hRd]; rfl]
  rw [← hW1]; have := World.alloc_heap_new (w.alloc (.deferred (some []))) (.loop R); rwa [World.size_alloc] at this
 have hK1 : W1.heap[w.heap.size]? = some (.deferred (some [])) := by
  rw [← hW1]; exact (Below.heap_alloc _ _ _ (by simp)).trans (World.alloc_heap_new w _)
 have hb1 : Below w.heap.size w W1 := by
  rw [← hW1]; exact ((Below.refl _ w).alloc (Nat.le_refl _) _).alloc (by simp) _
 have hT0 : TR ι nt [] T { tmps := a.tmps, defers := [] } := ⟨hT.1, rfl, hT.2.2⟩
 have I1 : IS P ι h.get w 0 nt T a (w.heap.size + 1) w.heap.size (Rp R none) ι ⟨h, n1, [], orcA, []⟩ W1 :=
  ⟨Step.below he hb1, Dom.refl, Nat.zero_le _, hT0, hL1, hK1, by omega, by omega, fun k b _ hk => by have := he.lt k b hk; omega⟩
 have hargs : VRs ι (av ++ #[Value.chan (some 0)] ++ bv) (av' ++ #[Value.func (.yield (w.heap.size + 1)) #[] #[]] ++ bv') :=
  Zeq (Zeq hav ⟨rfl, fun i x y hx hy => by
   cases i with
   | zero => simp at hx hy; rw [← hx, ← hy]; exact .glob rfl
   | succ i => simp at hx⟩) hbv
 have hR : R.tmps = a.tmps ∧ R.params = (⟨nt, T, ps, asg, body⟩ : Cx).ps ∧ R.assign = (⟨nt, T, ps, asg, body⟩ : Cx).asg ∧ R.body = (⟨nt, T, ps, asg, body⟩ : Cx).body := ⟨by rw [hRd], by rw [hRd], by rw [hRd], by rw [hRd]⟩
 refine ⟨w.heap.size + 1, [{ target := .collected w.heap.size, args := #[] }], W1, { target := .fn (.func gf) bv', args := av' ++ #[.func (.yield (w.heap.size + 1)) #[] #[]] }, W1, gf,
  av' ++ #[.func (.yield (w.heap.size + 1)) #[] #[]] ++ bv', W1, ?_, ?_, fun _ _ => trivial, ?_, fun e => (by cases e), ?_⟩
 ·rw [← hW1, hRd]; exact run_enterLoop_outer _ _ _ _ _
 ·simp only [resolve, hgv]
  simp [go_sem, Deferred.ofValue]
 ·simp [invoke, ZbQ hfn (F.go gf fn hfn) hb]
 ·refine callsIn_of_wp_marks hfn hb trivial (wpIn_seq ?_)
  refine wpIn_mono ((ZoK (R := R) (cx := ⟨nt, T, ps, asg, body⟩) (ac := a) F hR fuA).1 cA _ ⟨h, n1, [], orcA, []⟩ _ none .normal TA sA ysA none hA hAo ι _ W1 (ZfI hargs hsz) ?_ I1 ⟨hAn, fun k h1 h2 => by
   cases hk : ι k with
   | none => rfl
   | some b => exact absurd (hd k (by rw [hk]; simp)) (by have h3 : n1 ≤ k := h1; have h4 : k < sA.n := h2; have h5 : sA.n ≤ 1000000000 := hAn; unfold ZH; omega)⟩) ?_
  ·intro t ht
   rw [List.mem_singleton] at ht
   subst ht
   have hs := hav.1
   rw [Array.getD_eq_getD_getElem?, Array.getElem?_append_left (by simp; omega), Array.getElem?_append_left (by simp; omega), Array.getElem?_append_right (by omega)]
   simp [hs]
  ·rintro ex a1 w1 ⟨rfl, ι1, g1, gY', I2, _⟩
   have gY : YS (w.heap.size + 1) ys a1 := fun t ht => gY' t (hAy t ht)
   refine wpIn_block ?_
   obtain ⟨gv, ι2, k1, k2, k3⟩ := IS.into hm hAi hAk hd hT0 g1 I2 orcA
   have key : ∀ n x, μ x ≤ n → ∀ gv a1 w1 ι1 orc, TR ι1 fn.ntmps [] (tmps fn.ntmps (L x) gv) a1 → YS (w.heap.size + 1) ys a1 → IS P ι h.get w 0 nt T a (w.heap.size + 1) w.heap.size (Rp R none) ι1 ⟨H x, m, [], orc, []⟩ w1 → (∀ k, m ≤ k → k < far → ι1 k = none) →
     Code.roundsIn (Fr none) 0 P cB (Exit.inBlock id (bodyPostM (Fr none) (0 - 1) P fn (rangePost (Fr none) 0 P (w.heap.size + 1) (Zuy P ι h.get w nt T Hf mf) { a with defers := [{ target := .collected w.heap.size, args := #[] }] ++ a.defers }))) (n + 1) a1 w1 := by
    intro n
    induction n using Nat.strongRecOn with
    | _ n ih =>
    intro x hx gv a1 w1 ι1 orc0 q1 qY q2 q3
    obtain ⟨fu, orc, e, T', s', ys', live, hev, hyy, hob, hfar, hkeep, hcase⟩ := hB x gv
    rw [roundsIn_succ]
    have q2' : IS P ι h.get w 0 nt T a (w.heap.size + 1) w.heap.size (Rp R none) ι1 ⟨H x, m, [], orc, []⟩ w1 := ⟨q2.st, q2.dm, q2.hn, q2.tr, q2.lo, q2.de, q2.ll, q2.lk, q2.nl⟩
    refine wpIn_mono ((ZoK (R := R) (cx := ⟨nt, T, ps, asg, body⟩) (ac := a) F hR fu).1 cB _ ⟨H x, m, [], orc, []⟩ ys none e T' s' ys' none hev hob ι1 a1 w1 q1 qY q2' ⟨hfar, fun k h1 h2 => q3 k h1 (by have : k < s'.n := h2; omega)⟩) ?_
    rintro ex a2 w2 ⟨rfl, ι2, r1, rY', r2, _⟩
    have rY : YS (w.heap.size + 1) ys a2 := fun t ht => rY' t (hyy t ht)
    rcases hcase with ⟨rfl, y, hy, hi⟩ | ⟨rfl, hi⟩
    ·obtain ⟨gv', ι3, u1, u2, u3⟩ := IS.into hm hi hkeep hd hT0 r1 r2 orc
     cases n with
     | zero => omega
     | succ n => exact ih n (by omega) y (by omega) gv' a2 w2 ι3 orc u1 rY u2 u3
    ·obtain ⟨gv', ι3, u1, u2, u3⟩ := IS.into hmf hi hkeep hd hT0 r1 r2 orc
     show if id = id then _ else _
     rw [if_pos rfl]
     show LeavesInM (Fr none) (0 - 1) P fn a2.tmps _ a2.defers .returning w2
     rw [u1.2.1]
     obtain ⟨v', hrun, _⟩ := Zdg (s := ⟨Hf, mf, [], orc, []⟩) (fn := fn) (v := .tuple #[]) u1 u2.st.emb (by rw [hres]; rfl)
     have hr := run_endLoop (P := P) u2.lo (by simp [Rp])
     have I3 := u2.put { Rp R none with state := .exhausted }
     refine ⟨v', hrun, _, _, hr, ?_⟩
     exact ⟨rfl, ι3, w.heap.size, I3.st, u3, Nat.le_refl _, ⟨I3.tr.1, by rw [hT.2.1]; rfl, I3.tr.2.2⟩, I3.de, fun k b hs hk => (I3.nl k b hs hk).2⟩
   exact wpIn_loop_rounds (μ x0 + 1) (key (μ x0) x0 (Nat.le_refl _) gv a1 w1 ι2 orcA k1 gY k2 k3)
end
noncomputable section
def evL (P : Program) (ext : FuncId → Option Ext) (nt fu : Nat) : List Code → Tr Value → St → Option (Tr Value × St)
 | [], T, s => some (T, s)
 | c :: l, T, s => match ZR P ext nt fu c T s with
  | some (.normal, T', s') => evL P ext nt fu l T' s'
  | _ => none
def Zvp : List Code → Code → Code
 | [], c => c
 | a :: l, c => .seq a (Zvp l c)
def Zvq (live temps : List Nat) (r : Option (Tr Value × St)) : Option (List (Option Value) × List (Option AObj) × List (Bool × Bool)) :=
 match r with
 | some (T, s) => bif Nat.ble s.n 1000000000 then some (temps.map T.get, live.map s.h.get, s.ob) else none
 | none => none
def Zng (live temps : List Nat) (ys : List Tmp) (r : Option (Ex × Tr Value × St × List Tmp × Option Ex)) : Option (Ex × List (Option Value) × List (Option AObj) × List (Bool × Bool)) :=
 match r with
 | some (e, T, s, ys', none) => bif Nat.ble s.n 1000000000 && Zt (fun t => ZhC t ys') ys then some (e, temps.map T.get, live.map s.h.get, s.ob) else none
 | _ => none
def Zvr (P : Program) (fn : Func) (live : List Nat) (r : Option (Ex × Tr Value × St)) : Option (Value × List (Option AObj) × List (Bool × Bool)) :=
 match r with
 | some (.exit _, _, _) => none
 | some (_, T, s) => bif Nat.ble s.n 1000000000 then match Zbq P T s fn.results.toList with
  | some [v] => some (v, live.map s.h.get, s.ob)
  | some vs => some (.tuple vs.toArray, live.map s.h.get, s.ob)
  | none => none
  else none
 | none => none
end
theorem Zuz {live temps : List Nat} {r : Option (Tr Value × St)} {tv : List (Option Value)} {bl : List (Option AObj)} {ob : List (Bool × Bool)} (h : Zvq live temps r = some (tv, bl, ob)) : ∃ T s, r = some (T, s) ∧ temps.map T.get = tv ∧ live.map s.h.get = bl ∧ s.ob = ob ∧ s.n ≤ far := by
 unfold Zvq at h
 split at h
 ·rename_i T s
  obtain ⟨hn, h⟩ := Zl h
  injection h with h
  simp only [Prod.mk.injEq] at h
  obtain ⟨rfl, rfl, rfl⟩ := h
  exact ⟨T, s, rfl, rfl, rfl, rfl, Nat.le_of_ble_eq_true hn⟩
 ·cases h
theorem Zl9 {live temps : List Nat} {ys : List Tmp} {r : Option (Ex × Tr Value × St × List Tmp × Option Ex)} {e : Ex} {tv : List (Option Value)} {bl : List (Option AObj)} {ob : List (Bool × Bool)} (h : Zng live temps ys r = some (e, tv, bl, ob)) :
  ∃ T s ys', r = some (e, T, s, ys', none) ∧ (∀ t ∈ ys, t ∈ ys') ∧ temps.map T.get = tv ∧ live.map s.h.get = bl ∧ s.ob = ob ∧ s.n ≤ far := by
 unfold Zng at h
 split at h
 ·rename_i e T s ys'
  obtain ⟨hn, h⟩ := Zl h
  simp only [Bool.and_eq_true] at hn
  injection h with h
  simp only [Prod.mk.injEq] at h
  obtain ⟨rfl, rfl, rfl, rfl⟩ := h
  exact ⟨T, s, ys', rfl, fun t ht => ZeU.1 (ZB hn.2 t ht), rfl, rfl, rfl, Nat.le_of_ble_eq_true hn.1⟩
 ·cases h
theorem Zu0 {P : Program} {fn : Func} {live : List Nat} {r : Option (Ex × Tr Value × St)} {u : Value} {bl : List (Option AObj)} {ob : List (Bool × Bool)} (h : Zvr P fn live r = some (u, bl, ob)) :
  ∃ e T s, r = some (e, T, s) ∧ (e = .normal ∨ e = .ret) ∧ (match Zbq P T s fn.results.toList with | some [v] => some v | some vs => some (.tuple vs.toArray) | none => none) = some u ∧ live.map s.h.get = bl ∧ s.ob = ob ∧ s.n ≤ far := by
 unfold Zvr at h
 split at h
 ·cases h
 ·rename_i e T s hne
  obtain ⟨hn, h⟩ := Zl h
  refine ⟨e, T, s, rfl, ?_, ?_⟩
  ·cases e with
   | normal => exact .inl rfl
   | ret => exact .inr rfl
   | exit i => exact (hne i rfl).elim
  ·split at h
   ·rename_i v hr
    injection h with h; simp only [Prod.mk.injEq] at h; obtain ⟨rfl, rfl, rfl⟩ := h
    exact ⟨rfl, rfl, rfl, Nat.le_of_ble_eq_true hn⟩
   ·rename_i vs hv hr
    injection h with h; simp only [Prod.mk.injEq] at h; obtain ⟨rfl, rfl, rfl⟩ := h
    exact ⟨rfl, rfl, rfl, Nat.le_of_ble_eq_true hn⟩
   ·cases h
 ·cases h
section
variable {P : Program} {ext : FuncId → Option Ext}
theorem Zvs (F : Fit P ext) {nt fu : Nat} : ∀ (l : List Code) (T : Tr Value) (s : St) (T' : Tr Value) (s' : St), evL P ext nt fu l T s = some (T', s') → Up s s'
 | [], T, s, T', s', h => by
  simp only [evL] at h
  injection h with h; simp only [Prod.mk.injEq] at h; obtain ⟨rfl, rfl⟩ := h; exact Up.refl _
 | c :: l, T, s, T', s', h => by
  simp only [evL] at h
  split at h
  ·rename_i T1 s1 h1
   exact ((Zb0 (P := P) (ext := ext) (fun f g hg => (F.hp f g hg).up) fu).1 _ _ _ _ _ _ _ h1).trans (Zvs F l _ _ _ _ h)
  ·cases h
theorem ZsN (F : Fit P ext) {nt fu : Nat} {c2 : Code} {Q : Exit → Act → World → Prop} : ∀ (l : List Code) (T : Tr Value) (s : St) (T' : Tr Value) (s' : St), evL P ext nt fu l T s = some (T', s') → (∀ p ∈ s'.ob, p.1 = p.2) → ∀ ι D a w, TR ι nt D T a → Emb P ι s.h.get w → Fresh ι s.n s'.n →
  (∀ ι' a' w', Step P ι s.h.get w ι' s'.h.get w' → Dom ι ι' s.n s'.n → TR ι' nt D T' a' → c2.wpIn (Fr none) 0 P Q a' w') → (Zvp l c2).wpIn (Fr none) 0 P Q a w
 | [], T, s, T', s', h, ho, ι, D, a, w, hT, he, hf, k => by
  simp only [evL] at h
  injection h with h; simp only [Prod.mk.injEq] at h; obtain ⟨rfl, rfl⟩ := h
  exact k ι a w (Step.refl he) Dom.refl hT
 | c :: l, T, s, T', s', h, ho, ι, D, a, w, hT, he, hf, k => by
  simp only [evL] at h
  split at h
  ·rename_i T1 s1 h1
   have u1 := (Zb0 (P := P) (ext := ext) (fun f g hg => (F.hp f g hg).up) fu).1 _ _ _ _ _ _ _ h1
   have u2 := Zvs F l _ _ _ _ h
   refine wpIn_seq ((wpIn_wide (n := 0)).2 (wp_mono ((Zck F fu).1 nt c T s .normal T1 s1 h1 (Za3 u2.ob ho) ι D a w hT he (hf.mono (Nat.le_refl _) u2.n)) ?_))
   rintro ex a1 w1 ⟨rfl, ι1, g1, g2, g3⟩
   exact ZsN F l T1 s1 T' s' h ho ι1 D a1 w1 g3 g1.emb (hf.after g2 u1.n) fun ι' a' w' k1 k2 k3 => k ι' a' w' (g1.trans k1) (g2.trans k2 u1.n u2.n) k3
  ·cases h
instance (k : Nat) : Decidable (ZH k) := by unfold ZH; infer_instance
theorem Zwc {ι ι2 : Ren} {v v' : Value} (h : VR ι v v') : ∃ u, VR ι2 u v' := by
 have arr : ∀ {a a' : Array Value}, a.size = a'.size → (∀ (i : Nat) x y, a[i]? = some x → a'[i]? = some y → ∃ u, VR ι2 u y) → ∃ c : Array Value, c.size = a'.size ∧ ∀ (i : Nat) x y, c[i]? = some x → a'[i]? = some y → VR ι2 x y := fun {a a'} hs hx => by
  have each : ∀ i : _root_.Fin a'.size, ∃ u, VR ι2 u a'[i] := fun i => hx i a[i] a'[i] (Array.getElem?_eq_getElem (by omega)) (Array.getElem?_eq_getElem i.2)
  refine ⟨Array.ofFn fun i => (each i).choose, by simp, fun i x y h1 h2 => ?_⟩
  obtain ⟨hlt, rfl⟩ := Array.getElem?_eq_some_iff.1 h2
  rw [Array.getElem?_ofFn, dif_pos hlt] at h1
  injection h1 with h1
  subst h1
  exact (each ⟨i, hlt⟩).choose_spec
 induction h with
 | atom h => exact ⟨_, .atom h⟩
 | glob h => exact ⟨.chan (some 0), .glob h⟩
 | ptr h => exact ⟨.chan (some 0), .glob rfl⟩
 | map h => exact ⟨.chan (some 0), .glob rfl⟩
 | slice h hn hc hq => exact ⟨.chan (some 0), .glob rfl⟩
 | slice0 h => exact ⟨.chan (some 0), .glob rfl⟩
 | mptr h => exact ⟨.chan (some 0), .glob rfl⟩
 | mslice h hn hc => exact ⟨.chan (some 0), .glob rfl⟩
 | func hs ht h1 h2 => exact ⟨.chan (some 0), .glob rfl⟩
 | agg hs h1 ih =>
  obtain ⟨c, q1, q2⟩ := arr hs ih
  exact ⟨_, .agg q1 q2⟩
 | tuple hs h1 ih =>
  obtain ⟨c, q1, q2⟩ := arr hs ih
  exact ⟨_, .tuple q1 q2⟩
def ZdC (m : Nat) : Nat → Value → Bool
 | d + 1, .agg cs => Zt (ZdC m d) cs.toList
 | d + 1, .tuple cs => Zt (ZdC m d) cs.toList
 | d + 1, .func _ a b => Zt (ZdC m d) a.toList && Zt (ZdC m d) b.toList
 | _, .pointer (some ⟨k, _, none⟩) => Nat.blt k m
 | _, .slice (some ⟨k, _, none⟩) _ _ => Nat.blt k m
 | _, .map (some k) => Nat.blt k m
 | _, v => atom v
theorem VR.cut {ι ι2 : Ren} {m : Nat} (hι : ∀ k b, k < m ∨ ZH k → ι k = some b → ι2 k = some b) : ∀ (d : Nat) (v v' : Value), VR ι v v' → ZdC m d v = true → VR ι2 v v'
 | d, v, v', h, hd => by
  cases h with
  | atom h => exact .atom h
  | glob h => exact .glob h
  | ptr h => cases d <;> exact .ptr (hι _ _ (.inl (Nat.le_of_ble_eq_true hd)) h)
  | map h => cases d <;> exact .map (hι _ _ (.inl (Nat.le_of_ble_eq_true hd)) h)
  | slice h hn hc hq => cases d <;> exact .slice (hι _ _ (.inl (Nat.le_of_ble_eq_true hd)) h) hn hc hq
  | slice0 h => exact .slice0 h
  | mptr h => exact .mptr (hι _ _ (.inr (Zb8 _ _ _)) h)
  | mslice h hn hc => exact .mslice (hι _ _ (.inr (Zb8 _ _ _)) h) hn hc
  | func hs ht h1 h2 =>
   rename_i fn a a' b b'
   cases d with
   | zero =>
    have ha : Ev.atom (.func fn a b) = true := hd
    have e := VR.eq_of_atom ha (.func hs ht h1 h2)
    rw [e]
    exact .atom ha
   | succ d =>
    simp only [ZdC, Bool.and_eq_true] at hd
    exact .func hs ht (fun i x y hx hy => VR.cut hι d x y (h1 i x y hx hy) (Za1 hd.1 i x hx)) (fun i x y hx hy => VR.cut hι d x y (h2 i x y hx hy) (Za1 hd.2 i x hx))
  | agg hs h1 =>
   cases d with
   | zero => simp [ZdC, Ev.atom] at hd
   | succ d =>
    simp only [ZdC] at hd
    exact .agg hs fun i x y hx hy => VR.cut hι d x y (h1 i x y hx hy) (Za1 hd i x hx)
  | tuple hs h1 =>
   cases d with
   | zero => simp [ZdC, Ev.atom] at hd
   | succ d =>
    simp only [ZdC] at hd
    exact .tuple hs fun i x y hx hy => VR.cut hι d x y (h1 i x y hx hy) (Za1 hd i x hx)
theorem VR.cutU {ι ι2 : Ren} {m : Nat} (hι : ∀ k b, k < m ∨ ZH k → ι k = some b → ι2 k = some b) : ∀ (d : Nat) (v v' : Value), VR ι v v' → Zau m d v = true → VR ι2 v v'
 | d, v, v', h, hd => by
  cases h with
  | atom h => exact .atom h
  | glob h => exact .glob h
  | ptr h => cases d <;> exact .ptr (hι _ _ (.inl (Nat.le_of_ble_eq_true hd)) h)
  | map h => cases d <;> exact .map (hι _ _ (.inl (Nat.le_of_ble_eq_true hd)) h)
  | slice h hn hc hq => cases d <;> exact .slice (hι _ _ (.inl (Nat.le_of_ble_eq_true hd)) h) hn hc hq
  | slice0 h => exact .slice0 h
  | mptr h => exact .mptr (hι _ _ (.inr (Zb8 _ _ _)) h)
  | mslice h hn hc => exact .mslice (hι _ _ (.inr (Zb8 _ _ _)) h) hn hc
  | func hs ht h1 h2 =>
   rename_i fn a a' b b'
   have ha : Ev.atom (.func fn a b) = true := by cases d <;> exact hd
   have e := VR.eq_of_atom ha (.func hs ht h1 h2)
   rw [e]
   exact .atom ha
  | agg hs h1 =>
   cases d with
   | zero => simp [Zau, Ev.atom] at hd
   | succ d =>
    simp only [Zau] at hd
    exact .agg hs fun i x y hx hy => VR.cutU hι d x y (h1 i x y hx hy) (Za1 hd i x hx)
  | tuple hs h1 =>
   cases d with
   | zero => simp [Zau, Ev.atom] at hd
   | succ d =>
    simp only [Zau] at hd
    exact .tuple hs fun i x y hx hy => VR.cutU hι d x y (h1 i x y hx hy) (Za1 hd i x hx)
def ZeW (m : Nat) : List (Option AObj) → Prop
 | [] => True
 | o :: l => (match o with | some x => Zft m x = true | none => True) ∧ ZeW m l
theorem Zob {m : Nat} : ∀ {H : List (Option AObj)}, ZeW m H → ∀ k o, lkO H k = some o → Zft m o = true
 | [], _, k, o, hk => by simp [lkO] at hk
 | x :: H, h, 0, o, hk => by
  have e : x = some o := by simpa [lkO] using hk
  subst e
  exact h.1
 | x :: H, h, k + 1, o, hk => Zob h.2 k o (by simpa [lkO] using hk)
theorem ZwA {nt m n0 : Nat} {lt : List (Nat × Value)} {H : List (Option AObj)} {gv : Nat → Value} {ι0 ι : Ren} {h0 : AH} {w0 w : World} {a : Act} (hm : H.length ≤ m) (hn : n0 ≤ m) (hd : ∀ k, ι0 k ≠ none → k < n0 ∨ ZH k)
  (hu : ∀ x ∈ lt, ZdC m 3 x.2 = true) (hUA : ZeW m H) (hT : TR ι nt [] (tmps nt (fun t => ZQ t lt) gv) a) (hS : Step P ι0 h0 w0 ι (ZbK 0 H).get w) :
  ∃ gv', TR (fun k => if k < m ∨ ZH k then ι k else none) nt [] (tmps nt (fun t => ZQ t lt) gv') a ∧ Step P ι0 h0 w0 (fun k => if k < m ∨ ZH k then ι k else none) (ZbK 0 H).get w := by
 have hι : ∀ k b, k < m ∨ ZH k → ι k = some b → (fun k => if k < m ∨ ZH k then ι k else none) k = some b := fun k b hk hb => by
  show (if k < m ∨ ZH k then ι k else none) = some b
  rw [if_pos hk]; exact hb
 have hb : ∀ k b, (fun k => if k < m ∨ ZH k then ι k else none) k = some b → (k < m ∨ ZH k) ∧ ι k = some b := fun k b h => by
  have h : (if k < m ∨ ZH k then ι k else none) = some b := h
  by_cases hk : k < m ∨ ZH k
  ·rw [if_pos hk] at h; exact ⟨hk, h⟩
  ·rw [if_neg hk] at h; cases h
 have hH : ∀ k, ((ZbK 0 H).get k).isSome → k < m := fun k hk => by
  rw [ZhM] at hk
  unfold lkO at hk
  cases hx : H[k]? with
  | none => rw [hx] at hk; cases hk
  | some o => have := (List.getElem?_eq_some_iff.1 hx).1; omega
 have hall : ∀ t, ∃ u, VR (fun k => if k < m ∨ ZH k then ι k else none) u (a.tmps.getD t undef) := fun t => Zwc (hT.2.2 t)
 refine ⟨fun t => (hall t).choose, ⟨hT.1, hT.2.1, fun t => ?_⟩, ?_⟩
 ·have h1 := hT.2.2 t
  rw [ZhG] at h1 ⊢
  by_cases ht : t < nt
  ·rw [if_pos ht] at h1 ⊢
   cases hl : ZQ t lt with
   | none => exact (hall t).choose_spec
   | some v =>
    simp only [hl] at h1
    exact VR.cut hι 3 _ _ h1 (hu (t, v) (Zgw hl))
  ·rw [if_neg ht] at h1 ⊢
   have : a.tmps.getD t undef = undef := by
    have := hT.1
    simp [Array.getD, show ¬ t < a.tmps.size by omega]
   rw [this]
   exact VR.undef'
 ·refine ⟨fun k b h => hι k b ((hd k (by rw [h]; simp)).imp (fun q => by omega) id) (hS.ext k b h), ⟨fun k c t q hk => ?_, fun k O hk => ?_, fun k k' b b' h1 h2 h3 h4 h5 => hS.emb.inj k k' b b' h1 h2 (hb k b h3).2 (hb k' b' h4).2 h5, fun k b h => hS.emb.lt k b (hb k b h).2, fun b base id q hq => by
   obtain ⟨_, hq'⟩ := hb _ _ hq
   obtain ⟨m1, m2, m3⟩ := hS.emb.mks b base id q hq'
   exact ⟨m1, ⟨m2.1.on (fun b' base' id' q' h => hι _ _ (.inr (Zb8 _ _ _)) h), fun o c hc => hι _ _ (.inr (Zb8 _ _ _)) (m2.2 o c hc)⟩, fun k d hk hd => m3 k d hk (hb k d hd).2⟩, fun x hx => (hS.emb.tb x hx).imp fun q hq => hι _ _ (.inr (Zb8 x.1 0 (code x.2))) hq⟩, hS.os, hS.tape, hS.output, hS.size, hS.frame, fun k b h1 h2 => hS.new k b h1 (hb k b h2).2, hS.alive, hS.kind⟩
  ·obtain ⟨b, q1, hz⟩ := hS.emb.obj k c t q hk
   have hcs : Zt (Zau m 1) c = true := Zob hUA k (.cells c t q) (by rw [← ZhM]; exact hk)
   exact ⟨b, hι k b (.inl (hH k (by rw [hk]; rfl))) q1, hz.imp id fun ⟨q0, C, q2⟩ => ⟨q0, C, q2.1, ⟨q2.2.1.1, fun i x y hx hy => VR.cutU hι 1 x y (q2.2.1.2 i x y hx hy) (ZB hcs x (List.mem_of_getElem? hx))⟩, q2.2.2⟩⟩
  ·obtain ⟨b, q1, q2⟩ := hS.emb.ro k O hk
   exact ⟨b, hι k b (.inl (hH k (by rw [hk]; rfl))) q1, q2⟩
theorem Zrz {nt fu : Nat} {c : Code} : ∀ (l : List Code) (T : Tr Value) (s : St) (T' : Tr Value) (s' : St), evL P ext nt fu (l ++ [c]) T s = some (T', s') → ∃ T1 s1, evL P ext nt fu l T s = some (T1, s1) ∧ ZR P ext nt fu c T1 s1 = some (.normal, T', s')
 | [], T, s, T', s', h => by
  simp only [List.nil_append, evL] at h
  split at h
  ·rename_i T1 s1 h1
   injection h with h; simp only [Prod.mk.injEq] at h; obtain ⟨rfl, rfl⟩ := h
   exact ⟨T, s, rfl, h1⟩
  ·cases h
 | a :: l, T, s, T', s', h => by
  simp only [List.cons_append, evL] at h
  split at h
  ·rename_i T1 s1 h1
   obtain ⟨T2, s2, h2, h3⟩ := Zrz l T1 s1 T' s' h
   refine ⟨T2, s2, ?_, h3⟩
   simp only [evL]
   rw [h1]
   exact h2
  ·cases h
theorem Zoc (F : Fit P ext) {f : FuncId} {fn : Func} {cs : List Code} {c5 tail asg body : Code} {id0 : Nat} {g : Operand} {ps : Array Tmp} {A : Array Value} {pre : List AObj} {v : Value} {post : List (Option AObj)}
  (hfn : P.funcs[f]? = some fn) (hb : fn.body = some (Zvp cs (.seq (.seq c5 (.block id0 (.rangeFunc g ps asg body))) tail))) (hA : Nat.ble A.size fn.ntmps = true) (hle : post.length ≤ far)
  (lt5 : List (Nat × Value)) (H5 : List (Option AObj)) {fu1 : Nat} {orc1 : Orc} {live1 : List Nat} {tv1 : List (Option Value)} {bl1 : List (Option AObj)} {ob1 : List (Bool × Bool)}
  (h1 : Zvq live1 (lt5.map (·.1)) (evL P ext fn.ntmps fu1 (cs ++ [c5]) (ZcY 0 A.toList .nil) ⟨ZcZ 0 pre, pre.length, [], orc1, []⟩) = some (tv1, bl1, ob1)) (o1 : ∀ p ∈ ob1, p.1 = p.2) (l1 : live1.length = H5.length) (nd1 : live1.Nodup) (k1 : Zbj pre.length live1 = true) (t1 : ZcG (rho live1 far) tv1 lt5) (b1 : Zx (rho live1 far) bl1 H5)
  (hm5 : H5.length ≤ far) (hp5 : pre.length ≤ H5.length) (u5 : ∀ x ∈ lt5, ZdC H5.length 3 x.2 = true) (ua5 : ZeW H5.length H5)
  {gf id : Nat} {av bv : Array Value} {fnI : Func} {cA cB : Code} (hg : ∀ gv, opnd (tmps fn.ntmps (fun t => ZQ t lt5) gv) g = .func (.func gf) av bv) (hgd : Zd3 g = true) (hfnI : P.funcs[gf]? = some fnI) (hbI : fnI.body = some (.seq cA (.block id (.loop cB))))
  (hszI : Nat.ble (av ++ #[Value.chan (some 0)] ++ bv).size fnI.ntmps = true) (hresI : fnI.results.toList = [])
  {X R : Type} (step : X → Option (X ⊕ R)) (L : X → List (Nat × Value)) (H : X → List (Option AObj)) {m : Nat} (hHm : ∀ x, (H x).length = m) (hm : m ≤ far) (ys : List Tmp) (HF : List (Option AObj)) (hmf : HF.length ≤ far)
  (r : R) (x0 : X) (N : Nat) (hit : Zbn step N x0 = some r)
  (hAe : ∀ gv, ∃ fu orc live tv bl ob, Zng live ((L x0).map (·.1)) ys (evI P ext fnI.ntmps ⟨fn.ntmps, tmps fn.ntmps (fun t => ZQ t lt5) gv, ps, asg, body⟩ fu cA (ZcY 0 (av ++ #[Value.chan (some 0)] ++ bv).toList .nil) ⟨ZbK 0 H5, H5.length, [], orc, []⟩ [av.size] none) = some (.normal, tv, bl, ob) ∧ (∀ p ∈ ob, p.1 = p.2) ∧ live.length = m ∧ live.Nodup ∧ Zbj H5.length live = true ∧ ZcG (rho live far) tv (L x0) ∧ Zx (rho live far) bl (H x0))
  (hBx : ∀ x o, step x = some o → ∀ gv gvc, match o with
   | .inl y => ∃ fu orc live tv bl ob, Zng live ((L y).map (·.1)) ys (evI P ext fnI.ntmps ⟨fn.ntmps, tmps fn.ntmps (fun t => ZQ t lt5) gvc, ps, asg, body⟩ fu cB (tmps fnI.ntmps (fun t => ZQ t (L x)) gv) ⟨ZbK 0 (H x), m, [], orc, []⟩ ys none) = some (.normal, tv, bl, ob) ∧ (∀ p ∈ ob, p.1 = p.2) ∧ live.length = m ∧ live.Nodup ∧ Zbj H5.length live = true ∧ ZcG (rho live far) tv (L y) ∧ Zx (rho live far) bl (H y)
   | .inr r' => r' = r → ∃ fu orc live bl ob, Zng live [] ys (evI P ext fnI.ntmps ⟨fn.ntmps, tmps fn.ntmps (fun t => ZQ t lt5) gvc, ps, asg, body⟩ fu cB (tmps fnI.ntmps (fun t => ZQ t (L x)) gv) ⟨ZbK 0 (H x), m, [], orc, []⟩ ys none) = some (.exit id, [], bl, ob) ∧ (∀ p ∈ ob, p.1 = p.2) ∧ live.length = HF.length ∧ live.Nodup ∧ Zbj H5.length live = true ∧ Zx (rho live far) bl HF)
  (hTl : ∀ gv, ∃ fu orc live u bl ob, Zvr P fn live (ZR P ext fn.ntmps fu tail (tmps fn.ntmps (fun t => ZQ t lt5) gv) ⟨ZbK 0 HF, HF.length, [], orc, []⟩) = some (u, bl, ob) ∧ (∀ p ∈ ob, p.1 = p.2) ∧ live.length = post.length ∧ live.Nodup ∧ Zbj pre.length live = true ∧ (v = ZT (rho live far) 3 u ∧ Z9 3 u = true) ∧ Zx (rho live far) bl post) :
  LSpec P f A pre v post := by
 intro ι w args' hd ha he
 refine (callsIn_wide (n := 0)).1 (callsIn_of_wp_marks hfn hb trivial ?_)
 obtain ⟨T5, s5, e5, rfl, rfl, rfl, n5⟩ := Zuz h1
 obtain ⟨T4, s4, e4, e5'⟩ := Zrz cs _ _ _ _ e5
 have u4 := Zvs F cs _ _ _ _ e4
 have u5' := (Zb0 (P := P) (ext := ext) (fun f g hg => (F.hp f g hg).up) fu1).1 _ _ _ _ _ _ _ e5'
 have hfr : Fresh ι pre.length s5.n := ⟨n5, fun k h1 h2 => by
  cases hk : ι k with
  | none => rfl
  | some b => exact absurd (hd k (by rw [hk]; simp)) (by have h3 : pre.length ≤ k := h1; have h4 : s5.n ≤ 1000000000 := n5; unfold ZH; omega)⟩
 refine ZsN F cs _ _ T4 s4 e4 (Za3 u5'.ob o1) ι [] _ w (ZfI ha (Nat.le_of_ble_eq_true hA)) (by show Emb P ι (ZcZ 0 pre).get w; rw [ZdK]; exact he) (hfr.mono (Nat.le_refl _) u5'.n) ?_
 intro ι4 a4 w4 g1 g2 g3
 refine wpIn_seq (wpIn_seq ((wpIn_wide (n := 0)).2 (wp_mono ((Zck F fu1).1 fn.ntmps c5 T4 s4 .normal T5 s5 e5' o1 ι4 [] a4 w4 g3 g1.emb (hfr.after g2 u4.n)) ?_)))
 rintro ex a5 w5 ⟨rfl, ι5, k2, k3, k4⟩
 have S5 : Step P ι (lk pre) w ι5 s5.h.get w5 := by
  have := g1.trans k2
  simp only [ZdK] at this
  exact this
 have hi := Zf7 (nt := fn.ntmps) l1 nd1 t1 b1
 obtain ⟨gv0, ι6, a1, a2, a3, _⟩ := ZjY k4 S5 live1 H5.length far rfl (ZhH k1) hi.1 hm5 hi.2.1 (fun k hk2 => (hd k hk2).imp (Zhp k1) (fun q => q)) (fun t => ZQ t lt5) hi.2.2.1 (ZbK 0 H5).get hi.2.2.2
 obtain ⟨gv, TRc, Sc⟩ := ZwA (Nat.le_refl H5.length) hp5 hd u5 ua5 a1 a2
 have hdc : ∀ k, (fun k => if k < H5.length ∨ ZH k then ι6 k else none) k ≠ none → k < H5.length ∨ ZH k := fun k hk => by
  by_cases h : k < H5.length ∨ ZH k
  ·exact h
  ·exact absurd (if_neg h) hk
 obtain ⟨fuA, orcA, liveA, tvA, blA, obA, hevA, hoA, hlA, hndA, hkA, htA, hbA⟩ := hAe gv
 obtain ⟨TA, sA, ysA, eA, hyA, rfl, rfl, rfl, nA⟩ := Zl9 hevA
 refine wpIn_block (wpIn_mono (Zwb F (h := ZbK 0 H5) (n1 := H5.length) (m := m) (mf := HF.length) TRc Sc.emb hdc (hg gv) hgd hfnI hbI hszI hresI hm hmf (X := {p : X × Nat // Zbn step p.2 p.1 = some r}) (fun p => fun t => ZQ t (L p.1.1)) (fun p => ZbK 0 (H p.1.1)) (fun p => p.1.2) ⟨(x0, N), hit⟩ ys (ZbK 0 HF) eA hyA hoA nA (Zf7 hlA hndA htA hbA) hkA ?_) ?_)
 ·rintro ⟨⟨x, n⟩, hn⟩ gvx
  simp only at hn ⊢
  cases n with
  | zero => cases hn
  | succ n =>
   rw [Zbn] at hn
   cases hs : step x with
   | none => rw [hs] at hn; cases hn
   | some o =>
    rw [hs] at hn
    have hx := hBx x o hs gvx gv
    cases o with
    | inl y =>
     obtain ⟨fu, orc, live, tv, bl, ob, hev, hob, hl, hnd, hk, ht, hbl⟩ := hx
     obtain ⟨T', s', ys', e', hy', rfl, rfl, rfl, n'⟩ := Zl9 hev
     exact ⟨fu, orc, .normal, T', s', ys', live, e', hy', hob, n', hk, .inl ⟨rfl, ⟨(y, n), hn⟩, Nat.lt_succ_self _, Zf7 (hl.trans rfl) hnd ht hbl⟩⟩
    | inr r' =>
     have hr : r' = r := by simpa using hn
     obtain ⟨fu, orc, live, bl, ob, hev, hob, hl, hnd, hk, hbl⟩ := hx hr
     obtain ⟨T', s', ys', e', hy', _, rfl, rfl, n'⟩ := Zl9 hev
     refine ⟨fu, orc, .exit id, T', s', ys', live, e', hy', hob, n', hk, .inr ⟨rfl, ?_⟩⟩
     have := Zf7 (nt := fnI.ntmps) (T := T') (lt := []) hl hnd trivial hbl
     exact this
 ·rintro ex a6 w6 ⟨rfl, ι7, K, q1, q2, q3, q4, q5, q6⟩
  obtain ⟨fuT, orcT, liveT, u, blT, obT, hevT, hoT, hlT, hndT, hkT, hvT, hbT⟩ := hTl gv
  obtain ⟨e3, T3, s3, eT, he3, hres, rfl, rfl, nT⟩ := Zu0 hevT
  show tail.wpIn (Fr none) 0 P _ a6 w6
  refine (wpIn_wide (n := 0)).2 (wp_mono ((Zck F fuT).1 fn.ntmps tail _ ⟨ZbK 0 HF, HF.length, [], orcT, []⟩ e3 T3 s3 eT hoT ι7 _ a6 w6 q4 q1.emb ⟨nT, fun k h1 h2 => q2 k h1 (by omega)⟩) ?_)
  rintro ex a7 w7 ⟨rfl, ι8, r1, r2, r3⟩
  obtain ⟨p1, p2⟩ := Zka r1 (Array.getElem?_eq_some_iff.1 q5).1 q6
  have S8 : Step P ι (lk pre) w ι8 s3.h.get (w7.putObj K (.deferred none)) := ((Sc.trans q1).trans r1).put (Nat.le_trans Sc.size q3) p1 _
  have fin : LeavesInM (Fr none) 0 P fn a7.tmps (Fin P ι pre w v post) a7.defers .returning w7 := by
   rw [r3.2.1]
   obtain ⟨v', hrun, hv⟩ := Zdg r3 S8.emb hres
   exact ⟨by simp, .inl ⟨K, _, rfl, run_takeDeferred (p2.trans q5), v', hrun, Zly hle hd ⟨hlT, hndT, hkT, hvT, Zd9 hbT⟩ S8 hv⟩⟩
  rcases he3 with rfl | rfl
  ·exact fin
  ·exact fin
end
section
variable {P : Program} {ext : FuncId → Option Ext}
set_option linter.unusedVariables false
end
end Ev
end Go.Proofs.Ytomkpfibofpkbaa
namespace Go.Proofs.Ytomkpfibofpkbaa
open Go.IntKind (i64)
open Go.RowKit
namespace Ev
set_option linter.unusedVariables false
structure RF where
 a0 : Int
 a1 : Int
def RF.z : RF := ⟨0, 0⟩
structure RG where
 a0 : Int
 a1 : Int
 a2 : Int
 a3 : Int
 a4 : Int
def RG.z : RG := ⟨0, 0, 0, 0, 0⟩
abbrev hw (L : List RG) (W : Nat → List Int) (k : Nat) : RG := L.getD (iw W k).toNat RG.z
structure RH where
 a0 : Int
 a1 : Int
 a2 : Int
 a3 : Int
 a4 : Int
 a5 : Int
 a6 : Int
 a7 : List RF
def RH.z : RH := ⟨0, 0, 0, 0, 0, 0, 0, []⟩
structure RI where
 a0 : Int
 a1 : Int
 a2 : Int
 a3 : Int
 a4 : Int
 a5 : Int
 a6 : Int
 a7 : Int
 a8 : List RF
def RI.z : RI := ⟨0, 0, 0, 0, 0, 0, 0, 0, []⟩
structure RJ where
 a0 : Int
 a1 : Int
 a2 : Int
 a3 : Int
 a4 : Int
 a5 : Bool
 a6 : Int
 a7 : Int
 a8 : Int
 a9 : Int
def RJ.z : RJ := ⟨0, 0, 0, 0, 0, false, 0, 0, 0, 0⟩
inductive Zbk where
 | r0 (w1 : List RF)

inductive Zah where
 | h1m0 (v1 : List RF) (v4 : Nat)

def Zb9 (a0 : Int) (a1 : Int) (a2 : Int) (a3 : Int) (a4 : Int) (a5 : Int) (a6 : Int) (L7 : List RG) (L8 : List RF) (N : Nat) (v1 : List RF) (v4 : Nat) : Option (Zah ⊕ Zbk) :=
 if (v4 : Int) < a2 then
  if (v4 : Int) ≤ (64 : Int) then
   if ((a3 / (2 ^ v4 : Int)) % (2 : Int)) = (1 : Int) then
    if (0 : Int) ≤ (i64.wrap (a0 + (v4 : Int))) then
     if ((i64.wrap (a0 + (v4 : Int)))).toNat < v1.length then
      some (.inl (.h1m0 ((v1.set ((i64.wrap (a0 + (v4 : Int)))).toNat (⟨(2 : Int), (0 : Int)⟩ : RF))) ((v4 + 1)) : Zah))
     else
     none
    else
    none
   else
   if (0 : Int) ≤ (i64.wrap (a0 + (v4 : Int))) then
    if ((i64.wrap (a0 + (v4 : Int)))).toNat < v1.length then
     some (.inl (.h1m0 ((v1.set ((i64.wrap (a0 + (v4 : Int)))).toNat (⟨(1 : Int), (0 : Int)⟩ : RF))) ((v4 + 1)) : Zah))
    else
    none
   else
   none
  else
  none
 else
 some (.inr (.r0 (v1) : Zbk))

def ZbR (a0 : Int) (a1 : Int) (a2 : Int) (a3 : Int) (a4 : Int) (a5 : Int) (a6 : Int) (L7 : List RG) (L8 : List RF) (N : Nat) : Zah → Option (Zah ⊕ Zbk)
 | .h1m0 v1 v4 => Zb9 a0 a1 a2 a3 a4 a5 a6 L7 L8 N v1 v4

def Zev (a0 : Int) (a1 : Int) (a2 : Int) (a3 : Int) (a4 : Int) (a5 : Int) (a6 : Int) (L7 : List RG) (L8 : List RF) (N : Nat) : Option (Zah ⊕ Zbk) :=
 if (0 : Int) ≤ (i64.wrap (a0 - (1 : Int))) then
  if ((i64.wrap (a0 - (1 : Int)))).toNat < L7.length then
   some (.inl (.h1m0 (L8) (0) : Zah))
  else
  none
 else
 none

def Zeb (a0 : Int) (a1 : Int) (a2 : Int) (a3 : Int) (a4 : Int) (a5 : Int) (a6 : Int) (L7 : List RG) (L8 : List RF) (N : Nat) : Option Zbk := goM (ZbR a0 a1 a2 a3 a4 a5 a6 L7 L8 N) N (Zev a0 a1 a2 a3 a4 a5 a6 L7 L8 N)

inductive ZdD where
 | r0 (w3 : List RF)

def ZbS (a0 : Int) (a1 : Int) (a2 : Int) (a3 : Int) (a4 : Int) (a5 : Int) (N : Nat) : Option ZdD :=
 if (0 : Int) < (i64.wrap (a1 + (1 : Int))) then
  if (i64.wrap (a1 + (1 : Int))) ≤ (100000 : Int) then
   ((Zeb ((1 : Int)) (a0) (a1) (a2) (a3) (a4) (a5) ((List.replicate ((i64.wrap (a1 + (1 : Int)))).toNat (⟨(0 : Int), (0 : Int), (0 : Int), (0 : Int), (0 : Int)⟩ : RG))) ((List.replicate ((i64.wrap (a1 + (1 : Int)))).toNat (⟨(0 : Int), (0 : Int)⟩ : RF))) N).bind fun r => match r with
   | .r0 y2_0 =>
    some (.r0 (y2_0) : ZdD)
   )
  else
  none
 else
 none

inductive ZeX where
 | r0
 | r1 (w3 : List RF)

def Zdw (a0 : Int) (N : Nat) : Option ZeX :=
 if a0 < (17 : Int) then
  some (.r0 : ZeX)
 else
 if (65536 : Int) < a0 then
  some (.r0 : ZeX)
 else
 ((ZbS ((1 : Int)) ((16 : Int)) ((255 : Int)) ((2 : Int)) ((0 : Int)) (a0) N).bind fun r => match r with
 | .r0 y2_0 =>
  some (.r1 (y2_0) : ZeX)
 )

inductive Zcb where
 | r0 (w0 : Int) (w1 : Int)

def Zag (a0 : Int) (a1 : Int) (N : Nat) : Option Zcb :=
 if a0 < (1 : Int) then
  some (.r0 ((0 : Int)) ((0 : Int)) : Zcb)
 else
 if (1073741824 : Int) < a0 then
  some (.r0 ((0 : Int)) ((0 : Int)) : Zcb)
 else
 if a1 < (1 : Int) then
  some (.r0 ((0 : Int)) ((0 : Int)) : Zcb)
 else
 if (1048576 : Int) ≤ a1 then
  some (.r0 ((0 : Int)) ((0 : Int)) : Zcb)
 else
 some (.r0 ((2 : Int)) (((a0 * (1048576 : Int)) + a1)) : Zcb)

inductive ZaE where
 | r0
 | r1 (w0 : List RF)

inductive Zaa where
 | h1m0
 | h1m1 (v1 : Int) (v2 : List RF) (v3 : Nat)

def Zew (a0 : Int) (a1 : Int) (N : Nat) : Option (Zaa ⊕ ZaE) :=
 if (0 : Int) < a0 then
  if (0 : Int) ≤ a1 then
   if (a1 % (2 : Int)) = (1 : Int) then
    if (a1 / (2 : Int)) ≤ (9223372036854775807 : Int) then
     some (.inl (.h1m1 ((a1 / (2 : Int))) (([(⟨(2 : Int), (0 : Int)⟩ : RF)] : List RF)) (1) : Zaa))
    else
    none
   else
   if (a1 / (2 : Int)) ≤ (9223372036854775807 : Int) then
    some (.inl (.h1m1 ((a1 / (2 : Int))) (([(⟨(1 : Int), (0 : Int)⟩ : RF)] : List RF)) (1) : Zaa))
   else
   none
  else
  none
 else
 some (.inr (.r0 : ZaE))

def Zdx (a0 : Int) (a1 : Int) (N : Nat) (v1 : Int) (v2 : List RF) (v3 : Nat) : Option (Zaa ⊕ ZaE) :=
 if (v3 : Int) < a0 then
  if (0 : Int) ≤ v1 then
   if (v1 % (2 : Int)) = (1 : Int) then
    if v2.length ≤ 100000 then
     if (v1 / (2 : Int)) ≤ (9223372036854775807 : Int) then
      if (((v3 + 1) : Nat) : Int) ≤ (9223372036854775807 : Int) then
       some (.inl (.h1m1 ((v1 / (2 : Int))) ((v2 ++ ([(⟨(2 : Int), (0 : Int)⟩ : RF)] : List RF))) ((v3 + 1)) : Zaa))
      else
      none
     else
     none
    else
    none
   else
   if v2.length ≤ 100000 then
    if (v1 / (2 : Int)) ≤ (9223372036854775807 : Int) then
     if (((v3 + 1) : Nat) : Int) ≤ (9223372036854775807 : Int) then
      some (.inl (.h1m1 ((v1 / (2 : Int))) ((v2 ++ ([(⟨(1 : Int), (0 : Int)⟩ : RF)] : List RF))) ((v3 + 1)) : Zaa))
     else
     none
    else
    none
   else
   none
  else
  none
 else
 some (.inr (.r1 (v2) : ZaE))

def Zb5 (a0 : Int) (a1 : Int) (N : Nat) : Zaa → Option (Zaa ⊕ ZaE)
 | .h1m0 => Zew a0 a1 N
 | .h1m1 v1 v2 v3 => Zdx a0 a1 N v1 v2 v3

def ZgY (a0 : Int) (a1 : Int) (N : Nat) : Option (Zaa ⊕ ZaE) :=
 some (.inl (.h1m0 : Zaa))

def ZbD (a0 : Int) (a1 : Int) (N : Nat) : Option ZaE := goM (Zb5 a0 a1 N) N (ZgY a0 a1 N)

inductive Zc1 where
 | r0
 | r1 (w1 : List RI)

def ZbT (a0 : Int) (N : Nat) : Option Zc1 :=
 if a0 < (17 : Int) then
  some (.r0 : Zc1)
 else
 if (65536 : Int) < a0 then
  some (.r0 : Zc1)
 else
 ((Zag ((1 : Int)) ((1 : Int)) N).bind fun r => match r with
 | .r0 y2_0 y2_1 =>
  ((ZbD ((16 : Int)) ((255 : Int)) N).bind fun r => match r with
  | .r0 =>
   none
  | .r1 y3_0 =>
   some (.r1 (([(⟨(1 : Int), y2_0, y2_1, (1 : Int), (16 : Int), (255 : Int), (2 : Int), (0 : Int), y3_0⟩ : RI)] : List RI)) : Zc1)
  )
 )

inductive Zcc where
 | r0 (w20 : Int) (w21 : Int)

def Zbx (a0 : Int) (a1 : Int) (a2 : Int) (a3 : Int) (a4 : Int) (b5 : Bool) (a6 : Int) (a7 : Int) (a8 : Int) (a9 : Int) (a10 : Int) (L11 : List RI) (L12 : List Int) (L13 : List RF) (a14 : Int) (L15 : List RG) (L16 : List RF) (W17 : Nat → List Int) (N : Nat) : Option Zcc :=
 if b5 = true then
  some (.r0 (a6) (a7) : Zcc)
 else
 if (L13.length : Int) = (0 : Int) then
  some (.r0 (a6) (a7) : Zcc)
 else
 if (-9223372036854775808 : Int) ≤ a4 then
  if a4 ≤ (9223372036854775807 : Int) then
   if (0 : Int) ≤ (Int.tmod a4 (L13.length : Int)) then
    if ((Int.tmod a4 (L13.length : Int))).toNat < L13.length then
     some (.r0 ((L13.getD ((Int.tmod a4 (L13.length : Int))).toNat RF.z).a0) ((L13.getD ((Int.tmod a4 (L13.length : Int))).toNat RF.z).a1) : Zcc)
    else
    none
   else
   none
  else
  none
 else
 none

inductive ZaR where
 | r0 (w1 : List RF)

inductive ZV where
 | h1m0 (v1 : List RF) (v21 : Nat)

def Zbo (a0 : Int) (a1 : Int) (a2 : Int) (a3 : Int) (a4 : Int) (a5 : Int) (a6 : Int) (L7 : List RG) (L8 : List RF) (W9 : Nat → List Int) (N : Nat) (v1 : List RF) (v21 : Nat) : Option (ZV ⊕ ZaR) :=
 if (v21 : Int) < a2 then
  if (v21 : Int) ≤ (64 : Int) then
   if ((a3 / (2 ^ v21 : Int)) % (2 : Int)) = (1 : Int) then
    if (0 : Int) ≤ (i64.wrap (a0 + (v21 : Int))) then
     if ((i64.wrap (a0 + (v21 : Int)))).toNat < v1.length then
      some (.inl (.h1m0 ((v1.set ((i64.wrap (a0 + (v21 : Int)))).toNat (⟨(2 : Int), (0 : Int)⟩ : RF))) ((v21 + 1)) : ZV))
     else
     none
    else
    none
   else
   if (0 : Int) ≤ (i64.wrap (a0 + (v21 : Int))) then
    if ((i64.wrap (a0 + (v21 : Int)))).toNat < v1.length then
     some (.inl (.h1m0 ((v1.set ((i64.wrap (a0 + (v21 : Int)))).toNat (⟨(1 : Int), (0 : Int)⟩ : RF))) ((v21 + 1)) : ZV))
    else
    none
   else
   none
  else
  none
 else
 some (.inr (.r0 (v1) : ZaR))

def Zby (a0 : Int) (a1 : Int) (a2 : Int) (a3 : Int) (a4 : Int) (a5 : Int) (a6 : Int) (L7 : List RG) (L8 : List RF) (W9 : Nat → List Int) (N : Nat) : ZV → Option (ZV ⊕ ZaR)
 | .h1m0 v1 v21 => Zbo a0 a1 a2 a3 a4 a5 a6 L7 L8 W9 N v1 v21

def ZdE (a0 : Int) (a1 : Int) (a2 : Int) (a3 : Int) (a4 : Int) (a5 : Int) (a6 : Int) (L7 : List RG) (L8 : List RF) (W9 : Nat → List Int) (N : Nat) : Option (ZV ⊕ ZaR) :=
 if (0 : Int) ≤ (i64.wrap (a0 - (1 : Int))) then
  if ((i64.wrap (a0 - (1 : Int)))).toNat < L7.length then
   some (.inl (.h1m0 (L8) (0) : ZV))
  else
  none
 else
 none

def Zbs (a0 : Int) (a1 : Int) (a2 : Int) (a3 : Int) (a4 : Int) (a5 : Int) (a6 : Int) (L7 : List RG) (L8 : List RF) (W9 : Nat → List Int) (N : Nat) : Option ZaR := goM (Zby a0 a1 a2 a3 a4 a5 a6 L7 L8 W9 N) N (ZdE a0 a1 a2 a3 a4 a5 a6 L7 L8 W9 N)

inductive ZdF where
 | r0 (w0 : Int) (w1 : Int) (w2 : Int)

def ZaS (a0 : Int) (a1 : Int) (N : Nat) : Option ZdF :=
 if (1 : Int) ≤ a0 then
  if a0 ≤ (1073741824 : Int) then
   if (1 : Int) ≤ a1 then
    if a1 ≤ (1048575 : Int) then
     some (.r0 ((2 : Int)) (((a0 * (1048576 : Int)) + a1)) ((0 : Int)) : ZdF)
    else
    some (.r0 ((0 : Int)) ((0 : Int)) ((1 : Int)) : ZdF)
   else
   some (.r0 ((0 : Int)) ((0 : Int)) ((1 : Int)) : ZdF)
  else
  some (.r0 ((0 : Int)) ((0 : Int)) ((1 : Int)) : ZdF)
 else
 some (.r0 ((0 : Int)) ((0 : Int)) ((1 : Int)) : ZdF)

inductive ZcH where
 | r0 (w19 : Int)

def Zav (a0 : Int) (L1 : List RG) (L2 : List RF) (W3 : Nat → List Int) (N : Nat) : Option ZcH :=
 if (0 : Int) < a0 then
  some (.r0 ((L1.length : Int)) : ZcH)
 else
 some (.r0 ((0 : Int)) : ZcH)

inductive ZcW where
 | r0 (w20 : List RF)

def ZaY (a0 : Int) (a1 : Int) (a2 : Int) (a3 : Int) (a4 : Int) (a5 : Int) (L6 : List RG) (L7 : List RF) (W8 : Nat → List Int) (N : Nat) : Option ZcW :=
 if (((L6.length + 1) : Nat) : Int) ≤ (9223372036854775807 : Int) then
  if (0 : Int) < (i64.wrap (a1 + (1 : Int))) then
   if (i64.wrap (a1 + (1 : Int))) ≤ (100000 : Int) then
    if L6.length ≤ 100000 then
     if L7.length ≤ 100000 then
      ((Zbs ((((L6.length + 1) : Nat) : Int)) (a0) (a1) (a2) (a3) (a4) (a5) ((L6 ++ (List.replicate ((i64.wrap (a1 + (1 : Int)))).toNat (⟨(0 : Int), (0 : Int), (0 : Int), (0 : Int), (0 : Int)⟩ : RG)))) ((L7 ++ (List.replicate ((i64.wrap (a1 + (1 : Int)))).toNat (⟨(0 : Int), (0 : Int)⟩ : RF)))) (W8) N).bind fun r => match r with
      | .r0 y5_0 =>
       some (.r0 (y5_0) : ZcW)
      )
     else
     none
    else
    none
   else
   none
  else
  none
 else
 none

inductive heap_Heap_AllocR where
 | r0 (w0 : Int) (w1 : Int) (w2 : Int) (w4 : List RG) (w5 : List RF) (w6 : Nat → List Int)

def Zaw (a0 : Int) (a1 : Int) (a2 : Int) (a3 : Int) (L4 : List RG) (L5 : List RF) (W6 : Nat → List Int) (N : Nat) : Option heap_Heap_AllocR :=
 if (0 : Int) < a3 then
  if a0 < (1 : Int) then
   some (.r0 ((0 : Int)) ((0 : Int)) ((1 : Int)) (L4) (L5) (W6) : heap_Heap_AllocR)
  else
  if (16 : Int) < a0 then
   some (.r0 ((0 : Int)) ((0 : Int)) ((1 : Int)) (L4) (L5) (W6) : heap_Heap_AllocR)
  else
  if a1 < (0 : Int) then
   some (.r0 ((0 : Int)) ((0 : Int)) ((1 : Int)) (L4) (L5) (W6) : heap_Heap_AllocR)
  else
  if (i64.wrap ((1 : Int) * (2 ^ (a0).toNat : Int))) ≤ a1 then
   some (.r0 ((0 : Int)) ((0 : Int)) ((1 : Int)) (L4) (L5) (W6) : heap_Heap_AllocR)
  else
  if a2 < (0 : Int) then
   some (.r0 ((0 : Int)) ((0 : Int)) ((1 : Int)) (L4) (L5) (W6) : heap_Heap_AllocR)
  else
  if (64 : Int) ≤ a2 then
   some (.r0 ((0 : Int)) ((0 : Int)) ((1 : Int)) (L4) (L5) (W6) : heap_Heap_AllocR)
  else
  ZoO 17 (a0) (fun κ =>
   if (0 : Int) < (((W6 κ).length : Nat) : Int) then
    if ((((W6 κ).length : Nat) : Int) - (1 : Int)) ≤ (9223372036854775807 : Int) then
     if (0 : Int) ≤ (iw W6 κ) then
      if ((iw W6 κ)).toNat < L4.length then
       ((Zbs ((lw W6 κ)) ((i64.wrap ((hw L4 W6 κ).a0 + (1 : Int)))) (a0) (a1) ((1 : Int)) (a2) (a3) (L4) (L5) ((uw W6 κ)) N).bind fun r => match r with
       | .r0 y12_0 =>
        ((ZaS ((i64.wrap ((hw L4 W6 κ).a0 + (1 : Int)))) ((lw W6 κ)) N).bind fun r => match r with
        | .r0 y13_0 y13_1 y13_2 =>
         some (.r0 (y13_0) (y13_1) (y13_2) ((L4.set ((iw W6 κ)).toNat (⟨(i64.wrap ((hw L4 W6 κ).a0 + (1 : Int))), a0, a1, (1 : Int), a2⟩ : RG))) (y12_0) ((uw W6 κ)) : heap_Heap_AllocR)
        )
       )
      else
      none
     else
     none
    else
    none
   else
   ((Zav (a3) (L4) (L5) (W6) N).bind fun r => match r with
   | .r0 y9_0 =>
    if a3 < (i64.wrap ((i64.wrap (y9_0 + a0)) + (1 : Int))) then
     some (.r0 ((0 : Int)) ((0 : Int)) ((20 : Int)) (L4) (L5) (W6) : heap_Heap_AllocR)
    else
    ((ZaY ((1 : Int)) (a0) (a1) ((1 : Int)) (a2) (a3) (L4) (L5) (W6) N).bind fun r => match r with
    | .r0 y11_0 =>
     ((ZaS ((1 : Int)) ((((L4.length + 1) : Nat) : Int)) N).bind fun r => match r with
     | .r0 y12_0 y12_1 y12_2 =>
      some (.r0 (y12_0) (y12_1) (y12_2) (((L4 ++ (List.replicate ((i64.wrap (a0 + (1 : Int)))).toNat (⟨(0 : Int), (0 : Int), (0 : Int), (0 : Int), (0 : Int)⟩ : RG))).set ((i64.wrap ((((L4.length + 1) : Nat) : Int) - (1 : Int)))).toNat (⟨(1 : Int), a0, a1, (1 : Int), a2⟩ : RG))) (y11_0) (W6) : heap_Heap_AllocR)
     )
    )
   ))
 else
 some (.r0 ((0 : Int)) ((0 : Int)) ((4 : Int)) (L4) (L5) (W6) : heap_Heap_AllocR)

inductive Zdi where
 | r0

def ZdG (a0 : Int) (L1 : List RI) (a2 : Int) (a3 : Int) (a4 : Int) (a5 : Int) (a6 : Int) (a7 : Int) (a8 : Int) (a9 : Int) (a10 : Int) (L11 : List RF) (N : Nat) : Option Zdi :=
 if L1.length = 0 then
  none
 else
 if L1.length ≤ 100000 then
  if (0 : Int) ≤ a2 then
   if (a2).toNat < (0 + L1.length) then
    some (.r0 : Zdi)
   else
   none
  else
  none
 else
 none

inductive Zcl where
 | r0

def ZbE (a0 : Int) (L1 : List RI) (L2 : List Int) (a3 : Int) (a4 : Int) (a5 : Int) (a6 : Int) (a7 : Int) (a8 : Int) (a9 : Int) (a10 : Int) (a11 : Int) (L12 : List RF) (N : Nat) : Option Zcl :=
 if L1.length = 0 then
  none
 else
 if L1.length ≤ 100000 then
  if (0 : Int) ≤ a3 then
   if (a3).toNat < (0 + L1.length) then
    some (.r0 : Zcl)
   else
   none
  else
  none
 else
 none

inductive Zc2 where
 | r0 (w0 : Int)

inductive ZaT where
 | h1m0 (v0 : Int) (v1 : Nat)

def ZcI (a0 : Int) (L1 : List RI) (L2 : List Int) (N : Nat) (v0 : Int) (v1 : Nat) : Option (ZaT ⊕ Zc2) :=
 if (v1 : Int) < (L1.length : Int) then
  if (((v1 + 1) : Nat) : Int) ≤ (9223372036854775807 : Int) then
   some (.inl (.h1m0 ((i64.wrap ((i64.wrap (v0 + (1 : Int))) + (L1.getD v1 RI.z).a4))) ((v1 + 1)) : ZaT))
  else
  none
 else
 some (.inr (.r0 (v0) : Zc2))

def Zdn (a0 : Int) (L1 : List RI) (L2 : List Int) (N : Nat) : ZaT → Option (ZaT ⊕ Zc2)
 | .h1m0 v0 v1 => ZcI a0 L1 L2 N v0 v1

def ZhR (a0 : Int) (L1 : List RI) (L2 : List Int) (N : Nat) : Option (ZaT ⊕ Zc2) :=
 some (.inl (.h1m0 ((0 : Int)) (0) : ZaT))

def Zcd (a0 : Int) (L1 : List RI) (L2 : List Int) (N : Nat) : Option Zc2 := goM (Zdn a0 L1 L2 N) N (ZhR a0 L1 L2 N)

inductive ZG where
 | r0 (w5 : Int)
 | r1 (w1 : List RI) (w2 : Int) (w3 : Int)
 | r2 (w1 : List RI) (w2 : List Int) (w3 : Int) (w4 : Int)
 | r3 (w1 : List RI) (w3 : Int) (w4 : Int)

inductive ZaF where
 | h1m0 (v3 : Int)

def ZaM (a0 : Int) (L1 : List RI) (L2 : List Int) (a3 : Int) (a4 : Int) (a5 : Int) (N : Nat) (v3 : Int) : Option (ZaF ⊕ ZG) :=
 if (0 : Int) ≤ v3 then
  if (v3).toNat < L2.length then
   if (0 : Int) ≤ (L2.getD (v3).toNat 0) then
    if ((L2.getD (v3).toNat 0)).toNat < L1.length then
     if ¬ ((L1.getD ((L2.getD (v3).toNat 0)).toNat RI.z).a4 = a3) then
      some (.inl (.h1m0 ((i64.wrap (v3 - (1 : Int)))) : ZaF))
     else
     if (L2.take (v3).toNat).length = 0 then
      if ((L2.drop ((v3 + (1 : Int))).toNat).take (L2.length - ((v3 + (1 : Int))).toNat)).length = 0 then
       ((Zag ((i64.wrap ((L1.getD ((L2.getD (v3).toNat 0)).toNat RI.z).a3 + (1 : Int)))) ((L1.getD ((L2.getD (v3).toNat 0)).toNat RI.z).a0) N).bind fun r => match r with
       | .r0 y7_0 y7_1 =>
        ((ZbD (a3) (a4) N).bind fun r => match r with
        | .r0 =>
         none
        | .r1 y8_0 =>
         ((ZdG (a0) (L1) ((L2.getD (v3).toNat 0)) ((L1.getD ((L2.getD (v3).toNat 0)).toNat RI.z).a0) (y7_0) (y7_1) ((i64.wrap ((L1.getD ((L2.getD (v3).toNat 0)).toNat RI.z).a3 + (1 : Int)))) (a3) (a4) ((1 : Int)) (a5) (y8_0) N).bind fun r => match r with
         | .r0 =>
          some (.inr (.r1 ((L1.set ((L2.getD (v3).toNat 0)).toNat (⟨(L1.getD ((L2.getD (v3).toNat 0)).toNat RI.z).a0, y7_0, y7_1, (i64.wrap ((L1.getD ((L2.getD (v3).toNat 0)).toNat RI.z).a3 + (1 : Int))), a3, a4, (1 : Int), a5, y8_0⟩ : RI))) (y7_0) (y7_1) : ZG))
         )
        )
       )
      else
      if ((L2.drop ((v3 + (1 : Int))).toNat).take (L2.length - ((v3 + (1 : Int))).toNat)).length ≤ 100000 then
       ((Zag ((i64.wrap ((L1.getD ((L2.getD (v3).toNat 0)).toNat RI.z).a3 + (1 : Int)))) ((L1.getD ((L2.getD (v3).toNat 0)).toNat RI.z).a0) N).bind fun r => match r with
       | .r0 y8_0 y8_1 =>
        ((ZbD (a3) (a4) N).bind fun r => match r with
        | .r0 =>
         none
        | .r1 y9_0 =>
         ((ZbE (a0) (L1) (((L2.drop ((v3 + (1 : Int))).toNat).take (L2.length - ((v3 + (1 : Int))).toNat))) ((L2.getD (v3).toNat 0)) ((L1.getD ((L2.getD (v3).toNat 0)).toNat RI.z).a0) (y8_0) (y8_1) ((i64.wrap ((L1.getD ((L2.getD (v3).toNat 0)).toNat RI.z).a3 + (1 : Int)))) (a3) (a4) ((1 : Int)) (a5) (y9_0) N).bind fun r => match r with
         | .r0 =>
          some (.inr (.r2 ((L1.set ((L2.getD (v3).toNat 0)).toNat (⟨(L1.getD ((L2.getD (v3).toNat 0)).toNat RI.z).a0, y8_0, y8_1, (i64.wrap ((L1.getD ((L2.getD (v3).toNat 0)).toNat RI.z).a3 + (1 : Int))), a3, a4, (1 : Int), a5, y9_0⟩ : RI))) (((L2.drop ((v3 + (1 : Int))).toNat).take (L2.length - ((v3 + (1 : Int))).toNat))) (y8_0) (y8_1) : ZG))
         )
        )
       )
      else
      none
     else
     if (L2.take (v3).toNat).length ≤ 100000 then
      if ((L2.drop ((v3 + (1 : Int))).toNat).take (L2.length - ((v3 + (1 : Int))).toNat)).length = 0 then
       ((Zag ((i64.wrap ((L1.getD ((L2.getD (v3).toNat 0)).toNat RI.z).a3 + (1 : Int)))) ((L1.getD ((L2.getD (v3).toNat 0)).toNat RI.z).a0) N).bind fun r => match r with
       | .r0 y8_0 y8_1 =>
        ((ZbD (a3) (a4) N).bind fun r => match r with
        | .r0 =>
         none
        | .r1 y9_0 =>
         ((ZbE (a0) (L1) ((L2.take (v3).toNat)) ((L2.getD (v3).toNat 0)) ((L1.getD ((L2.getD (v3).toNat 0)).toNat RI.z).a0) (y8_0) (y8_1) ((i64.wrap ((L1.getD ((L2.getD (v3).toNat 0)).toNat RI.z).a3 + (1 : Int)))) (a3) (a4) ((1 : Int)) (a5) (y9_0) N).bind fun r => match r with
         | .r0 =>
          some (.inr (.r2 ((L1.set ((L2.getD (v3).toNat 0)).toNat (⟨(L1.getD ((L2.getD (v3).toNat 0)).toNat RI.z).a0, y8_0, y8_1, (i64.wrap ((L1.getD ((L2.getD (v3).toNat 0)).toNat RI.z).a3 + (1 : Int))), a3, a4, (1 : Int), a5, y9_0⟩ : RI))) ((L2.take (v3).toNat)) (y8_0) (y8_1) : ZG))
         )
        )
       )
      else
      if ((L2.drop ((v3 + (1 : Int))).toNat).take (L2.length - ((v3 + (1 : Int))).toNat)).length ≤ 100000 then
       ((Zag ((i64.wrap ((L1.getD ((L2.getD (v3).toNat 0)).toNat RI.z).a3 + (1 : Int)))) ((L1.getD ((L2.getD (v3).toNat 0)).toNat RI.z).a0) N).bind fun r => match r with
       | .r0 y9_0 y9_1 =>
        ((ZbD (a3) (a4) N).bind fun r => match r with
        | .r0 =>
         none
        | .r1 y10_0 =>
         ((ZbE (a0) (L1) (((L2.take (v3).toNat) ++ ((L2.drop ((v3 + (1 : Int))).toNat).take (L2.length - ((v3 + (1 : Int))).toNat)))) ((L2.getD (v3).toNat 0)) ((L1.getD ((L2.getD (v3).toNat 0)).toNat RI.z).a0) (y9_0) (y9_1) ((i64.wrap ((L1.getD ((L2.getD (v3).toNat 0)).toNat RI.z).a3 + (1 : Int)))) (a3) (a4) ((1 : Int)) (a5) (y10_0) N).bind fun r => match r with
         | .r0 =>
          some (.inr (.r2 ((L1.set ((L2.getD (v3).toNat 0)).toNat (⟨(L1.getD ((L2.getD (v3).toNat 0)).toNat RI.z).a0, y9_0, y9_1, (i64.wrap ((L1.getD ((L2.getD (v3).toNat 0)).toNat RI.z).a3 + (1 : Int))), a3, a4, (1 : Int), a5, y10_0⟩ : RI))) (((L2.take (v3).toNat) ++ ((L2.drop ((v3 + (1 : Int))).toNat).take (L2.length - ((v3 + (1 : Int))).toNat)))) (y9_0) (y9_1) : ZG))
         )
        )
       )
      else
      none
     else
     none
    else
    none
   else
   none
  else
  none
 else
 ((Zcd (a0) (L1) (L2) N).bind fun r => match r with
 | .r0 y1_0 =>
  if (i64.wrap (a0 - y1_0)) < (i64.wrap (a3 + (1 : Int))) then
   some (.inr (.r0 ((20 : Int)) : ZG))
  else
  ((Zag ((1 : Int)) ((i64.wrap (y1_0 + (1 : Int)))) N).bind fun r => match r with
  | .r0 y3_0 y3_1 =>
   ((ZbD (a3) (a4) N).bind fun r => match r with
   | .r0 =>
    none
   | .r1 y4_0 =>
    if L1.length = 0 then
     some (.inr (.r3 (([(⟨(i64.wrap (y1_0 + (1 : Int))), y3_0, y3_1, (1 : Int), a3, a4, (1 : Int), a5, y4_0⟩ : RI)] : List RI)) (y3_0) (y3_1) : ZG))
    else
    if L1.length ≤ 100000 then
     some (.inr (.r3 ((L1 ++ ([(⟨(i64.wrap (y1_0 + (1 : Int))), y3_0, y3_1, (1 : Int), a3, a4, (1 : Int), a5, y4_0⟩ : RI)] : List RI))) (y3_0) (y3_1) : ZG))
    else
    none
   )
  )
 )

def ZaU (a0 : Int) (L1 : List RI) (L2 : List Int) (a3 : Int) (a4 : Int) (a5 : Int) (N : Nat) : ZaF → Option (ZaF ⊕ ZG)
 | .h1m0 v3 => ZaM a0 L1 L2 a3 a4 a5 N v3

def ZgZ (a0 : Int) (L1 : List RI) (L2 : List Int) (a3 : Int) (a4 : Int) (a5 : Int) (N : Nat) : Option (ZaF ⊕ ZG) :=
 if a3 < (1 : Int) then
  some (.inr (.r0 ((1 : Int)) : ZG))
 else
 if (16 : Int) < a3 then
  some (.inr (.r0 ((1 : Int)) : ZG))
 else
 if a4 < (0 : Int) then
  some (.inr (.r0 ((1 : Int)) : ZG))
 else
 if (i64.wrap ((1 : Int) * (2 ^ (a3).toNat : Int))) ≤ a4 then
  some (.inr (.r0 ((1 : Int)) : ZG))
 else
 if a5 < (0 : Int) then
  some (.inr (.r0 ((1 : Int)) : ZG))
 else
 if (63 : Int) < a5 then
  some (.inr (.r0 ((1 : Int)) : ZG))
 else
 if ((L2.length : Int) - (1 : Int)) ≤ (9223372036854775807 : Int) then
  some (.inl (.h1m0 (((L2.length : Int) - (1 : Int))) : ZaF))
 else
 none

def Zaq (a0 : Int) (L1 : List RI) (L2 : List Int) (a3 : Int) (a4 : Int) (a5 : Int) (N : Nat) : Option ZG := goM (ZaU a0 L1 L2 a3 a4 a5 N) N (ZgZ a0 L1 L2 a3 a4 a5 N)

inductive Zai where
 | r0 (w19 : Int) (w20 : Int)

def Zao (a0 : Int) (a1 : Int) (a2 : Int) (L3 : List RG) (L4 : List RF) (W5 : Nat → List Int) (N : Nat) : Option Zai :=
 if ¬ (a0 = (2 : Int)) then
  some (.r0 ((0 : Int)) ((10 : Int)) : Zai)
 else
 if ¬ (a1 = (0 : Int)) then
  if (0 : Int) < a1 then
   if (a1 / (1048576 : Int)) ≤ (9223372036854775807 : Int) then
    if (1 : Int) ≤ (a1 / (1048576 : Int)) then
     if (a1 / (1048576 : Int)) ≤ (1073741824 : Int) then
      if (1 : Int) ≤ (a1 % (1048576 : Int)) then
       if (L3.length : Int) < (a1 % (1048576 : Int)) then
        some (.r0 ((0 : Int)) ((21 : Int)) : Zai)
       else
       if ¬ ((L3.getD (((a1 % (1048576 : Int)) - (1 : Int))).toNat RG.z).a0 = (a1 / (1048576 : Int))) then
        some (.r0 ((0 : Int)) ((21 : Int)) : Zai)
       else
       if (L3.getD (((a1 % (1048576 : Int)) - (1 : Int))).toNat RG.z).a3 = (0 : Int) then
        some (.r0 ((0 : Int)) ((21 : Int)) : Zai)
       else
       some (.r0 ((a1 % (1048576 : Int))) ((0 : Int)) : Zai)
      else
      some (.r0 ((0 : Int)) ((10 : Int)) : Zai)
     else
     some (.r0 ((0 : Int)) ((10 : Int)) : Zai)
    else
    some (.r0 ((0 : Int)) ((10 : Int)) : Zai)
   else
   none
  else
  some (.r0 ((0 : Int)) ((10 : Int)) : Zai)
 else
 some (.r0 ((0 : Int)) ((11 : Int)) : Zai)

inductive ZaG where
 | r0 (w0 : Int) (w2 : List RG) (w4 : Nat → List Int)

def Zbf (a0 : Int) (a1 : Int) (a2 : Int) (L3 : List RG) (L4 : List RF) (W5 : Nat → List Int) (N : Nat) : Option ZaG :=
 if (0 : Int) < a2 then
  ((Zao (a0) (a1) (a2) (L3) (L4) (W5) N).bind fun r => match r with
  | .r0 y1_0 y1_1 =>
   if ¬ (y1_1 = (0 : Int)) then
    some (.r0 (y1_1) (L3) (W5) : ZaG)
   else
   if y1_0 = (1 : Int) then
    some (.r0 ((1 : Int)) (L3) (W5) : ZaG)
   else
   if (0 : Int) ≤ (i64.wrap (y1_0 - (1 : Int))) then
    if ((i64.wrap (y1_0 - (1 : Int)))).toNat < L3.length then
     if (L3.getD ((i64.wrap (y1_0 - (1 : Int)))).toNat RG.z).a0 < (1073741824 : Int) then
      ZoO 17 ((L3.getD ((i64.wrap (y1_0 - (1 : Int)))).toNat RG.z).a1) (fun κ =>
       if (W5 κ).length ≤ 100000 then
        some (.r0 ((0 : Int)) ((L3.set ((i64.wrap (y1_0 - (1 : Int)))).toNat (⟨(L3.getD ((i64.wrap (y1_0 - (1 : Int)))).toNat RG.z).a0, (L3.getD ((i64.wrap (y1_0 - (1 : Int)))).toNat RG.z).a1, (L3.getD ((i64.wrap (y1_0 - (1 : Int)))).toNat RG.z).a2, (0 : Int), (L3.getD ((i64.wrap (y1_0 - (1 : Int)))).toNat RG.z).a4⟩ : RG))) ((Zkk W5 κ ((W5 κ) ++ ([y1_0] : List Int)))) : ZaG)
       else
       none)
     else
     some (.r0 ((0 : Int)) ((L3.set ((i64.wrap (y1_0 - (1 : Int)))).toNat (⟨(L3.getD ((i64.wrap (y1_0 - (1 : Int)))).toNat RG.z).a0, (L3.getD ((i64.wrap (y1_0 - (1 : Int)))).toNat RG.z).a1, (L3.getD ((i64.wrap (y1_0 - (1 : Int)))).toNat RG.z).a2, (0 : Int), (L3.getD ((i64.wrap (y1_0 - (1 : Int)))).toNat RG.z).a4⟩ : RG))) (W5) : ZaG)
    else
    none
   else
   none
  )
 else
 some (.r0 ((4 : Int)) (L3) (W5) : ZaG)

inductive ZaN where
 | r0 (w0 : Int) (w1 : Int)

inductive ZaO where
 | h1m0 (v0 : Nat)

def ZcJ (a0 : Int) (L1 : List RI) (L2 : List Int) (a3 : Int) (a4 : Int) (N : Nat) (v0 : Nat) : Option (ZaO ⊕ ZaN) :=
 if (v0 : Int) < (L1.length : Int) then
  if ((L1.getD v0 RI.z).a1 = a3 ∧ (L1.getD v0 RI.z).a2 = a4) then
   if ¬ ((L1.getD v0 RI.z).a6 = (0 : Int)) then
    some (.inr (.r0 ((v0 : Int)) ((0 : Int)) : ZaN))
   else
   if (((v0 + 1) : Nat) : Int) ≤ (9223372036854775807 : Int) then
    some (.inl (.h1m0 ((v0 + 1)) : ZaO))
   else
   none
  else
  if (((v0 + 1) : Nat) : Int) ≤ (9223372036854775807 : Int) then
   some (.inl (.h1m0 ((v0 + 1)) : ZaO))
  else
  none
 else
 some (.inr (.r0 ((0 : Int)) ((21 : Int)) : ZaN))

def ZbU (a0 : Int) (L1 : List RI) (L2 : List Int) (a3 : Int) (a4 : Int) (N : Nat) : ZaO → Option (ZaO ⊕ ZaN)
 | .h1m0 v0 => ZcJ a0 L1 L2 a3 a4 N v0

def ZhS (a0 : Int) (L1 : List RI) (L2 : List Int) (a3 : Int) (a4 : Int) (N : Nat) : Option (ZaO ⊕ ZaN) :=
 if ¬ (a3 = (2 : Int)) then
  some (.inr (.r0 ((0 : Int)) ((10 : Int)) : ZaN))
 else
 if a4 = (0 : Int) then
  some (.inr (.r0 ((0 : Int)) ((11 : Int)) : ZaN))
 else
 if (1048576 : Int) ≤ a4 then
  if (a4 / (1048576 : Int)) ≤ (9223372036854775807 : Int) then
   if (a4 / (1048576 : Int)) ≤ (1073741824 : Int) then
    if (1 : Int) ≤ (a4 % (1048576 : Int)) then
     some (.inl (.h1m0 (0) : ZaO))
    else
    some (.inr (.r0 ((0 : Int)) ((10 : Int)) : ZaN))
   else
   some (.inr (.r0 ((0 : Int)) ((10 : Int)) : ZaN))
  else
  none
 else
 some (.inr (.r0 ((0 : Int)) ((10 : Int)) : ZaN))

def Zax (a0 : Int) (L1 : List RI) (L2 : List Int) (a3 : Int) (a4 : Int) (N : Nat) : Option ZaN := goM (ZbU a0 L1 L2 a3 a4 N) N (ZhS a0 L1 L2 a3 a4 N)

inductive Zcm where
 | r0

def Zbt (a0 : Int) (L1 : List RI) (L2 : List Int) (a3 : Int) (a4 : Int) (a5 : Int) (a6 : Int) (a7 : Int) (a8 : Int) (a9 : Int) (a10 : Int) (a11 : Int) (L12 : List RF) (N : Nat) : Option Zcm :=
 if L1.length = 0 then
  none
 else
 if L1.length ≤ 100000 then
  if (0 : Int) ≤ a3 then
   if (a3).toNat < (0 + L1.length) then
    some (.r0 : Zcm)
   else
   none
  else
  none
 else
 none

inductive ZaB where
 | r0 (w1 : List RI) (w3 : Int)
 | r1 (w1 : List RI) (w2 : List Int)

def Zba (a0 : Int) (L1 : List RI) (L2 : List Int) (a3 : Int) (a4 : Int) (N : Nat) : Option ZaB :=
 ((Zax (a0) (L1) (L2) (a3) (a4) N).bind fun r => match r with
 | .r0 y0_0 y0_1 =>
  if ¬ (y0_1 = (0 : Int)) then
   some (.r0 (L1) (y0_1) : ZaB)
  else
  if y0_0 = (0 : Int) then
   some (.r0 (L1) ((1 : Int)) : ZaB)
  else
  if (0 : Int) ≤ y0_0 then
   if (y0_0).toNat < L1.length then
    ((Zbt (a0) (L1) (L2) (y0_0) ((L1.getD (y0_0).toNat RI.z).a0) ((L1.getD (y0_0).toNat RI.z).a1) ((L1.getD (y0_0).toNat RI.z).a2) ((L1.getD (y0_0).toNat RI.z).a3) ((L1.getD (y0_0).toNat RI.z).a4) ((L1.getD (y0_0).toNat RI.z).a5) ((0 : Int)) ((L1.getD (y0_0).toNat RI.z).a7) ((L1.getD (y0_0).toNat RI.z).a8) N).bind fun r => match r with
    | .r0 =>
     if (L1.getD (y0_0).toNat RI.z).a3 < (1073741824 : Int) then
      if L2.length = 0 then
       some (.r1 ((L1.set (y0_0).toNat (⟨(L1.getD (y0_0).toNat RI.z).a0, (L1.getD (y0_0).toNat RI.z).a1, (L1.getD (y0_0).toNat RI.z).a2, (L1.getD (y0_0).toNat RI.z).a3, (L1.getD (y0_0).toNat RI.z).a4, (L1.getD (y0_0).toNat RI.z).a5, (0 : Int), (L1.getD (y0_0).toNat RI.z).a7, (L1.getD (y0_0).toNat RI.z).a8⟩ : RI))) (([y0_0] : List Int)) : ZaB)
      else
      if L2.length ≤ 100000 then
       some (.r1 ((L1.set (y0_0).toNat (⟨(L1.getD (y0_0).toNat RI.z).a0, (L1.getD (y0_0).toNat RI.z).a1, (L1.getD (y0_0).toNat RI.z).a2, (L1.getD (y0_0).toNat RI.z).a3, (L1.getD (y0_0).toNat RI.z).a4, (L1.getD (y0_0).toNat RI.z).a5, (0 : Int), (L1.getD (y0_0).toNat RI.z).a7, (L1.getD (y0_0).toNat RI.z).a8⟩ : RI))) ((L2 ++ ([y0_0] : List Int))) : ZaB)
      else
      none
     else
     some (.r0 ((L1.set (y0_0).toNat (⟨(L1.getD (y0_0).toNat RI.z).a0, (L1.getD (y0_0).toNat RI.z).a1, (L1.getD (y0_0).toNat RI.z).a2, (L1.getD (y0_0).toNat RI.z).a3, (L1.getD (y0_0).toNat RI.z).a4, (L1.getD (y0_0).toNat RI.z).a5, (0 : Int), (L1.getD (y0_0).toNat RI.z).a7, (L1.getD (y0_0).toNat RI.z).a8⟩ : RI))) ((0 : Int)) : ZaB)
    )
   else
   none
  else
  none
 )

inductive Zar where
 | r0 (w19 : Int) (w20 : Int)

def Zal (a0 : Int) (a1 : Int) (a2 : Int) (a3 : Int) (L4 : List RG) (L5 : List RF) (W6 : Nat → List Int) (N : Nat) : Option Zar :=
 if (0 : Int) < a3 then
  ((Zao (a0) (a1) (a3) (L4) (L5) (W6) N).bind fun r => match r with
  | .r0 y1_0 y1_1 =>
   if ¬ (y1_1 = (0 : Int)) then
    some (.r0 ((0 : Int)) (y1_1) : Zar)
   else
   if a2 < (0 : Int) then
    some (.r0 ((0 : Int)) ((22 : Int)) : Zar)
   else
   if (0 : Int) ≤ (i64.wrap (y1_0 - (1 : Int))) then
    if ((i64.wrap (y1_0 - (1 : Int)))).toNat < L4.length then
     if (L4.getD ((i64.wrap (y1_0 - (1 : Int)))).toNat RG.z).a1 ≤ a2 then
      some (.r0 ((0 : Int)) ((22 : Int)) : Zar)
     else
     some (.r0 (y1_0) ((0 : Int)) : Zar)
    else
    none
   else
   none
  )
 else
 some (.r0 ((0 : Int)) ((4 : Int)) : Zar)

inductive ZcK where
 | r0 (w19 : Int) (w20 : Int) (w21 : Int)

def Zcu (a0 : Int) (a1 : Int) (a2 : Int) (a3 : Int) (L4 : List RG) (L5 : List RF) (W6 : Nat → List Int) (N : Nat) : Option ZcK :=
 ((Zal (a0) (a1) (a2) (a3) (L4) (L5) (W6) N).bind fun r => match r with
 | .r0 y0_0 y0_1 =>
  if ¬ (y0_1 = (0 : Int)) then
   some (.r0 ((0 : Int)) ((0 : Int)) (y0_1) : ZcK)
  else
  if (0 : Int) ≤ (i64.wrap (y0_0 + a2)) then
   if ((i64.wrap (y0_0 + a2))).toNat < L5.length then
    some (.r0 ((L5.getD ((i64.wrap (y0_0 + a2))).toNat RF.z).a0) ((L5.getD ((i64.wrap (y0_0 + a2))).toNat RF.z).a1) ((0 : Int)) : ZcK)
   else
   none
  else
  none
 )

inductive Zdj where
 | r0 (w0 : Int) (w1 : Int) (w2 : Int)

def Zex (a0 : Int) (L1 : List RI) (L2 : List Int) (a3 : Int) (a4 : Int) (a5 : Int) (N : Nat) : Option Zdj :=
 ((Zax (a0) (L1) (L2) (a3) (a4) N).bind fun r => match r with
 | .r0 y0_0 y0_1 =>
  if ¬ (y0_1 = (0 : Int)) then
   some (.r0 ((0 : Int)) ((0 : Int)) (y0_1) : Zdj)
  else
  if a5 < (0 : Int) then
   some (.r0 ((0 : Int)) ((0 : Int)) ((22 : Int)) : Zdj)
  else
  if (0 : Int) ≤ y0_0 then
   if (y0_0).toNat < L1.length then
    if (L1.getD (y0_0).toNat RI.z).a4 ≤ a5 then
     some (.r0 ((0 : Int)) ((0 : Int)) ((22 : Int)) : Zdj)
    else
    if (a5).toNat < (L1.getD (y0_0).toNat RI.z).a8.length then
     some (.r0 (((L1.getD (y0_0).toNat RI.z).a8.getD (a5).toNat RF.z).a0) (((L1.getD (y0_0).toNat RI.z).a8.getD (a5).toNat RF.z).a1) ((0 : Int)) : Zdj)
    else
    none
   else
   none
  else
  none
 )

inductive Zbg where
 | r0 (w20 : Int) (w21 : Int)

def ZaP (a0 : Int) (a1 : Int) (a2 : Int) (a3 : Int) (a4 : Int) (b5 : Bool) (a6 : Int) (a7 : Int) (a8 : Int) (a9 : Int) (a10 : Int) (L11 : List RI) (L12 : List Int) (L13 : List RF) (a14 : Int) (L15 : List RG) (L16 : List RF) (W17 : Nat → List Int) (N : Nat) : Option Zbg :=
 if a8 = (2 : Int) then
  if b5 = true then
   some (.r0 (a8) (a9) : Zbg)
  else
  if (0 : Int) < (L13.length : Int) then
   if (-9223372036854775808 : Int) ≤ a4 then
    if a4 ≤ (9223372036854775807 : Int) then
     if (0 : Int) ≤ a4 then
      if (0 : Int) ≤ (Int.tmod (a4 / (2 : Int)) (L13.length : Int)) then
       if ((Int.tmod (a4 / (2 : Int)) (L13.length : Int))).toNat < L13.length then
        some (.r0 ((L13.getD ((Int.tmod (a4 / (2 : Int)) (L13.length : Int))).toNat RF.z).a0) ((L13.getD ((Int.tmod (a4 / (2 : Int)) (L13.length : Int))).toNat RF.z).a1) : Zbg)
       else
       none
      else
      none
     else
     none
    else
    none
   else
   none
  else
  some (.r0 (a8) (a9) : Zbg)
 else
 some (.r0 (a8) (a9) : Zbg)

inductive ZI where
 | r0 (w1 : List RF) (w19 : Int)

def ZaH (a0 : Int) (a1 : Int) (a2 : Int) (a3 : Int) (a4 : Int) (a5 : Int) (L6 : List RG) (L7 : List RF) (W8 : Nat → List Int) (N : Nat) : Option ZI :=
 ((Zal (a0) (a1) (a2) (a5) (L6) (L7) (W8) N).bind fun r => match r with
 | .r0 y0_0 y0_1 =>
  if ¬ (y0_1 = (0 : Int)) then
   some (.r0 (L7) (y0_1) : ZI)
  else
  if (0 : Int) ≤ (i64.wrap (y0_0 - (1 : Int))) then
   if ((i64.wrap (y0_0 - (1 : Int)))).toNat < L6.length then
    if (0 : Int) ≤ a2 then
     if a2 ≤ (64 : Int) then
      if (((L6.getD ((i64.wrap (y0_0 - (1 : Int)))).toNat RG.z).a2 / (2 ^ (a2).toNat : Int)) % (2 : Int)) = (1 : Int) then
       if a3 = (2 : Int) then
        if ¬ (a4 = (0 : Int)) then
         if (0 : Int) < a4 then
          if (a4 / (1048576 : Int)) ≤ (9223372036854775807 : Int) then
           if (1 : Int) ≤ (a4 / (1048576 : Int)) then
            if (a4 / (1048576 : Int)) ≤ (1073741824 : Int) then
             if (1 : Int) ≤ (a4 % (1048576 : Int)) then
              if (0 : Int) ≤ (i64.wrap (y0_0 + a2)) then
               if ((i64.wrap (y0_0 + a2))).toNat < L7.length then
                some (.r0 ((L7.set ((i64.wrap (y0_0 + a2))).toNat (⟨a3, a4⟩ : RF))) ((0 : Int)) : ZI)
               else
               none
              else
              none
             else
             some (.r0 (L7) ((10 : Int)) : ZI)
            else
            some (.r0 (L7) ((10 : Int)) : ZI)
           else
           some (.r0 (L7) ((10 : Int)) : ZI)
          else
          none
         else
         some (.r0 (L7) ((10 : Int)) : ZI)
        else
        if (0 : Int) ≤ (i64.wrap (y0_0 + a2)) then
         if ((i64.wrap (y0_0 + a2))).toNat < L7.length then
          some (.r0 ((L7.set ((i64.wrap (y0_0 + a2))).toNat (⟨a3, a4⟩ : RF))) ((0 : Int)) : ZI)
         else
         none
        else
        none
       else
       some (.r0 (L7) ((10 : Int)) : ZI)
      else
      if a3 = (2 : Int) then
       if ¬ (a4 = (0 : Int)) then
        if (0 : Int) < a4 then
         if (a4 / (1048576 : Int)) ≤ (9223372036854775807 : Int) then
          some (.r0 (L7) ((10 : Int)) : ZI)
         else
         none
        else
        some (.r0 (L7) ((10 : Int)) : ZI)
       else
       some (.r0 (L7) ((10 : Int)) : ZI)
      else
      if a3 = (1 : Int) then
       if (0 : Int) ≤ (i64.wrap (y0_0 + a2)) then
        if ((i64.wrap (y0_0 + a2))).toNat < L7.length then
         some (.r0 ((L7.set ((i64.wrap (y0_0 + a2))).toNat (⟨a3, a4⟩ : RF))) ((0 : Int)) : ZI)
        else
        none
       else
       none
      else
      some (.r0 (L7) ((10 : Int)) : ZI)
     else
     none
    else
    none
   else
   none
  else
  none
 )

inductive Zcn where
 | r0

def ZbF (a0 : Int) (L1 : List RI) (L2 : List Int) (a3 : Int) (a4 : Int) (a5 : Int) (a6 : Int) (a7 : Int) (a8 : Int) (a9 : Int) (a10 : Int) (a11 : Int) (L12 : List RF) (N : Nat) : Option Zcn :=
 if L1.length = 0 then
  none
 else
 if L1.length ≤ 100000 then
  if (0 : Int) ≤ a3 then
   if (a3).toNat < (0 + L1.length) then
    some (.r0 : Zcn)
   else
   none
  else
  none
 else
 none

inductive Zam where
 | r0 (w1 : List RI) (w3 : Int)

def Zc3 (a0 : Int) (L1 : List RI) (L2 : List Int) (a3 : Int) (a4 : Int) (a5 : Int) (a6 : Int) (a7 : Int) (N : Nat) : Option Zam :=
 ((Zax (a0) (L1) (L2) (a3) (a4) N).bind fun r => match r with
 | .r0 y0_0 y0_1 =>
  if ¬ (y0_1 = (0 : Int)) then
   some (.r0 (L1) (y0_1) : Zam)
  else
  if (0 : Int) ≤ y0_0 then
   if (y0_0).toNat < L1.length then
    if a5 < (0 : Int) then
     some (.r0 (L1) ((22 : Int)) : Zam)
    else
    if (L1.getD (y0_0).toNat RI.z).a4 ≤ a5 then
     some (.r0 (L1) ((22 : Int)) : Zam)
    else
    if a6 = (1 : Int) then
     if a5 ≤ (9223372036854775807 : Int) then
      if a5 ≤ (64 : Int) then
       if (0 : Int) ≤ ((L1.getD (y0_0).toNat RI.z).a5 / (2 ^ (a5).toNat : Int)) then
        if (((L1.getD (y0_0).toNat RI.z).a5 / (2 ^ (a5).toNat : Int)) % (2 : Int)) = (1 : Int) then
         some (.r0 (L1) ((10 : Int)) : Zam)
        else
        if (L1.getD (y0_0).toNat RI.z).a8.length = 0 then
         none
        else
        if (L1.getD (y0_0).toNat RI.z).a8.length ≤ 100000 then
         if (a5).toNat < (0 + (L1.getD (y0_0).toNat RI.z).a8.length) then
          ((ZbF (a0) (L1) (L2) (y0_0) ((L1.getD (y0_0).toNat RI.z).a0) ((L1.getD (y0_0).toNat RI.z).a1) ((L1.getD (y0_0).toNat RI.z).a2) ((L1.getD (y0_0).toNat RI.z).a3) ((L1.getD (y0_0).toNat RI.z).a4) ((L1.getD (y0_0).toNat RI.z).a5) ((L1.getD (y0_0).toNat RI.z).a6) ((L1.getD (y0_0).toNat RI.z).a7) (((L1.getD (y0_0).toNat RI.z).a8.set (a5).toNat (⟨a6, a7⟩ : RF))) N).bind fun r => match r with
          | .r0 =>
           some (.r0 ((L1.set (y0_0).toNat (⟨(L1.getD (y0_0).toNat RI.z).a0, (L1.getD (y0_0).toNat RI.z).a1, (L1.getD (y0_0).toNat RI.z).a2, (L1.getD (y0_0).toNat RI.z).a3, (L1.getD (y0_0).toNat RI.z).a4, (L1.getD (y0_0).toNat RI.z).a5, (L1.getD (y0_0).toNat RI.z).a6, (L1.getD (y0_0).toNat RI.z).a7, ((L1.getD (y0_0).toNat RI.z).a8.set (a5).toNat (⟨a6, a7⟩ : RF))⟩ : RI))) ((0 : Int)) : Zam)
          )
         else
         none
        else
        none
       else
       none
      else
      none
     else
     none
    else
    if a6 = (2 : Int) then
     if a7 = (0 : Int) then
      if a5 ≤ (9223372036854775807 : Int) then
       if a5 ≤ (64 : Int) then
        if (0 : Int) ≤ ((L1.getD (y0_0).toNat RI.z).a5 / (2 ^ (a5).toNat : Int)) then
         if (((L1.getD (y0_0).toNat RI.z).a5 / (2 ^ (a5).toNat : Int)) % (2 : Int)) = (1 : Int) then
          if (L1.getD (y0_0).toNat RI.z).a8.length = 0 then
           none
          else
          if (L1.getD (y0_0).toNat RI.z).a8.length ≤ 100000 then
           if (a5).toNat < (0 + (L1.getD (y0_0).toNat RI.z).a8.length) then
            ((ZbF (a0) (L1) (L2) (y0_0) ((L1.getD (y0_0).toNat RI.z).a0) ((L1.getD (y0_0).toNat RI.z).a1) ((L1.getD (y0_0).toNat RI.z).a2) ((L1.getD (y0_0).toNat RI.z).a3) ((L1.getD (y0_0).toNat RI.z).a4) ((L1.getD (y0_0).toNat RI.z).a5) ((L1.getD (y0_0).toNat RI.z).a6) ((L1.getD (y0_0).toNat RI.z).a7) (((L1.getD (y0_0).toNat RI.z).a8.set (a5).toNat (⟨a6, a7⟩ : RF))) N).bind fun r => match r with
            | .r0 =>
             some (.r0 ((L1.set (y0_0).toNat (⟨(L1.getD (y0_0).toNat RI.z).a0, (L1.getD (y0_0).toNat RI.z).a1, (L1.getD (y0_0).toNat RI.z).a2, (L1.getD (y0_0).toNat RI.z).a3, (L1.getD (y0_0).toNat RI.z).a4, (L1.getD (y0_0).toNat RI.z).a5, (L1.getD (y0_0).toNat RI.z).a6, (L1.getD (y0_0).toNat RI.z).a7, ((L1.getD (y0_0).toNat RI.z).a8.set (a5).toNat (⟨a6, a7⟩ : RF))⟩ : RI))) ((0 : Int)) : Zam)
            )
           else
           none
          else
          none
         else
         some (.r0 (L1) ((10 : Int)) : Zam)
        else
        none
       else
       none
      else
      none
     else
     if (1048576 : Int) ≤ a7 then
      if (a7 / (1048576 : Int)) ≤ (9223372036854775807 : Int) then
       if (a7 / (1048576 : Int)) ≤ (1073741824 : Int) then
        if (1 : Int) ≤ (a7 % (1048576 : Int)) then
         if a5 ≤ (9223372036854775807 : Int) then
          if a5 ≤ (64 : Int) then
           if (0 : Int) ≤ ((L1.getD (y0_0).toNat RI.z).a5 / (2 ^ (a5).toNat : Int)) then
            if (((L1.getD (y0_0).toNat RI.z).a5 / (2 ^ (a5).toNat : Int)) % (2 : Int)) = (1 : Int) then
             if (L1.getD (y0_0).toNat RI.z).a8.length = 0 then
              none
             else
             if (L1.getD (y0_0).toNat RI.z).a8.length ≤ 100000 then
              if (a5).toNat < (0 + (L1.getD (y0_0).toNat RI.z).a8.length) then
               ((ZbF (a0) (L1) (L2) (y0_0) ((L1.getD (y0_0).toNat RI.z).a0) ((L1.getD (y0_0).toNat RI.z).a1) ((L1.getD (y0_0).toNat RI.z).a2) ((L1.getD (y0_0).toNat RI.z).a3) ((L1.getD (y0_0).toNat RI.z).a4) ((L1.getD (y0_0).toNat RI.z).a5) ((L1.getD (y0_0).toNat RI.z).a6) ((L1.getD (y0_0).toNat RI.z).a7) (((L1.getD (y0_0).toNat RI.z).a8.set (a5).toNat (⟨a6, a7⟩ : RF))) N).bind fun r => match r with
               | .r0 =>
                some (.r0 ((L1.set (y0_0).toNat (⟨(L1.getD (y0_0).toNat RI.z).a0, (L1.getD (y0_0).toNat RI.z).a1, (L1.getD (y0_0).toNat RI.z).a2, (L1.getD (y0_0).toNat RI.z).a3, (L1.getD (y0_0).toNat RI.z).a4, (L1.getD (y0_0).toNat RI.z).a5, (L1.getD (y0_0).toNat RI.z).a6, (L1.getD (y0_0).toNat RI.z).a7, ((L1.getD (y0_0).toNat RI.z).a8.set (a5).toNat (⟨a6, a7⟩ : RF))⟩ : RI))) ((0 : Int)) : Zam)
               )
              else
              none
             else
             none
            else
            some (.r0 (L1) ((10 : Int)) : Zam)
           else
           none
          else
          none
         else
         none
        else
        some (.r0 (L1) ((10 : Int)) : Zam)
       else
       some (.r0 (L1) ((10 : Int)) : Zam)
      else
      none
     else
     some (.r0 (L1) ((10 : Int)) : Zam)
    else
    some (.r0 (L1) ((10 : Int)) : Zam)
   else
   none
  else
  none
 )

inductive ZaZ where
 | r0 (w0 : List RG) (w19 : Int)

def ZaV (a0 : Int) (a1 : Int) (a2 : Int) (L3 : List RG) (L4 : List RF) (W5 : Nat → List Int) (N : Nat) : Option ZaZ :=
 if (0 : Int) < a2 then
  ((Zao (a0) (a1) (a2) (L3) (L4) (W5) N).bind fun r => match r with
  | .r0 y1_0 y1_1 =>
   if ¬ (y1_1 = (0 : Int)) then
    some (.r0 (L3) (y1_1) : ZaZ)
   else
   if (0 : Int) ≤ (i64.wrap (y1_0 - (1 : Int))) then
    if ((i64.wrap (y1_0 - (1 : Int)))).toNat < L3.length then
     if (L3.getD ((i64.wrap (y1_0 - (1 : Int)))).toNat RG.z).a3 = (1 : Int) then
      some (.r0 ((L3.set ((i64.wrap (y1_0 - (1 : Int)))).toNat (⟨(L3.getD ((i64.wrap (y1_0 - (1 : Int)))).toNat RG.z).a0, (L3.getD ((i64.wrap (y1_0 - (1 : Int)))).toNat RG.z).a1, (L3.getD ((i64.wrap (y1_0 - (1 : Int)))).toNat RG.z).a2, (2 : Int), (L3.getD ((i64.wrap (y1_0 - (1 : Int)))).toNat RG.z).a4⟩ : RG))) ((0 : Int)) : ZaZ)
     else
     some (.r0 (L3) ((0 : Int)) : ZaZ)
    else
    none
   else
   none
  )
 else
 some (.r0 (L3) ((4 : Int)) : ZaZ)

inductive Zda where
 | r0 (w1 : List RI) (w3 : Int)

def Zdk (a0 : Int) (L1 : List RI) (L2 : List Int) (a3 : Int) (a4 : Int) (a5 : Int) (N : Nat) : Option Zda :=
 ((Zax (a0) (L1) (L2) (a3) (a4) N).bind fun r => match r with
 | .r0 y0_0 y0_1 =>
  if ¬ (y0_1 = (0 : Int)) then
   some (.r0 (L1) (y0_1) : Zda)
  else
  if ¬ (a5 = (1 : Int)) then
   if ¬ (a5 = (2 : Int)) then
    if ¬ (a5 = (3 : Int)) then
     some (.r0 (L1) ((1 : Int)) : Zda)
    else
    if (0 : Int) ≤ y0_0 then
     if (y0_0).toNat < L1.length then
      ((Zbt (a0) (L1) (L2) (y0_0) ((L1.getD (y0_0).toNat RI.z).a0) ((L1.getD (y0_0).toNat RI.z).a1) ((L1.getD (y0_0).toNat RI.z).a2) ((L1.getD (y0_0).toNat RI.z).a3) ((L1.getD (y0_0).toNat RI.z).a4) ((L1.getD (y0_0).toNat RI.z).a5) (a5) ((L1.getD (y0_0).toNat RI.z).a7) ((L1.getD (y0_0).toNat RI.z).a8) N).bind fun r => match r with
      | .r0 =>
       some (.r0 ((L1.set (y0_0).toNat (⟨(L1.getD (y0_0).toNat RI.z).a0, (L1.getD (y0_0).toNat RI.z).a1, (L1.getD (y0_0).toNat RI.z).a2, (L1.getD (y0_0).toNat RI.z).a3, (L1.getD (y0_0).toNat RI.z).a4, (L1.getD (y0_0).toNat RI.z).a5, a5, (L1.getD (y0_0).toNat RI.z).a7, (L1.getD (y0_0).toNat RI.z).a8⟩ : RI))) ((0 : Int)) : Zda)
      )
     else
     none
    else
    none
   else
   if (0 : Int) ≤ y0_0 then
    if (y0_0).toNat < L1.length then
     ((Zbt (a0) (L1) (L2) (y0_0) ((L1.getD (y0_0).toNat RI.z).a0) ((L1.getD (y0_0).toNat RI.z).a1) ((L1.getD (y0_0).toNat RI.z).a2) ((L1.getD (y0_0).toNat RI.z).a3) ((L1.getD (y0_0).toNat RI.z).a4) ((L1.getD (y0_0).toNat RI.z).a5) (a5) ((L1.getD (y0_0).toNat RI.z).a7) ((L1.getD (y0_0).toNat RI.z).a8) N).bind fun r => match r with
     | .r0 =>
      some (.r0 ((L1.set (y0_0).toNat (⟨(L1.getD (y0_0).toNat RI.z).a0, (L1.getD (y0_0).toNat RI.z).a1, (L1.getD (y0_0).toNat RI.z).a2, (L1.getD (y0_0).toNat RI.z).a3, (L1.getD (y0_0).toNat RI.z).a4, (L1.getD (y0_0).toNat RI.z).a5, a5, (L1.getD (y0_0).toNat RI.z).a7, (L1.getD (y0_0).toNat RI.z).a8⟩ : RI))) ((0 : Int)) : Zda)
     )
    else
    none
   else
   none
  else
  if (0 : Int) ≤ y0_0 then
   if (y0_0).toNat < L1.length then
    ((Zbt (a0) (L1) (L2) (y0_0) ((L1.getD (y0_0).toNat RI.z).a0) ((L1.getD (y0_0).toNat RI.z).a1) ((L1.getD (y0_0).toNat RI.z).a2) ((L1.getD (y0_0).toNat RI.z).a3) ((L1.getD (y0_0).toNat RI.z).a4) ((L1.getD (y0_0).toNat RI.z).a5) (a5) ((L1.getD (y0_0).toNat RI.z).a7) ((L1.getD (y0_0).toNat RI.z).a8) N).bind fun r => match r with
    | .r0 =>
     some (.r0 ((L1.set (y0_0).toNat (⟨(L1.getD (y0_0).toNat RI.z).a0, (L1.getD (y0_0).toNat RI.z).a1, (L1.getD (y0_0).toNat RI.z).a2, (L1.getD (y0_0).toNat RI.z).a3, (L1.getD (y0_0).toNat RI.z).a4, (L1.getD (y0_0).toNat RI.z).a5, a5, (L1.getD (y0_0).toNat RI.z).a7, (L1.getD (y0_0).toNat RI.z).a8⟩ : RI))) ((0 : Int)) : Zda)
    )
   else
   none
  else
  none
 )

inductive Zbc where
 | r0 (w0 : List RG) (w19 : Int)

def Zco (a0 : Int) (a1 : Int) (a2 : Int) (a3 : Int) (L4 : List RG) (L5 : List RF) (W6 : Nat → List Int) (N : Nat) : Option Zbc :=
 if (0 : Int) < a3 then
  ((Zao (a0) (a1) (a3) (L4) (L5) (W6) N).bind fun r => match r with
  | .r0 y1_0 y1_1 =>
   if ¬ (y1_1 = (0 : Int)) then
    some (.r0 (L4) (y1_1) : Zbc)
   else
   if ¬ (a2 = (1 : Int)) then
    if ¬ (a2 = (2 : Int)) then
     if ¬ (a2 = (3 : Int)) then
      some (.r0 (L4) ((1 : Int)) : Zbc)
     else
     if (0 : Int) ≤ (i64.wrap (y1_0 - (1 : Int))) then
      if ((i64.wrap (y1_0 - (1 : Int)))).toNat < L4.length then
       some (.r0 ((L4.set ((i64.wrap (y1_0 - (1 : Int)))).toNat (⟨(L4.getD ((i64.wrap (y1_0 - (1 : Int)))).toNat RG.z).a0, (L4.getD ((i64.wrap (y1_0 - (1 : Int)))).toNat RG.z).a1, (L4.getD ((i64.wrap (y1_0 - (1 : Int)))).toNat RG.z).a2, a2, (L4.getD ((i64.wrap (y1_0 - (1 : Int)))).toNat RG.z).a4⟩ : RG))) ((0 : Int)) : Zbc)
      else
      none
     else
     none
    else
    if (0 : Int) ≤ (i64.wrap (y1_0 - (1 : Int))) then
     if ((i64.wrap (y1_0 - (1 : Int)))).toNat < L4.length then
      some (.r0 ((L4.set ((i64.wrap (y1_0 - (1 : Int)))).toNat (⟨(L4.getD ((i64.wrap (y1_0 - (1 : Int)))).toNat RG.z).a0, (L4.getD ((i64.wrap (y1_0 - (1 : Int)))).toNat RG.z).a1, (L4.getD ((i64.wrap (y1_0 - (1 : Int)))).toNat RG.z).a2, a2, (L4.getD ((i64.wrap (y1_0 - (1 : Int)))).toNat RG.z).a4⟩ : RG))) ((0 : Int)) : Zbc)
     else
     none
    else
    none
   else
   if (0 : Int) ≤ (i64.wrap (y1_0 - (1 : Int))) then
    if ((i64.wrap (y1_0 - (1 : Int)))).toNat < L4.length then
     some (.r0 ((L4.set ((i64.wrap (y1_0 - (1 : Int)))).toNat (⟨(L4.getD ((i64.wrap (y1_0 - (1 : Int)))).toNat RG.z).a0, (L4.getD ((i64.wrap (y1_0 - (1 : Int)))).toNat RG.z).a1, (L4.getD ((i64.wrap (y1_0 - (1 : Int)))).toNat RG.z).a2, a2, (L4.getD ((i64.wrap (y1_0 - (1 : Int)))).toNat RG.z).a4⟩ : RG))) ((0 : Int)) : Zbc)
    else
    none
   else
   none
  )
 else
 some (.r0 (L4) ((4 : Int)) : Zbc)

inductive Za5 where
 | r0

def Zas (L0 : List RG) (N : Nat) : Option Za5 :=
 if 0 < L0.length then
  if L0.length ≤ 100000 then
   some (.r0 : Za5)
  else
  none
 else
 none

inductive ZaI where
 | r0

def Za2 (L0 : List RF) (N : Nat) : Option ZaI :=
 if 0 < L0.length then
  if L0.length ≤ 100000 then
   some (.r0 : ZaI)
  else
  none
 else
 none

inductive ZbG where
 | r0

def Zv (L0 : List Int) (N : Nat) : Option ZbG :=
 if L0.length ≤ 100000 then
  some (.r0 : ZbG)
 else
 none

inductive ZcL where
 | r0
 | r1

def Zbz (a0 : Int) (L1 : List RG) (L2 : List RF) (W3 : Nat → List Int) (N : Nat) : Option ZcL :=
 if (0 : Int) < a0 then
  ((Zas (L1) N).bind fun r => match r with
  | .r0 =>
   ((Za2 (L2) N).bind fun r => match r with
   | .r0 =>
    ((Zv ((W3 0)) N).bind fun r => match r with
    | .r0 =>
     ((Zv ((W3 1)) N).bind fun r => match r with
     | .r0 =>
      ((Zv ((W3 2)) N).bind fun r => match r with
      | .r0 =>
       ((Zv ((W3 3)) N).bind fun r => match r with
       | .r0 =>
        ((Zv ((W3 4)) N).bind fun r => match r with
        | .r0 =>
         ((Zv ((W3 5)) N).bind fun r => match r with
         | .r0 =>
          ((Zv ((W3 6)) N).bind fun r => match r with
          | .r0 =>
           ((Zv ((W3 7)) N).bind fun r => match r with
           | .r0 =>
            ((Zv ((W3 8)) N).bind fun r => match r with
            | .r0 =>
             ((Zv ((W3 9)) N).bind fun r => match r with
             | .r0 =>
              ((Zv ((W3 10)) N).bind fun r => match r with
              | .r0 =>
               ((Zv ((W3 11)) N).bind fun r => match r with
               | .r0 =>
                ((Zv ((W3 12)) N).bind fun r => match r with
                | .r0 =>
                 ((Zv ((W3 13)) N).bind fun r => match r with
                 | .r0 =>
                  ((Zv ((W3 14)) N).bind fun r => match r with
                  | .r0 =>
                   ((Zv ((W3 15)) N).bind fun r => match r with
                   | .r0 =>
                    ((Zv ((W3 16)) N).bind fun r => match r with
                    | .r0 =>
                     some (.r0 : ZcL)
                    )
                   )
                  )
                 )
                )
               )
              )
             )
            )
           )
          )
         )
        )
       )
      )
     )
    )
   )
  )
 else
 some (.r1 : ZcL)

inductive Ze where
 | r0 (w0 : Bool) (w2 : List RI) (w3 : List Int) (w4 : List RF) (w6 : List RG) (w7 : List RF) (w8 : Nat → List Int)

def Zbl (a0 : Int) (a1 : Int) (a2 : Int) (a3 : Int) (a4 : Int) (b5 : Bool) (a6 : Int) (a7 : Int) (a8 : Int) (a9 : Int) (a10 : Int) (L11 : List RI) (L12 : List Int) (L13 : List RF) (a14 : Int) (L15 : List RG) (L16 : List RF) (W17 : Nat → List Int) (N : Nat) : Option Ze :=
 ((Zbx (a0) (a1) (a2) (a3) (a4) (b5) (a6) (a7) (a8) (a9) (a10) (L11) (L12) (L13) (a14) (L15) (L16) (W17) N).bind fun r => match r with
 | .r0 y0_0 y0_1 =>
  if (0 : Int) ≤ a0 then
   if (a0 % (8 : Int)) = (0 : Int) then
    ((Zaw (a1) (a2) (a3) (a14) (L15) (L16) (W17) N).bind fun r => match r with
    | .r0 y3_0 y3_1 y3_2 y3_3 y3_4 y3_5 =>
     ((Zaq (a10) (L11) (L12) (a1) (a2) (a3) N).bind fun r => match r with
     | .r0 y4_0 =>
      if y4_0 = (0 : Int) then
       if L13.length ≤ 100000 then
        if (y3_0 = (0 : Int) ∧ y3_1 = (0 : Int)) then
         if y3_2 = y4_0 then
          some (.r0 (true) (L11) (L12) ((L13 ++ ([(⟨(0 : Int), (0 : Int)⟩ : RF)] : List RF))) (y3_3) (y3_4) (y3_5) : Ze)
         else
         some (.r0 (false) (L11) (L12) ((L13 ++ ([(⟨(0 : Int), (0 : Int)⟩ : RF)] : List RF))) (y3_3) (y3_4) (y3_5) : Ze)
        else
        some (.r0 (false) (L11) (L12) ((L13 ++ ([(⟨(0 : Int), (0 : Int)⟩ : RF)] : List RF))) (y3_3) (y3_4) (y3_5) : Ze)
       else
       none
      else
      if (y3_0 = (0 : Int) ∧ y3_1 = (0 : Int)) then
       if y3_2 = y4_0 then
        some (.r0 (true) (L11) (L12) (L13) (y3_3) (y3_4) (y3_5) : Ze)
       else
       some (.r0 (false) (L11) (L12) (L13) (y3_3) (y3_4) (y3_5) : Ze)
      else
      some (.r0 (false) (L11) (L12) (L13) (y3_3) (y3_4) (y3_5) : Ze)
     | .r1 y4_0 y4_1 y4_2 =>
      if L13.length ≤ 100000 then
       if (y3_0 = y4_1 ∧ y3_1 = y4_2) then
        if y3_2 = (0 : Int) then
         some (.r0 (true) (y4_0) (([] : List Int)) ((L13 ++ ([(⟨y4_1, y4_2⟩ : RF)] : List RF))) (y3_3) (y3_4) (y3_5) : Ze)
        else
        some (.r0 (false) (y4_0) (([] : List Int)) ((L13 ++ ([(⟨y4_1, y4_2⟩ : RF)] : List RF))) (y3_3) (y3_4) (y3_5) : Ze)
       else
       some (.r0 (false) (y4_0) (([] : List Int)) ((L13 ++ ([(⟨y4_1, y4_2⟩ : RF)] : List RF))) (y3_3) (y3_4) (y3_5) : Ze)
      else
      none
     | .r2 y4_0 y4_1 y4_2 y4_3 =>
      if L13.length ≤ 100000 then
       if (y3_0 = y4_2 ∧ y3_1 = y4_3) then
        if y3_2 = (0 : Int) then
         some (.r0 (true) (y4_0) (y4_1) ((L13 ++ ([(⟨y4_2, y4_3⟩ : RF)] : List RF))) (y3_3) (y3_4) (y3_5) : Ze)
        else
        some (.r0 (false) (y4_0) (y4_1) ((L13 ++ ([(⟨y4_2, y4_3⟩ : RF)] : List RF))) (y3_3) (y3_4) (y3_5) : Ze)
       else
       some (.r0 (false) (y4_0) (y4_1) ((L13 ++ ([(⟨y4_2, y4_3⟩ : RF)] : List RF))) (y3_3) (y3_4) (y3_5) : Ze)
      else
      none
     | .r3 y4_0 y4_1 y4_2 =>
      if L13.length ≤ 100000 then
       if (y3_0 = y4_1 ∧ y3_1 = y4_2) then
        if y3_2 = (0 : Int) then
         some (.r0 (true) (y4_0) (L12) ((L13 ++ ([(⟨y4_1, y4_2⟩ : RF)] : List RF))) (y3_3) (y3_4) (y3_5) : Ze)
        else
        some (.r0 (false) (y4_0) (L12) ((L13 ++ ([(⟨y4_1, y4_2⟩ : RF)] : List RF))) (y3_3) (y3_4) (y3_5) : Ze)
       else
       some (.r0 (false) (y4_0) (L12) ((L13 ++ ([(⟨y4_1, y4_2⟩ : RF)] : List RF))) (y3_3) (y3_4) (y3_5) : Ze)
      else
      none
     )
    )
   else
   if (a0 % (8 : Int)) = (1 : Int) then
    ((Zaw (a1) (a2) (a3) (a14) (L15) (L16) (W17) N).bind fun r => match r with
    | .r0 y4_0 y4_1 y4_2 y4_3 y4_4 y4_5 =>
     ((Zaq (a10) (L11) (L12) (a1) (a2) (a3) N).bind fun r => match r with
     | .r0 y5_0 =>
      if y5_0 = (0 : Int) then
       if L13.length ≤ 100000 then
        if (y4_0 = (0 : Int) ∧ y4_1 = (0 : Int)) then
         if y4_2 = y5_0 then
          some (.r0 (true) (L11) (L12) ((L13 ++ ([(⟨(0 : Int), (0 : Int)⟩ : RF)] : List RF))) (y4_3) (y4_4) (y4_5) : Ze)
         else
         some (.r0 (false) (L11) (L12) ((L13 ++ ([(⟨(0 : Int), (0 : Int)⟩ : RF)] : List RF))) (y4_3) (y4_4) (y4_5) : Ze)
        else
        some (.r0 (false) (L11) (L12) ((L13 ++ ([(⟨(0 : Int), (0 : Int)⟩ : RF)] : List RF))) (y4_3) (y4_4) (y4_5) : Ze)
       else
       none
      else
      if (y4_0 = (0 : Int) ∧ y4_1 = (0 : Int)) then
       if y4_2 = y5_0 then
        some (.r0 (true) (L11) (L12) (L13) (y4_3) (y4_4) (y4_5) : Ze)
       else
       some (.r0 (false) (L11) (L12) (L13) (y4_3) (y4_4) (y4_5) : Ze)
      else
      some (.r0 (false) (L11) (L12) (L13) (y4_3) (y4_4) (y4_5) : Ze)
     | .r1 y5_0 y5_1 y5_2 =>
      if L13.length ≤ 100000 then
       if (y4_0 = y5_1 ∧ y4_1 = y5_2) then
        if y4_2 = (0 : Int) then
         some (.r0 (true) (y5_0) (([] : List Int)) ((L13 ++ ([(⟨y5_1, y5_2⟩ : RF)] : List RF))) (y4_3) (y4_4) (y4_5) : Ze)
        else
        some (.r0 (false) (y5_0) (([] : List Int)) ((L13 ++ ([(⟨y5_1, y5_2⟩ : RF)] : List RF))) (y4_3) (y4_4) (y4_5) : Ze)
       else
       some (.r0 (false) (y5_0) (([] : List Int)) ((L13 ++ ([(⟨y5_1, y5_2⟩ : RF)] : List RF))) (y4_3) (y4_4) (y4_5) : Ze)
      else
      none
     | .r2 y5_0 y5_1 y5_2 y5_3 =>
      if L13.length ≤ 100000 then
       if (y4_0 = y5_2 ∧ y4_1 = y5_3) then
        if y4_2 = (0 : Int) then
         some (.r0 (true) (y5_0) (y5_1) ((L13 ++ ([(⟨y5_2, y5_3⟩ : RF)] : List RF))) (y4_3) (y4_4) (y4_5) : Ze)
        else
        some (.r0 (false) (y5_0) (y5_1) ((L13 ++ ([(⟨y5_2, y5_3⟩ : RF)] : List RF))) (y4_3) (y4_4) (y4_5) : Ze)
       else
       some (.r0 (false) (y5_0) (y5_1) ((L13 ++ ([(⟨y5_2, y5_3⟩ : RF)] : List RF))) (y4_3) (y4_4) (y4_5) : Ze)
      else
      none
     | .r3 y5_0 y5_1 y5_2 =>
      if L13.length ≤ 100000 then
       if (y4_0 = y5_1 ∧ y4_1 = y5_2) then
        if y4_2 = (0 : Int) then
         some (.r0 (true) (y5_0) (L12) ((L13 ++ ([(⟨y5_1, y5_2⟩ : RF)] : List RF))) (y4_3) (y4_4) (y4_5) : Ze)
        else
        some (.r0 (false) (y5_0) (L12) ((L13 ++ ([(⟨y5_1, y5_2⟩ : RF)] : List RF))) (y4_3) (y4_4) (y4_5) : Ze)
       else
       some (.r0 (false) (y5_0) (L12) ((L13 ++ ([(⟨y5_1, y5_2⟩ : RF)] : List RF))) (y4_3) (y4_4) (y4_5) : Ze)
      else
      none
     )
    )
   else
   if (a0 % (8 : Int)) = (2 : Int) then
    ((Zbf (y0_0) (y0_1) (a14) (L15) (L16) (W17) N).bind fun r => match r with
    | .r0 y5_0 y5_1 y5_2 =>
     ((Zba (a10) (L11) (L12) (y0_0) (y0_1) N).bind fun r => match r with
     | .r0 y6_0 y6_1 =>
      if y5_0 = y6_1 then
       some (.r0 (true) (y6_0) (L12) (L13) (y5_1) (L16) (y5_2) : Ze)
      else
      some (.r0 (false) (y6_0) (L12) (L13) (y5_1) (L16) (y5_2) : Ze)
     | .r1 y6_0 y6_1 =>
      if y5_0 = (0 : Int) then
       some (.r0 (true) (y6_0) (y6_1) (L13) (y5_1) (L16) (y5_2) : Ze)
      else
      some (.r0 (false) (y6_0) (y6_1) (L13) (y5_1) (L16) (y5_2) : Ze)
     )
    )
   else
   if (a0 % (8 : Int)) = (3 : Int) then
    ((Zcu (y0_0) (y0_1) (a1) (a14) (L15) (L16) (W17) N).bind fun r => match r with
    | .r0 y6_0 y6_1 y6_2 =>
     ((Zex (a10) (L11) (L12) (y0_0) (y0_1) (a1) N).bind fun r => match r with
     | .r0 y7_0 y7_1 y7_2 =>
      if (y6_0 = y7_0 ∧ y6_1 = y7_1) then
       if y6_2 = y7_2 then
        some (.r0 (true) (L11) (L12) (L13) (L15) (L16) (W17) : Ze)
       else
       some (.r0 (false) (L11) (L12) (L13) (L15) (L16) (W17) : Ze)
      else
      some (.r0 (false) (L11) (L12) (L13) (L15) (L16) (W17) : Ze)
     )
    )
   else
   if (a0 % (8 : Int)) = (4 : Int) then
    ((ZaP (a0) (a1) (a2) (a3) (a4) (b5) (a6) (a7) (a8) (a9) (a10) (L11) (L12) (L13) (a14) (L15) (L16) (W17) N).bind fun r => match r with
    | .r0 y7_0 y7_1 =>
     ((ZaH (y0_0) (y0_1) (a1) (y7_0) (y7_1) (a14) (L15) (L16) (W17) N).bind fun r => match r with
     | .r0 y8_0 y8_1 =>
      ((ZaP (a0) (a1) (a2) (a3) (a4) (b5) (a6) (a7) (a8) (a9) (a10) (L11) (L12) (L13) (a14) (L15) (y8_0) (W17) N).bind fun r => match r with
      | .r0 y9_0 y9_1 =>
       ((Zc3 (a10) (L11) (L12) (y0_0) (y0_1) (a1) (y9_0) (y9_1) N).bind fun r => match r with
       | .r0 y10_0 y10_1 =>
        if y8_1 = y10_1 then
         some (.r0 (true) (y10_0) (L12) (L13) (L15) (y8_0) (W17) : Ze)
        else
        some (.r0 (false) (y10_0) (L12) (L13) (L15) (y8_0) (W17) : Ze)
       )
      )
     )
    )
   else
   if (a0 % (8 : Int)) = (5 : Int) then
    ((ZaP (a0) (a1) (a2) (a3) (a4) (b5) (a6) (a7) (a8) (a9) (a10) (L11) (L12) (L13) (a14) (L15) (L16) (W17) N).bind fun r => match r with
    | .r0 y8_0 y8_1 =>
     ((ZaH (y0_0) (y0_1) (a1) (y8_0) (y8_1) (a14) (L15) (L16) (W17) N).bind fun r => match r with
     | .r0 y9_0 y9_1 =>
      ((ZaP (a0) (a1) (a2) (a3) (a4) (b5) (a6) (a7) (a8) (a9) (a10) (L11) (L12) (L13) (a14) (L15) (y9_0) (W17) N).bind fun r => match r with
      | .r0 y10_0 y10_1 =>
       ((Zc3 (a10) (L11) (L12) (y0_0) (y0_1) (a1) (y10_0) (y10_1) N).bind fun r => match r with
       | .r0 y11_0 y11_1 =>
        if y9_1 = y11_1 then
         some (.r0 (true) (y11_0) (L12) (L13) (L15) (y9_0) (W17) : Ze)
        else
        some (.r0 (false) (y11_0) (L12) (L13) (L15) (y9_0) (W17) : Ze)
       )
      )
     )
    )
   else
   if (a0 % (8 : Int)) = (6 : Int) then
    if (8 : Int) ≤ a2 then
     if (a2 % (2 : Int)) = (0 : Int) then
      ((ZaV (y0_0) (y0_1) (a14) (L15) (L16) (W17) N).bind fun r => match r with
      | .r0 y11_0 y11_1 =>
       ((Zax (a10) (L11) (L12) (y0_0) (y0_1) N).bind fun r => match r with
       | .r0 y12_0 y12_1 =>
        if ¬ (y12_1 = (0 : Int)) then
         if y11_1 = y12_1 then
          some (.r0 (true) (L11) (L12) (L13) (y11_0) (L16) (W17) : Ze)
         else
         some (.r0 (false) (L11) (L12) (L13) (y11_0) (L16) (W17) : Ze)
        else
        if (0 : Int) ≤ y12_0 then
         if (y12_0).toNat < L11.length then
          if ¬ ((L11.getD (y12_0).toNat RI.z).a6 = (1 : Int)) then
           if y11_1 = y12_1 then
            some (.r0 (true) (L11) (L12) (L13) (y11_0) (L16) (W17) : Ze)
           else
           some (.r0 (false) (L11) (L12) (L13) (y11_0) (L16) (W17) : Ze)
          else
          ((Zdk (a10) (L11) (L12) (y0_0) (y0_1) ((2 : Int)) N).bind fun r => match r with
          | .r0 y17_0 y17_1 =>
           if y11_1 = y17_1 then
            some (.r0 (true) (y17_0) (L12) (L13) (y11_0) (L16) (W17) : Ze)
           else
           some (.r0 (false) (y17_0) (L12) (L13) (y11_0) (L16) (W17) : Ze)
          )
         else
         none
        else
        none
       )
      )
     else
     ((Zco (y0_0) (y0_1) (a2) (a14) (L15) (L16) (W17) N).bind fun r => match r with
     | .r0 y11_0 y11_1 =>
      ((Zdk (a10) (L11) (L12) (y0_0) (y0_1) (a2) N).bind fun r => match r with
      | .r0 y12_0 y12_1 =>
       if y11_1 = y12_1 then
        some (.r0 (true) (y12_0) (L12) (L13) (y11_0) (L16) (W17) : Ze)
       else
       some (.r0 (false) (y12_0) (L12) (L13) (y11_0) (L16) (W17) : Ze)
      )
     )
    else
    ((Zco (y0_0) (y0_1) (a2) (a14) (L15) (L16) (W17) N).bind fun r => match r with
    | .r0 y10_0 y10_1 =>
     ((Zdk (a10) (L11) (L12) (y0_0) (y0_1) (a2) N).bind fun r => match r with
     | .r0 y11_0 y11_1 =>
      if y10_1 = y11_1 then
       some (.r0 (true) (y11_0) (L12) (L13) (y10_0) (L16) (W17) : Ze)
      else
      some (.r0 (false) (y11_0) (L12) (L13) (y10_0) (L16) (W17) : Ze)
     )
    )
   else
   ((Zbz (a14) (L15) (L16) (W17) N).bind fun r => match r with
   | .r0 =>
    ((Zaw ((3 : Int)) ((0 : Int)) ((0 : Int)) (a14) (L15) (L16) (W17) N).bind fun r => match r with
    | .r0 y10_0 y10_1 y10_2 y10_3 y10_4 y10_5 =>
     if (0 : Int) < a14 then
      ((ZaS ((1 : Int)) ((1 : Int)) N).bind fun r => match r with
      | .r0 y12_0 y12_1 y12_2 =>
       ((ZaH (y12_0) (y12_1) ((8 : Int)) ((1 : Int)) ((77 : Int)) (a14) (y10_3) (y10_4) (y10_5) N).bind fun r => match r with
       | .r0 y13_0 y13_1 =>
        some (.r0 (true) (L11) (L12) (L13) (L15) (L16) (W17) : Ze)
       )
      )
     else
     ((ZaH ((0 : Int)) ((0 : Int)) ((8 : Int)) ((1 : Int)) ((77 : Int)) (a14) (y10_3) (y10_4) (y10_5) N).bind fun r => match r with
     | .r0 y12_0 y12_1 =>
      some (.r0 (true) (L11) (L12) (L13) (L15) (L16) (W17) : Ze)
     )
    )
   | .r1 =>
    some (.r0 (false) (L11) (L12) (L13) (L15) (L16) (W17) : Ze)
   )
  else
  none
 )

inductive Zce where
 | r0 (w19 : Int) (w20 : Int) (w21 : Int) (w22 : Int) (w23 : Int) (w24 : Bool)

def Zcv (a0 : Int) (a1 : Int) (a2 : Int) (L3 : List RG) (L4 : List RF) (W5 : Nat → List Int) (N : Nat) : Option Zce :=
 if (0 : Int) < a2 then
  ((Zao (a0) (a1) (a2) (L3) (L4) (W5) N).bind fun r => match r with
  | .r0 y1_0 y1_1 =>
   if ¬ (y1_1 = (0 : Int)) then
    some (.r0 ((0 : Int)) ((0 : Int)) ((0 : Int)) ((0 : Int)) ((0 : Int)) (false) : Zce)
   else
   if (0 : Int) ≤ (i64.wrap (y1_0 - (1 : Int))) then
    if ((i64.wrap (y1_0 - (1 : Int)))).toNat < L3.length then
     some (.r0 ((L3.getD ((i64.wrap (y1_0 - (1 : Int)))).toNat RG.z).a0) ((L3.getD ((i64.wrap (y1_0 - (1 : Int)))).toNat RG.z).a1) ((L3.getD ((i64.wrap (y1_0 - (1 : Int)))).toNat RG.z).a2) ((L3.getD ((i64.wrap (y1_0 - (1 : Int)))).toNat RG.z).a3) ((L3.getD ((i64.wrap (y1_0 - (1 : Int)))).toNat RG.z).a4) (true) : Zce)
    else
    none
   else
   none
  )
 else
 some (.r0 ((0 : Int)) ((0 : Int)) ((0 : Int)) ((0 : Int)) ((0 : Int)) (false) : Zce)

inductive Ze8 where
 | r0 (w0 : Int) (w1 : Int) (w2 : Int) (w3 : Int) (w4 : Int) (w5 : Bool)

def Zey (a0 : Int) (L1 : List RI) (L2 : List Int) (a3 : Int) (a4 : Int) (N : Nat) : Option Ze8 :=
 ((Zax (a0) (L1) (L2) (a3) (a4) N).bind fun r => match r with
 | .r0 y0_0 y0_1 =>
  if ¬ (y0_1 = (0 : Int)) then
   some (.r0 ((0 : Int)) ((0 : Int)) ((0 : Int)) ((0 : Int)) ((0 : Int)) (false) : Ze8)
  else
  if (0 : Int) ≤ y0_0 then
   if (y0_0).toNat < L1.length then
    some (.r0 ((L1.getD (y0_0).toNat RI.z).a3) ((L1.getD (y0_0).toNat RI.z).a4) ((L1.getD (y0_0).toNat RI.z).a5) ((L1.getD (y0_0).toNat RI.z).a6) ((L1.getD (y0_0).toNat RI.z).a7) (true) : Ze8)
   else
   none
  else
  none
 )

inductive Za6 where
 | r0

def Zae (L0 : List RF) (n1 : Nat) (n2 : Nat) (n3 : Nat) (N : Nat) : Option Za6 :=
 if (n1 + n2) ≤ L0.length then
  if n2 ≤ 100000 then
   some (.r0 : Za6)
  else
  none
 else
 none

inductive heap_Heap_ObjectsR where
 | r0
 | r1 (w19 : List RH)

inductive heap_Heap_ObjectsX where
 | h1m0 (v19 : Int)
 | h1m1 (v19 : Int) (v21 : List RH)

def Zbd (a0 : Int) (L1 : List RG) (L2 : List RF) (W3 : Nat → List Int) (N : Nat) (v19 : Int) : Option (heap_Heap_ObjectsX ⊕ heap_Heap_ObjectsR) :=
 if (1 : Int) ≤ v19 then
  if v19 ≤ (1000000 : Int) then
   if v19 ≤ (L1.length : Int) then
    if (L1.getD ((v19 - (1 : Int))).toNat RG.z).a3 = (0 : Int) then
     some (.inl (.h1m0 ((i64.wrap (v19 + (i64.wrap ((L1.getD ((v19 - (1 : Int))).toNat RG.z).a1 + (1 : Int)))))) : heap_Heap_ObjectsX))
    else
    ((ZaS ((L1.getD ((v19 - (1 : Int))).toNat RG.z).a0) (v19) N).bind fun r => match r with
    | .r0 y4_0 y4_1 y4_2 =>
     if v19 ≤ (i64.wrap (v19 + (L1.getD ((v19 - (1 : Int))).toNat RG.z).a1)) then
      if (i64.wrap (v19 + (L1.getD ((v19 - (1 : Int))).toNat RG.z).a1)) ≤ (L2.length : Int) then
       ((Zae (L2) ((v19).toNat) ((((i64.wrap (v19 + (L1.getD ((v19 - (1 : Int))).toNat RG.z).a1))).toNat - (v19).toNat)) ((L2.length - (v19).toNat)) N).bind fun r => match r with
       | .r0 =>
        some (.inl (.h1m1 ((i64.wrap (v19 + (i64.wrap ((L1.getD ((v19 - (1 : Int))).toNat RG.z).a1 + (1 : Int)))))) (([(⟨y4_0, y4_1, (L1.getD ((v19 - (1 : Int))).toNat RG.z).a0, (L1.getD ((v19 - (1 : Int))).toNat RG.z).a1, (L1.getD ((v19 - (1 : Int))).toNat RG.z).a2, (L1.getD ((v19 - (1 : Int))).toNat RG.z).a3, (L1.getD ((v19 - (1 : Int))).toNat RG.z).a4, ((L2.drop (v19).toNat).take (((i64.wrap (v19 + (L1.getD ((v19 - (1 : Int))).toNat RG.z).a1))).toNat - (v19).toNat))⟩ : RH)] : List RH)) : heap_Heap_ObjectsX))
       )
      else
      none
     else
     none
    )
   else
   some (.inr (.r0 : heap_Heap_ObjectsR))
  else
  none
 else
 none

def Zbe (a0 : Int) (L1 : List RG) (L2 : List RF) (W3 : Nat → List Int) (N : Nat) (v19 : Int) (v21 : List RH) : Option (heap_Heap_ObjectsX ⊕ heap_Heap_ObjectsR) :=
 if (1 : Int) ≤ v19 then
  if v19 ≤ (1000000 : Int) then
   if v19 ≤ (L1.length : Int) then
    if (L1.getD ((v19 - (1 : Int))).toNat RG.z).a3 = (0 : Int) then
     some (.inl (.h1m1 ((i64.wrap (v19 + (i64.wrap ((L1.getD ((v19 - (1 : Int))).toNat RG.z).a1 + (1 : Int)))))) (v21) : heap_Heap_ObjectsX))
    else
    ((ZaS ((L1.getD ((v19 - (1 : Int))).toNat RG.z).a0) (v19) N).bind fun r => match r with
    | .r0 y4_0 y4_1 y4_2 =>
     if v19 ≤ (i64.wrap (v19 + (L1.getD ((v19 - (1 : Int))).toNat RG.z).a1)) then
      if (i64.wrap (v19 + (L1.getD ((v19 - (1 : Int))).toNat RG.z).a1)) ≤ (L2.length : Int) then
       ((Zae (L2) ((v19).toNat) ((((i64.wrap (v19 + (L1.getD ((v19 - (1 : Int))).toNat RG.z).a1))).toNat - (v19).toNat)) ((L2.length - (v19).toNat)) N).bind fun r => match r with
       | .r0 =>
        if v21.length ≤ 100000 then
         some (.inl (.h1m1 ((i64.wrap (v19 + (i64.wrap ((L1.getD ((v19 - (1 : Int))).toNat RG.z).a1 + (1 : Int)))))) ((v21 ++ ([(⟨y4_0, y4_1, (L1.getD ((v19 - (1 : Int))).toNat RG.z).a0, (L1.getD ((v19 - (1 : Int))).toNat RG.z).a1, (L1.getD ((v19 - (1 : Int))).toNat RG.z).a2, (L1.getD ((v19 - (1 : Int))).toNat RG.z).a3, (L1.getD ((v19 - (1 : Int))).toNat RG.z).a4, ((L2.drop (v19).toNat).take (((i64.wrap (v19 + (L1.getD ((v19 - (1 : Int))).toNat RG.z).a1))).toNat - (v19).toNat))⟩ : RH)] : List RH))) : heap_Heap_ObjectsX))
        else
        none
       )
      else
      none
     else
     none
    )
   else
   some (.inr (.r1 (v21) : heap_Heap_ObjectsR))
  else
  none
 else
 none

def Za8 (a0 : Int) (L1 : List RG) (L2 : List RF) (W3 : Nat → List Int) (N : Nat) : heap_Heap_ObjectsX → Option (heap_Heap_ObjectsX ⊕ heap_Heap_ObjectsR)
 | .h1m0 v19 => Zbd a0 L1 L2 W3 N v19
 | .h1m1 v19 v21 => Zbe a0 L1 L2 W3 N v19 v21

def ZeI (a0 : Int) (L1 : List RG) (L2 : List RF) (W3 : Nat → List Int) (N : Nat) : Option (heap_Heap_ObjectsX ⊕ heap_Heap_ObjectsR) :=
 if (0 : Int) < a0 then
  some (.inl (.h1m0 ((1 : Int)) : heap_Heap_ObjectsX))
 else
 some (.inr (.r0 : heap_Heap_ObjectsR))

def Za9 (a0 : Int) (L1 : List RG) (L2 : List RF) (W3 : Nat → List Int) (N : Nat) : Option heap_Heap_ObjectsR := goM (Za8 a0 L1 L2 W3 N) N (ZeI a0 L1 L2 W3 N)

inductive Zap where
 | r0
 | r1 (w0 : List RH)

inductive ZE where
 | h1m0 (v0 : Nat)
 | h1m1 (v0 : List RH) (v1 : Nat)

def Zc6 (a0 : Int) (L1 : List RI) (L2 : List Int) (N : Nat) (v0 : Nat) : Option (ZE ⊕ Zap) :=
 if (v0 : Int) < (L1.length : Int) then
  if ¬ ((L1.getD v0 RI.z).a6 = (0 : Int)) then
   if (((v0 + 1) : Nat) : Int) ≤ (9223372036854775807 : Int) then
    some (.inl (.h1m1 (([(⟨(L1.getD v0 RI.z).a1, (L1.getD v0 RI.z).a2, (L1.getD v0 RI.z).a3, (L1.getD v0 RI.z).a4, (L1.getD v0 RI.z).a5, (L1.getD v0 RI.z).a6, (L1.getD v0 RI.z).a7, (L1.getD v0 RI.z).a8⟩ : RH)] : List RH)) ((v0 + 1)) : ZE))
   else
   none
  else
  if (((v0 + 1) : Nat) : Int) ≤ (9223372036854775807 : Int) then
   some (.inl (.h1m0 ((v0 + 1)) : ZE))
  else
  none
 else
 some (.inr (.r0 : Zap))

def Zc7 (a0 : Int) (L1 : List RI) (L2 : List Int) (N : Nat) (v0 : List RH) (v1 : Nat) : Option (ZE ⊕ Zap) :=
 if (v1 : Int) < (L1.length : Int) then
  if ¬ ((L1.getD v1 RI.z).a6 = (0 : Int)) then
   if v0.length ≤ 100000 then
    if (((v1 + 1) : Nat) : Int) ≤ (9223372036854775807 : Int) then
     some (.inl (.h1m1 ((v0 ++ ([(⟨(L1.getD v1 RI.z).a1, (L1.getD v1 RI.z).a2, (L1.getD v1 RI.z).a3, (L1.getD v1 RI.z).a4, (L1.getD v1 RI.z).a5, (L1.getD v1 RI.z).a6, (L1.getD v1 RI.z).a7, (L1.getD v1 RI.z).a8⟩ : RH)] : List RH))) ((v1 + 1)) : ZE))
    else
    none
   else
   none
  else
  if (((v1 + 1) : Nat) : Int) ≤ (9223372036854775807 : Int) then
   some (.inl (.h1m1 (v0) ((v1 + 1)) : ZE))
  else
  none
 else
 some (.inr (.r1 (v0) : Zap))

def Zb1 (a0 : Int) (L1 : List RI) (L2 : List Int) (N : Nat) : ZE → Option (ZE ⊕ Zap)
 | .h1m0 v0 => Zc6 a0 L1 L2 N v0
 | .h1m1 v0 v1 => Zc7 a0 L1 L2 N v0 v1

def Zge (a0 : Int) (L1 : List RI) (L2 : List Int) (N : Nat) : Option (ZE ⊕ Zap) :=
 some (.inl (.h1m0 (0) : ZE))

def Zbv (a0 : Int) (L1 : List RI) (L2 : List Int) (N : Nat) : Option Zap := goM (Zb1 a0 L1 L2 N) N (Zge a0 L1 L2 N)

inductive ZbH where
 | r0 (w0 : Bool)

inductive ZaW where
 | h1m0 (v2 : Nat)

def ZdH (L0 : List RF) (L1 : List RF) (N : Nat) (v2 : Nat) : Option (ZaW ⊕ ZbH) :=
 if (v2 : Int) < (L0.length : Int) then
  if v2 < L1.length then
   if ¬ (((L0.getD v2 RF.z).a0 = (L1.getD v2 RF.z).a0 ∧ (L0.getD v2 RF.z).a1 = (L1.getD v2 RF.z).a1)) then
    some (.inr (.r0 (false) : ZbH))
   else
   if (((v2 + 1) : Nat) : Int) ≤ (9223372036854775807 : Int) then
    some (.inl (.h1m0 ((v2 + 1)) : ZaW))
   else
   none
  else
  none
 else
 some (.inr (.r0 (true) : ZbH))

def Zec (L0 : List RF) (L1 : List RF) (N : Nat) : ZaW → Option (ZaW ⊕ ZbH)
 | .h1m0 v2 => ZdH L0 L1 N v2

def ZhT (L0 : List RF) (L1 : List RF) (N : Nat) : Option (ZaW ⊕ ZbH) :=
 if ¬ ((L0.length : Int) = (L1.length : Int)) then
  some (.inr (.r0 (false) : ZbH))
 else
 some (.inl (.h1m0 (0) : ZaW))

def Zgf (L0 : List RF) (L1 : List RF) (N : Nat) : Option ZbH := goM (Zec L0 L1 N) N (ZhT L0 L1 N)

inductive Za4 where
 | r0 (w0 : Bool)

inductive Zay where
 | h1m0 (v2 : Nat)

def Zc8 (L0 : List RH) (L1 : List RH) (N : Nat) (v2 : Nat) : Option (Zay ⊕ Za4) :=
 if (v2 : Int) < (L0.length : Int) then
  if v2 < L1.length then
   if ((L0.getD v2 RH.z).a0 = (L1.getD v2 RH.z).a0 ∧ (L0.getD v2 RH.z).a1 = (L1.getD v2 RH.z).a1) then
    if ((L0.getD v2 RH.z).a2 = (L1.getD v2 RH.z).a2 ∧ (L0.getD v2 RH.z).a3 = (L1.getD v2 RH.z).a3 ∧ (L0.getD v2 RH.z).a4 = (L1.getD v2 RH.z).a4 ∧ (L0.getD v2 RH.z).a5 = (L1.getD v2 RH.z).a5 ∧ (L0.getD v2 RH.z).a6 = (L1.getD v2 RH.z).a6) then
     ((Zgf ((L0.getD v2 RH.z).a7) ((L1.getD v2 RH.z).a7) N).bind fun r => match r with
     | .r0 y4_0 =>
      if ¬ (y4_0 = true) then
       some (.inr (.r0 (false) : Za4))
      else
      if (((v2 + 1) : Nat) : Int) ≤ (9223372036854775807 : Int) then
       some (.inl (.h1m0 ((v2 + 1)) : Zay))
      else
      none
     )
    else
    some (.inr (.r0 (false) : Za4))
   else
   some (.inr (.r0 (false) : Za4))
  else
  none
 else
 some (.inr (.r0 (true) : Za4))

def ZcX (L0 : List RH) (L1 : List RH) (N : Nat) : Zay → Option (Zay ⊕ Za4)
 | .h1m0 v2 => Zc8 L0 L1 N v2

def Zgg (L0 : List RH) (L1 : List RH) (N : Nat) : Option (Zay ⊕ Za4) :=
 if ¬ ((L0.length : Int) = (L1.length : Int)) then
  some (.inr (.r0 (false) : Za4))
 else
 some (.inl (.h1m0 (0) : Zay))

def ZbL (L0 : List RH) (L1 : List RH) (N : Nat) : Option Za4 := goM (ZcX L0 L1 N) N (Zgg L0 L1 N)

inductive Zu where
 | r0 (w20 : Bool)

def Zcf (a0 : Int) (a1 : Int) (a2 : Int) (a3 : Int) (a4 : Int) (b5 : Bool) (a6 : Int) (a7 : Int) (a8 : Int) (a9 : Int) (a10 : Int) (L11 : List RI) (L12 : List Int) (L13 : List RF) (a14 : Int) (L15 : List RG) (L16 : List RF) (W17 : Nat → List Int) (N : Nat) : Option Zu :=
 ((Zbx (a0) (a1) (a2) (a3) (a4) (b5) (a6) (a7) (a8) (a9) (a10) (L11) (L12) (L13) (a14) (L15) (L16) (W17) N).bind fun r => match r with
 | .r0 y0_0 y0_1 =>
  ((Zcv (y0_0) (y0_1) (a14) (L15) (L16) (W17) N).bind fun r => match r with
  | .r0 y1_0 y1_1 y1_2 y1_3 y1_4 y1_5 =>
   ((Zbx (a0) (a1) (a2) (a3) (a4) (b5) (a6) (a7) (a8) (a9) (a10) (L11) (L12) (L13) (a14) (L15) (L16) (W17) N).bind fun r => match r with
   | .r0 y2_0 y2_1 =>
    ((Zey (a10) (L11) (L12) (y2_0) (y2_1) N).bind fun r => match r with
    | .r0 y3_0 y3_1 y3_2 y3_3 y3_4 y3_5 =>
     if (y1_0 = y3_0 ∧ y1_1 = y3_1 ∧ y1_2 = y3_2 ∧ y1_3 = y3_3 ∧ y1_4 = y3_4) then
      if y1_5 = y3_5 then
       ((Za9 (a14) (L15) (L16) (W17) N).bind fun r => match r with
       | .r0 =>
        ((Zbv (a10) (L11) (L12) N).bind fun r => match r with
        | .r0 =>
         ((ZbL (([] : List RH)) (([] : List RH)) N).bind fun r => match r with
         | .r0 y8_0 =>
          if y8_0 = true then
           ((Zav (a14) (L15) (L16) (W17) N).bind fun r => match r with
           | .r0 y10_0 =>
            ((Zcd (a10) (L11) (L12) N).bind fun r => match r with
            | .r0 y11_0 =>
             if y10_0 = y11_0 then
              if (0 : Int) < a14 then
               ((ZaS ((1 : Int)) ((1 : Int)) N).bind fun r => match r with
               | .r0 y14_0 y14_1 y14_2 =>
                ((Zag ((1 : Int)) ((1 : Int)) N).bind fun r => match r with
                | .r0 y15_0 y15_1 =>
                 if (y14_0 = y15_0 ∧ y14_1 = y15_1) then
                  some (.r0 (true) : Zu)
                 else
                 some (.r0 (false) : Zu)
                )
               )
              else
              ((Zag ((1 : Int)) ((1 : Int)) N).bind fun r => match r with
              | .r0 y14_0 y14_1 =>
               if ((0 : Int) = y14_0 ∧ (0 : Int) = y14_1) then
                some (.r0 (true) : Zu)
               else
               some (.r0 (false) : Zu)
              )
             else
             some (.r0 (false) : Zu)
            )
           )
          else
          some (.r0 (false) : Zu)
         )
        | .r1 y7_0 =>
         ((ZbL (([] : List RH)) (y7_0) N).bind fun r => match r with
         | .r0 y8_0 =>
          if y8_0 = true then
           ((Zav (a14) (L15) (L16) (W17) N).bind fun r => match r with
           | .r0 y10_0 =>
            ((Zcd (a10) (L11) (L12) N).bind fun r => match r with
            | .r0 y11_0 =>
             if y10_0 = y11_0 then
              if (0 : Int) < a14 then
               ((ZaS ((1 : Int)) ((1 : Int)) N).bind fun r => match r with
               | .r0 y14_0 y14_1 y14_2 =>
                ((Zag ((1 : Int)) ((1 : Int)) N).bind fun r => match r with
                | .r0 y15_0 y15_1 =>
                 if (y14_0 = y15_0 ∧ y14_1 = y15_1) then
                  some (.r0 (true) : Zu)
                 else
                 some (.r0 (false) : Zu)
                )
               )
              else
              ((Zag ((1 : Int)) ((1 : Int)) N).bind fun r => match r with
              | .r0 y14_0 y14_1 =>
               if ((0 : Int) = y14_0 ∧ (0 : Int) = y14_1) then
                some (.r0 (true) : Zu)
               else
               some (.r0 (false) : Zu)
              )
             else
             some (.r0 (false) : Zu)
            )
           )
          else
          some (.r0 (false) : Zu)
         )
        )
       | .r1 y6_0 =>
        ((Zbv (a10) (L11) (L12) N).bind fun r => match r with
        | .r0 =>
         ((ZbL (y6_0) (([] : List RH)) N).bind fun r => match r with
         | .r0 y8_0 =>
          if y8_0 = true then
           ((Zav (a14) (L15) (L16) (W17) N).bind fun r => match r with
           | .r0 y10_0 =>
            ((Zcd (a10) (L11) (L12) N).bind fun r => match r with
            | .r0 y11_0 =>
             if y10_0 = y11_0 then
              if (0 : Int) < a14 then
               ((ZaS ((1 : Int)) ((1 : Int)) N).bind fun r => match r with
               | .r0 y14_0 y14_1 y14_2 =>
                ((Zag ((1 : Int)) ((1 : Int)) N).bind fun r => match r with
                | .r0 y15_0 y15_1 =>
                 if (y14_0 = y15_0 ∧ y14_1 = y15_1) then
                  some (.r0 (true) : Zu)
                 else
                 some (.r0 (false) : Zu)
                )
               )
              else
              ((Zag ((1 : Int)) ((1 : Int)) N).bind fun r => match r with
              | .r0 y14_0 y14_1 =>
               if ((0 : Int) = y14_0 ∧ (0 : Int) = y14_1) then
                some (.r0 (true) : Zu)
               else
               some (.r0 (false) : Zu)
              )
             else
             some (.r0 (false) : Zu)
            )
           )
          else
          some (.r0 (false) : Zu)
         )
        | .r1 y7_0 =>
         ((ZbL (y6_0) (y7_0) N).bind fun r => match r with
         | .r0 y8_0 =>
          if y8_0 = true then
           ((Zav (a14) (L15) (L16) (W17) N).bind fun r => match r with
           | .r0 y10_0 =>
            ((Zcd (a10) (L11) (L12) N).bind fun r => match r with
            | .r0 y11_0 =>
             if y10_0 = y11_0 then
              if (0 : Int) < a14 then
               ((ZaS ((1 : Int)) ((1 : Int)) N).bind fun r => match r with
               | .r0 y14_0 y14_1 y14_2 =>
                ((Zag ((1 : Int)) ((1 : Int)) N).bind fun r => match r with
                | .r0 y15_0 y15_1 =>
                 if (y14_0 = y15_0 ∧ y14_1 = y15_1) then
                  some (.r0 (true) : Zu)
                 else
                 some (.r0 (false) : Zu)
                )
               )
              else
              ((Zag ((1 : Int)) ((1 : Int)) N).bind fun r => match r with
              | .r0 y14_0 y14_1 =>
               if ((0 : Int) = y14_0 ∧ (0 : Int) = y14_1) then
                some (.r0 (true) : Zu)
               else
               some (.r0 (false) : Zu)
              )
             else
             some (.r0 (false) : Zu)
            )
           )
          else
          some (.r0 (false) : Zu)
         )
        )
       )
      else
      some (.r0 (false) : Zu)
     else
     some (.r0 (false) : Zu)
    )
   )
  )
 )

inductive Zaj where
 | r0 (w0 : Bool)

inductive Zan where
 | h1m0 (v1 : Nat) (v3 : List RI) (v4 : List Int) (v5 : List RF) (v7 : List RG) (v8 : List RF) (v9 : Nat → List Int)

def ZbA (a0 : Int) (L1 : List RJ) (N : Nat) (v1 : Nat) (v3 : List RI) (v4 : List Int) (v5 : List RF) (v7 : List RG) (v8 : List RF) (v9 : Nat → List Int) : Option (Zan ⊕ Zaj) :=
 if (v1 : Int) < (L1.length : Int) then
  if (v1 : Int) < (60 : Int) then
   ((Zbl ((L1.getD v1 RJ.z).a0) ((L1.getD v1 RJ.z).a1) ((L1.getD v1 RJ.z).a2) ((L1.getD v1 RJ.z).a3) ((L1.getD v1 RJ.z).a4) ((L1.getD v1 RJ.z).a5) ((L1.getD v1 RJ.z).a6) ((L1.getD v1 RJ.z).a7) ((L1.getD v1 RJ.z).a8) ((L1.getD v1 RJ.z).a9) (a0) (v3) (v4) (v5) (a0) (v7) (v8) (v9) N).bind fun r => match r with
   | .r0 y2_0 y2_1 y2_2 y2_3 y2_4 y2_5 y2_6 =>
    if ¬ (y2_0 = true) then
     some (.inr (.r0 (false) : Zaj))
    else
    ((Zcf ((L1.getD v1 RJ.z).a0) ((L1.getD v1 RJ.z).a1) ((L1.getD v1 RJ.z).a2) ((L1.getD v1 RJ.z).a3) ((L1.getD v1 RJ.z).a4) ((L1.getD v1 RJ.z).a5) ((L1.getD v1 RJ.z).a6) ((L1.getD v1 RJ.z).a7) ((L1.getD v1 RJ.z).a8) ((L1.getD v1 RJ.z).a9) (a0) (y2_1) (y2_2) (y2_3) (a0) (y2_4) (y2_5) (y2_6) N).bind fun r => match r with
    | .r0 y4_0 =>
     if ¬ (y4_0 = true) then
      some (.inr (.r0 (false) : Zaj))
     else
     some (.inl (.h1m0 ((v1 + 1)) (y2_1) (y2_2) (y2_3) (y2_4) (y2_5) (y2_6) : Zan))
    )
   )
  else
  some (.inr (.r0 (true) : Zaj))
 else
 some (.inr (.r0 (true) : Zaj))

def ZbV (a0 : Int) (L1 : List RJ) (N : Nat) : Zan → Option (Zan ⊕ Zaj)
 | .h1m0 v1 v3 v4 v5 v7 v8 v9 => ZbA a0 L1 N v1 v3 v4 v5 v7 v8 v9

def Zf8 (a0 : Int) (L1 : List RJ) (N : Nat) : Option (Zan ⊕ Zaj) :=
 ((Zdw (a0) N).bind fun r => match r with
 | .r0 =>
  ((ZbT (a0) N).bind fun r => match r with
  | .r0 =>
   some (.inr (.r0 (true) : Zaj))
  | .r1 y1_0 =>
   some (.inr (.r0 (false) : Zaj))
  )
 | .r1 y0_0 =>
  ((ZbT (a0) N).bind fun r => match r with
  | .r0 =>
   some (.inr (.r0 (false) : Zaj))
  | .r1 y1_0 =>
   some (.inl (.h1m0 (0) (y1_0) (([] : List Int)) (([] : List RF)) (((List.replicate ((i64.wrap ((16 : Int) + (1 : Int)))).toNat (⟨(0 : Int), (0 : Int), (0 : Int), (0 : Int), (0 : Int)⟩ : RG)).set ((i64.wrap ((1 : Int) - (1 : Int)))).toNat (⟨(1 : Int), (16 : Int), (255 : Int), (2 : Int), (0 : Int)⟩ : RG))) (y0_0) ((wOf [([] : List Int), ([] : List Int), ([] : List Int), ([] : List Int), ([] : List Int), ([] : List Int), ([] : List Int), ([] : List Int), ([] : List Int), ([] : List Int), ([] : List Int), ([] : List Int), ([] : List Int), ([] : List Int), ([] : List Int), ([] : List Int), ([] : List Int)])) : Zan))
  )
 )

def ZjA (a0 : Int) (L1 : List RJ) (N : Nat) : Option Zaj := goM (ZbV a0 L1 N) N (Zf8 a0 L1 N)
end Ev
end Go.Proofs.Ytomkpfibofpkbaa
namespace Go.Proofs.Ytomkpfibofpkbaa
open Go.RowKit
namespace Ev
set_option linter.unusedVariables false
theorem sm {ρ : Nat → Nat} {o p : AObj} (h : Zfl ρ o p := by exact ⟨rfl, ⟨[], by rfl⟩, by rfl⟩) : Zfl ρ o p := h
abbrev vq : Value := .int .i64 0
abbrev vf : Value := .bool false
abbrev vT : Value := .bool true
abbrev vn : Value := .slice none 0 0
abbrev vtt : Value := .tuple #[]
theorem ltA {p : Prop} (h : p := by first | omega | (simp only [List.length_set, List.length_append, List.length_cons, List.length_nil, List.length_replicate, List.length_take, List.length_drop] at * <;> omega)) : p := h
theorem eqA {p : Prop} (h : p := by first | rfl | omega | (simp only [List.length_set, List.length_append, List.length_cons, List.length_nil, List.length_replicate, List.length_take, List.length_drop] at * <;> omega)) : p := h
theorem rr {p q : Prop} (h : p := by rfl) (h2 : q := by rfl) : p ∧ q := ⟨h, h2⟩
section
variable {l : List (Bool × Bool)}
end
def RA : Enc RF := ⟨fun x => [.i x.a0, .i x.a1], 2, RF.z, fun _ => rfl, fun _ => rfl⟩
def RB : Enc RG := ⟨fun x => [.i x.a0, .i x.a1, .i x.a2, .i x.a3, .i x.a4], 5, RG.z, fun _ => rfl, fun _ => rfl⟩
noncomputable def RC : Enc RH := ⟨fun x => [.i x.a0, .i x.a1, .i x.a2, .i x.a3, .i x.a4, .i x.a5, .i x.a6, (mc RA x.a7)], 8, RH.z, fun _ => rfl, fun _ => rfl⟩
noncomputable def RD : Enc RI := ⟨fun x => [.i x.a0, .i x.a1, .i x.a2, .i x.a3, .i x.a4, .i x.a5, .i x.a6, .i x.a7, (mc RA x.a8)], 9, RI.z, fun _ => rfl, fun _ => rfl⟩
def RE : Enc RJ := ⟨fun x => [.k .u8 x.a0, .i x.a1, .i x.a2, .i x.a3, .k .u8 x.a4, .b x.a5, .i x.a6, .i x.a7, .i x.a8, .i x.a9], 10, RJ.z, fun _ => rfl, fun _ => rfl⟩
instance : Inhabited RF := ⟨RF.z⟩
instance : Inhabited RG := ⟨RG.z⟩
instance : Inhabited RH := ⟨RH.z⟩
instance : Inhabited RI := ⟨RI.z⟩
instance : Inhabited RJ := ⟨RJ.z⟩
def ZtC : FuncId → Option (List Value → Option Value) := fun f =>
 bif Nat.beq f 8 then some (fun l => match l with | [] => some (.bool true) | _ => none) else
 none
theorem Zu1 (w : World) (ht : TabW w) : Calls Try.prog 8 #[] w (Ret (.bool true) w) := Zwy 40000 w (by kernel_rfl) rfl
theorem ZwB : Zqn ZtC := fun f g h => by
 unfold ZtC at h
 cases hb : Nat.beq f 8 with
 | true =>
  rw [hb] at h
  obtain rfl := Nat.eq_of_beq_eq_true hb
  simp only [cond_true, Option.some.injEq] at h
  subst h
  refine ⟨⟨_, _, Try.func8, rfl⟩, fun args v ha hv w ht => ?_⟩
  obtain ⟨l⟩ := args
  cases l with
  | nil =>
   change some (Value.bool true) = some v at hv
   injection hv with hv
   subst hv
   exact Zu1 w ht
  | cons x l => change (none : Option Value) = some v at hv; cases hv
 | false =>
  rw [hb] at h
  simp only [cond_false] at h
  cases h
def ZvA : FuncId → Bool := fun f => Nat.beq f 26 || Nat.beq f 10 || Nat.beq f 9 || Nat.beq f 30 || Nat.beq f 17 || Nat.beq f 15 || Nat.beq f 36 || Nat.beq f 24 || Nat.beq f 12 || Nat.beq f 34 || Nat.beq f 23 || Nat.beq f 32 || Nat.beq f 18 || Nat.beq f 11 || Nat.beq f 50 || Nat.beq f 57 || Nat.beq f 51 || Nat.beq f 21 || Nat.beq f 3 || Nat.beq f 64 || Nat.beq f 27 || Nat.beq f 37 || Nat.beq f 29 || Nat.beq f 7 || Nat.beq f 38 || Nat.beq f 35 || Nat.beq f 28 || Nat.beq f 20 || Nat.beq f 31 || Nat.beq f 39 || Nat.beq f 59 || Nat.beq f 56 || Nat.beq f 55 || Nat.beq f 58 || Nat.beq f 6 || Nat.beq f 44 || Nat.beq f 48 || Nat.beq f 45 || Nat.beq f 49
noncomputable def Z1 : FuncId → Option Ext := Zt3 (Zvd ZtC) ZvA
theorem Zq : Fit Try.prog Z1 := fitT (fitS ZwB) (fun f h => by
 simp only [ZvA, Bool.or_eq_true] at h
 simp only [Nat.beq_eq] at h
 rcases h with (((((((((((((((((((((((((((((((((((((rfl | rfl) | rfl) | rfl) | rfl) | rfl) | rfl) | rfl) | rfl) | rfl) | rfl) | rfl) | rfl) | rfl) | rfl) | rfl) | rfl) | rfl) | rfl) | rfl) | rfl) | rfl) | rfl) | rfl) | rfl) | rfl) | rfl) | rfl) | rfl) | rfl) | rfl) | rfl) | rfl) | rfl) | rfl) | rfl) | rfl) | rfl) | rfl
 ·exact ⟨_, _, Try.func26, rfl⟩
 ·exact ⟨_, _, Try.func10, rfl⟩
 ·exact ⟨_, _, Try.func9, rfl⟩
 ·exact ⟨_, _, Try.func30, rfl⟩
 ·exact ⟨_, _, Try.func17, rfl⟩
 ·exact ⟨_, _, Try.func15, rfl⟩
 ·exact ⟨_, _, Try.func36, rfl⟩
 ·exact ⟨_, _, Try.func24, rfl⟩
 ·exact ⟨_, _, Try.func12, rfl⟩
 ·exact ⟨_, _, Try.func34, rfl⟩
 ·exact ⟨_, _, Try.func23, rfl⟩
 ·exact ⟨_, _, Try.func32, rfl⟩
 ·exact ⟨_, _, Try.func18, rfl⟩
 ·exact ⟨_, _, Try.func11, rfl⟩
 ·exact ⟨_, _, Try.func50, rfl⟩
 ·exact ⟨_, _, Try.func57, rfl⟩
 ·exact ⟨_, _, Try.func51, rfl⟩
 ·exact ⟨_, _, Try.func21, rfl⟩
 ·exact ⟨_, _, Try.func3, rfl⟩
 ·exact ⟨_, _, Try.func64, rfl⟩
 ·exact ⟨_, _, Try.func27, rfl⟩
 ·exact ⟨_, _, Try.func37, rfl⟩
 ·exact ⟨_, _, Try.func29, rfl⟩
 ·exact ⟨_, _, Try.func7, rfl⟩
 ·exact ⟨_, _, Try.func38, rfl⟩
 ·exact ⟨_, _, Try.func35, rfl⟩
 ·exact ⟨_, _, Try.func28, rfl⟩
 ·exact ⟨_, _, Try.func20, rfl⟩
 ·exact ⟨_, _, Try.func31, rfl⟩
 ·exact ⟨_, _, Try.func39, rfl⟩
 ·exact ⟨_, _, Try.func59, rfl⟩
 ·exact ⟨_, _, Try.func56, rfl⟩
 ·exact ⟨_, _, Try.func55, rfl⟩
 ·exact ⟨_, _, Try.func58, rfl⟩
 ·exact ⟨_, _, Try.func6, rfl⟩
 ·exact ⟨_, _, Try.func44, rfl⟩
 ·exact ⟨_, _, Try.func48, rfl⟩
 ·exact ⟨_, _, Try.func45, rfl⟩
 ·exact ⟨_, _, Try.func49, rfl⟩
 )
set_option linter.unusedVariables false
section
variable {P : Program}
theorem ZsO {m : Nat} : ∀ {H : List (Option AObj)}, ZeW m H → ZgH m H
 | [], _ => trivial
 | x :: H, h => ⟨h.1, ZsO h.2⟩
theorem Zwd {ι : Ren} {w w' : World} {e : Ending} {pre : List AObj} {v v2 : Value} {post : List (Option AObj)} {c : List Cell} {t : TypeId} (hd : ∀ k, ι k ≠ none → k < pre.length ∨ ZH k) (hfin : Fin P ι pre w v (post ++ [some (.cells (Zs c) t)]) e w') (hpre : pre.length ≤ post.length) (hle : post.length < 1000000000) (hUA : ZeW post.length post) (hz : ZbJ v = false)
  (hv : ∀ (ι ι2 : Ren) v', (∀ k b, k < post.length ∨ ZH k → ι k = some b → ι2 k = some b) → (∀ b, ι post.length = some b → ∃ q, ι2 (ZM b.1 0 (code c)) = some q) → VR ι v v' → VR ι2 v2 v') : Fin P ι pre w v2 post e w' := by
 rcases hfin with ⟨v', ι', rfl, hS, hdm, hvr⟩ | ⟨hz', _⟩
 rotate_left
 ·rw [hz] at hz'; cases hz'
 obtain ⟨ι2, g1, g2, g3⟩ := Step.frz hS.emb Zrv
 rw [Zrw] at g1
 have hT := Step.letgo hd hpre (ZsO hUA) (hS.trans g1)
 refine .inl ⟨v', _, rfl, hT, fun k hk => ?_, hv ι' _ v' (fun k b hk h => (ιTv_yes hk).trans (g1.ext k b h)) (fun b hb => (g2 b hb).imp fun q hq => (ιTv_yes (.inr (Zb8 _ _ _))).trans hq) hvr⟩
 cases hq : ιTv ι2 post.length k with
 | none => exact absurd hq hk
 | some q => exact (ιTv_inv hq).1.imp id fun h => h.1
theorem Zwe {α : Type} {E : Enc α} {L : List α} {j n m : Nat} {ι ι2 : Ren} {v' : Value} (hb : ∀ b, ι j = some b → ∃ q, ι2 (ZM b.1 0 (code (Zac E L))) = some q) (hv : VR ι (.slice (some ⟨j, 0, none⟩) n m) v') : VR ι2 (.slice (some ⟨code (Zac E L), 0, some 0⟩) n m) v' := by
 cases hv with
 | atom h => cases h
 | slice h1 h2 h3 h4 =>
  obtain ⟨q, hq⟩ := hb _ h1
  have := VR.mslice (ι := ι2) (base := 0) (o := 0) (z := 0) hq h2 h3
  exact this
 | slice0 h => exact .slice0 h
theorem Zvt {α : Type} {E : Enc α} {L : List α} {ι : Ren} {w w' : World} {e : Ending} {pre : List AObj} {post : List (Option AObj)} {t : TypeId} (hd : ∀ k, ι k ≠ none → k < pre.length ∨ ZH k) (h : Fin P ι pre w (.slice (some ⟨post.length, 0, none⟩) L.length L.length) (post ++ [some (.cells (Za E L) t)]) e w') (hpre : pre.length ≤ post.length) (hle : post.length < 1000000000) (hUA : ZeW post.length post) : Fin P ι pre w (ms E L) post e w' := by
 rw [Zgc] at h
 exact Zwd hd h hpre hle hUA rfl fun ι ι2 v' hk hb hv => Zwe hb hv
end
set_option linter.unusedVariables false
section
variable {P : Program}
theorem Znh {w : World} {b o : Nat} {C : Array Value} {t : TypeId} {fr : Nat × Nat} (hB : w.heap[b]? = some (.cells C t fr)) : w.cell? ⟨b, o, none⟩ = C[o]? := by simp [World.cell?, hB]
theorem VR.oneC {ι : Ren} {z : Cell} {y : Value} (h : VR ι (ZcE z) y) : y.oneCell' = true := by
 cases z with
 | any => cases h with
  | atom h => exact (Bool.false_ne_true h).elim
  | glob h => exact h
 | m id o n c => cases h with
  | atom h => exact (Bool.false_ne_true h).elim
  | slice0 h => rfl
  | mslice h hn hc => rfl
 | _ => rw [h.eq_of_atom rfl]; rfl
theorem Zod {ι : Ren} {h : AH} {w w' : World} (e : Emb P ι h w) (hB : Below w.heap.size w w') : Step P ι h w ι h w' := by
 have hs : ∀ k b, ι k = some b → w'.heap[b.1]? = w.heap[b.1]? := fun k b hk => hB.block _ (e.lt k b hk)
 refine ⟨fun _ _ h => h, ⟨fun k c t q hk => ?_, fun k O hk => ?_, e.inj, fun k b hk => Nat.lt_of_lt_of_le (e.lt k b hk) hB.size, e.marks (fun _ _ h => h) (fun b hb _ => hB.block b hb) (fun _ _ _ _ h => h) (fun k d hk hd => .inr ⟨k, d, hk, hd, rfl⟩), e.tb⟩, hB.os, hB.tape, hB.output, hB.size, fun b hb _ => hB.block b hb, fun k b h1 h2 => (by rw [h1] at h2; cases h2), fun k b h1 _ => h1, fun k b h1 _ => h1⟩
 ·obtain ⟨b, h1, hz⟩ := e.obj k c t q hk
  exact ⟨b, h1, hz.imp id fun ⟨q0, C, h2, h3⟩ => ⟨q0, C, h2.on (hs k b h1), h3⟩⟩
 ·obtain ⟨b, h1, h2⟩ := e.ro k O hk
  exact ⟨b, h1, by rw [hs k b h1]; exact h2⟩
theorem Zwf {ι : Ren} {h : AH} {w : World} (e : Emb P ι h w) {n : Nat} (hnf : n < 1000000000) (hn : ι n = none) {g cap : Nat} {c : List Value} {cur : Array Value} {t : TypeId} (hg : ∀ k b, ι k = some b → b.1 ≠ g) (hgc : Cel w.heap[g]? cur t) (hc : CR ι c cur) (hq : ∀ i, P.info? t = some i → cap * i.size ≤ cur.size) : Emb P (upd ι n (some (g, cap))) (upd h n (some (.cells c t))) w := by
 have hx : ∀ k b, ι k = some b → upd ι n (some (g, cap)) k = some b := fun k b hk => by
  rw [Zd]; · exact hk
  ·intro e; subst e; rw [hn] at hk; cases hk
 refine ⟨fun k c' t' q' hk => ?_, fun k O hk => ?_, fun k k' b b' h1 h2 h3 h4 h5 => ?_, fun k b hk => ?_, fun b base id q hq => ?_, e.tabs hx⟩
 ·by_cases hk0 : k = n
  ·subst hk0
   rw [Zk] at hk
   injection hk with hk
   injection hk with h1 h2 h3
   subst h1 h2 h3
   exact ⟨_, Zk, .inr ⟨rfl, cur, hgc, hc.ext hx, hq⟩⟩
  ·rw [Zd hk0] at hk
   obtain ⟨b, hb, hz⟩ := e.obj k c' t' q' hk
   exact ⟨b, hx k b hb, hz.imp id fun ⟨q0, C', hB, hC, hQ⟩ => ⟨q0, C', hB, hC.ext hx, hQ⟩⟩
 ·by_cases hk0 : k = n
  ·subst hk0; rw [Zk] at hk; injection hk with hk; cases hk
  ·rw [Zd hk0] at hk
   obtain ⟨b, hb, hB⟩ := e.ro k O hk
   exact ⟨b, hx k b hb, hB⟩
 ·by_cases hk0 : k = n
  ·by_cases hk1 : k' = n
   ·exact hk0.trans hk1.symm
   ·subst hk0
    rw [Zk] at h3; rw [Zd hk1] at h4
    injection h3 with h3; subst h3
    exact absurd h5.symm (hg _ _ h4)
  ·rw [Zd hk0] at h1 h3
   by_cases hk1 : k' = n
   ·subst hk1
    rw [Zk] at h4
    injection h4 with h4; subst h4
    exact absurd h5 (hg _ _ h3)
   ·rw [Zd hk1] at h2 h4
    exact e.inj k k' b b' h1 h2 h3 h4 h5
 ·by_cases hk0 : k = n
  ·subst hk0; rw [Zk] at hk; injection hk with hk; subst hk; obtain ⟨fr, hgc', _⟩ := hgc; exact (Array.getElem?_eq_some_iff.1 hgc').1
  ·rw [Zd hk0] at hk; exact e.lt k b hk
 ·have h0 := Zf4 hnf _ _ _ _ hq
  obtain ⟨m1, m2, m3⟩ := e.mks b base id q h0
  refine ⟨m1, ⟨m2.1.ext hx rfl, fun o c hc => hx _ _ (m2.2 o c hc)⟩, fun k d hk hd => ?_⟩
  by_cases hk0 : k = n
  ·subst hk0
   rw [Zk] at hd; injection hd with hd; subst hd
   intro hb
   exact hg _ _ h0 (m1.trans hb.symm)
  ·rw [Zd hk0] at hk hd; exact m3 k d hk hd
theorem Zwg (pre : List AObj) (o : AObj) : lkO (pre.map some ++ [some o]) = upd (lk pre) pre.length (some o) := by
 funext k
 unfold lkO lk upd
 by_cases h : k = pre.length
 ·subst h; simp
 ·rw [if_neg h]
  by_cases h2 : k < pre.length
  ·rw [List.getElem?_append_left (by simpa using h2)]; simp [h2]
  ·rw [List.getElem?_eq_none (by simp; omega)]
   show none = pre[k]?
   rw [List.getElem?_eq_none (by omega)]
theorem Zvu (pre : List AObj) : lkO (pre.map some) = lk pre := by
 funext k
 unfold lkO lk
 by_cases h2 : k < pre.length
 ·simp [h2]
 ·rw [List.getElem?_eq_none (by simp; omega)]
  show none = pre[k]?
  rw [List.getElem?_eq_none (by omega)]
theorem Zvv {ι : Ren} {pre : List AObj} {w w' : World} (hd : ∀ k, ι k ≠ none → k < pre.length ∨ ZH k) (he : Emb P ι (lk pre) w) (hB : Below w.heap.size w w') {v v' : Value} (hv : VR ι v v') : Fin P ι pre w v (pre.map some) (.returned v') w' := by
 refine .inl ⟨v', ι, rfl, ?_, fun k hk => (hd k hk).imp (fun q => by simpa using q) (fun q => q.1), hv⟩
 rw [Zvu]
 exact Zod he hB
theorem Zwh {ι : Ren} {pre : List AObj} {w w' : World} (hpre : pre.length < 1000000000) (hd : ∀ k, ι k ≠ none → k < pre.length ∨ ZH k) (he : Emb P ι (lk pre) w) (hB : Below w.heap.size w w') {g cap n : Nat} {c : List Value} {cur : Array Value} {t : TypeId} (hg : w.heap.size ≤ g) (hgc : w'.heap[g]? = some (.cells cur t (0, 0))) (hc : CR ι c cur) (hq : ∀ i, P.info? t = some i → cap * i.size ≤ cur.size) (hn : n ≤ cap) :
  Fin P ι pre w (.slice (some ⟨pre.length, 0, none⟩) n n) (pre.map some ++ [some (.cells c t)]) (.returned (.slice (some ⟨g, 0, none⟩) n cap)) w' := by
 have hj : ι pre.length = none := by
  cases hk : ι pre.length with
  | none => rfl
  | some b => exact absurd (hd pre.length (by rw [hk]; simp)) (by unfold ZH; omega)
 have S := Zod he hB
 have E2 := Zwf S.emb hpre hj (g := g) (cap := cap) (c := c) (cur := cur) (t := t) (fun k b hk hb => by have := he.lt k b hk; omega) (Cel.of hgc) hc hq
 have hx : ∀ k b, ι k = some b → upd ι pre.length (some (g, cap)) k = some b := fun k b hk => by
  rw [Zd]; · exact hk
  ·intro e; subst e; rw [hj] at hk; cases hk
 refine .inl ⟨_, upd ι pre.length (some (g, cap)), rfl, ?_, fun k hk => ?_, ?_⟩
 ·rw [Zwg]
  refine ⟨hx, E2, S.os, S.tape, S.output, S.size, S.frame, fun k b h1 h2 _ => ?_, fun k b h1 h2 => ?_, fun k b h1 h2 => ?_⟩
  ·by_cases hk0 : k = pre.length
   ·subst hk0; rw [Zk] at h2; injection h2 with h2; subst h2; exact .inl hg
   ·rw [Zd hk0, h1] at h2; cases h2
  ·by_cases hk0 : k = pre.length
   ·subst hk0; rw [hj] at h2; cases h2
   ·rwa [Zd hk0] at h1
  ·by_cases hk0 : k = pre.length
   ·subst hk0; rw [hj] at h2; cases h2
   ·rwa [Zd hk0] at h1
 ·by_cases hk0 : k = pre.length
  ·subst hk0; exact .inl (by simp)
  ·rw [Zd hk0] at hk; exact (hd k hk).imp (fun q => by simp; omega) (fun q => q.1)
 ·have := VR.slice (ι := upd ι pre.length (some (g, cap))) (k := pre.length) (b := (g, cap)) (o := 0) (n := n) (c := n) (c' := cap) Zk (Nat.le_refl _) hn (fun _ => .inr (Nat.le_refl _))
  exact this
variable {ρ : Shelf.Ren}
open Go.Shelf Go.Lib
set_option maxHeartbeats 2000000 in
set_option maxRecDepth 100000 in
theorem Zu2 (L : SlLaysE0.n41 P ρ) {i0 : TypeInfo} {z : Value} {size bytes : Nat} (hi : P.info? (ρ.t 23) = some i0) (hz0 : i0.zero = some z) (hz1 : i0.size = size) (hz2 : i0.bytes = bytes) (hzs : z.cells.size = size) (hsz : 0 < size)
  (z23 : ∀ w, (Go.sizeOf (ρ.t 23)).run P w = .ok size w) (a : Addr) (n c : Nat) (news : List Value) (w : World) (hl : news.length = n * size) (hn : n ≤ maxLen) (hbig : n * bytes ≤ 140737488355328) (hc : ∀ j u, news[j]? = some u → w.cell? (a.add j) = some u) (h1 : ∀ u ∈ news, u.oneCell' = true) :
  Calls P (ρ.f 41) #[.slice (some a) n c] w fun e w' => ∃ v', e = .returned v' ∧ w'.ownsRow w.heap.size (ρ.t 23) size v' n news ∧ v' ≠ .slice none 0 0 ∧ Below w.heap.size w w' := by
 have g0 := L.mixed; have g1 := L.t4; have g2 := L.a4; have g3 := L.z4; have g4 := L.v4; have g5 := L.t22; have g6 := L.a22; have g7 := L.z22; have g8 := L.v22
 have g9 : ∀ (w : World) (a : Option Addr) (n c n' c' : Nat), (binOp .eql (ρ.t 22) (.slice a n c) (.slice none n' c')).run P w = .ok (.bool a.isNone) w := fun w a n c n' c' => Lib.run_eql_slice_nil w _ _ a n c n' c' L.t22
 have g10 : ∀ w, Sem.run P (underlying (ρ.t 22)) w = .ok (TypeDesc.slice (ρ.t 23)) w := run_underlying g5
 have K : Aside (∀ j u, news[j]? = some u → w.cell? (a.add j) = some u) := hc
 clear hc
 obtain ⟨_, _, FG⟩ := L.f41
 go_enter FG, SlBodyN.n41_ntmps ρ
 go_wp2_with (at_builtin; refine wpList_append_own _ rfl _ _ (ρ.t 22) rfl w.heap.size (ρ.t 23) i0 z size bytes g5 hi hz0 hz1 hz2 hzs hsz _ _ _ rfl (World.ownsRow_made w #[] 0 (Nat.le_refl _) (Nat.zero_le _) (by simp)) a n c news rfl hl ?k1 h1 ?k2 ?k3 ?k4 ?_)
 case k1 => exact fun j u hj => Lib.cell?_alloc_some _ (K.out j u hj)
 case k2 => rw [Nat.zero_add]; exact hn
 case k3 => rw [Nat.zero_add]; exact hbig
 case k4 => simp
 intro v' w1 o1 o2 o3
 go_wp2
 go_ret
 exact ⟨v', rfl, by simpa using o1, o3, ((Below.refl _ w).alloc (Nat.le_refl _) _).grown o2 (by simp) (by intro k hk; simp [Value.ownBlock] at hk; omega)⟩
end
end Ev
end Go.Proofs.Ytomkpfibofpkbaa
namespace Go.Proofs.Ytomkpfibofpkbaa
open Go.RowKit Go.Lib
namespace Ev
set_option linter.unusedVariables false
section
variable {P : Program} {ρ : Shelf.Ren} {α : Type} {E : Enc α} {L : List α}
theorem Zi4 {ι : Ren} {k n m : Nat} {x' : Value} (h : VR ι (.slice (some ⟨k, 0, none⟩) n m) x') : (∃ b c', ι k = some b ∧ n ≤ m ∧ m ≤ c' ∧ x' = .slice (some ⟨b.1, 0, none⟩) n c') ∨ (n = 0 ∧ m = 0 ∧ ∃ a', x' = .slice a' 0 0) := by
 cases h with
 | atom h => exact (Bool.false_ne_true h).elim
 | slice h1 h2 h3 h4 => exact .inl ⟨_, _, h1, h2, h3, rfl⟩
 | slice0 h => exact .inr ⟨rfl, rfl, _, rfl⟩
theorem ZoP {ι : Ren} {a : Value} {args' : Array Value} (h : VRs ι #[a] args') : ∃ x', args' = #[x'] ∧ VR ι a x' := by
 obtain ⟨l⟩ := args'
 match l, h with
 | [x], h => exact ⟨x, rfl, h.2 0 a x rfl rfl⟩
 | [], h => exact absurd h.1 (by simp)
 | _ :: _ :: _, h => exact absurd h.1 (by simp)
structure ZfK (P : Program) (ρ : Shelf.Ren) (sz bytes : Nat) : Prop where
 L : SlLaysE0.n41 P ρ
 hi : ∃ i0 z, P.info? (ρ.t 23) = some i0 ∧ i0.zero = some z ∧ i0.size = sz ∧ i0.bytes = bytes ∧ z.cells.size = sz
 pos : 0 < sz
 z23 : ∀ w, (Go.sizeOf (ρ.t 23)).run P w = .ok sz w
theorem Zvw {ι : Ren} {j : Nat} {x y : Value} (hx : (Za E L)[j]? = some x) (h : VR ι x y) : y.oneCell' = true := by
 rw [Zgc] at hx
 unfold Zs at hx
 rw [List.getElem?_map] at hx
 cases hz : (Zac E L)[j]? with
 | none => rw [hz] at hx; cases hx
 | some z => rw [hz] at hx; injection hx with hx; subst hx; exact VR.oneC h
theorem ZgI {bytes : Nat} (C : ZfK P ρ E.w bytes) (hn : L.length ≤ maxLen) (hbig : L.length * bytes ≤ 140737488355328) {ι : Ren} {pre : List AObj} {w : World} (hpre : pre.length < 1000000000) (hd : ∀ k, ι k ≠ none → k < pre.length ∨ ZH k) (he : Emb P ι (lk pre) w) {a : Addr} {c : Nat}
  (hc : ∀ j, j < L.length * E.w → ∃ y, w.cell? (a.add j) = some y ∧ ∀ x, (Za E L)[j]? = some x → VR ι x y) :
  Calls P (ρ.f 41) #[.slice (some a) L.length c] w (Fin P ι pre w (.slice (some ⟨pre.length, 0, none⟩) L.length L.length) (pre.map some ++ [some (.cells (Za E L) (ρ.t 23))])) := by
 obtain ⟨i0, z, k1, k2, k3, k4, k5⟩ := C.hi
 obtain ⟨news, hnl, hng⟩ : ∃ news : List Value, news.length = L.length * E.w ∧ ∀ j u, news[j]? = some u → j < L.length * E.w ∧ w.cell? (a.add j) = some u := by
  refine ⟨(List.range (L.length * E.w)).map fun j => (w.cell? (a.add j)).getD undef, by simp, fun j u hj => ?_⟩
  have hl := (List.getElem?_eq_some_iff.1 hj).1
  simp only [List.length_map, List.length_range] at hl
  obtain ⟨y, hy, _⟩ := hc j hl
  simp only [List.getElem?_map, List.getElem?_range hl, Option.map_some, hy, Option.getD_some, Option.some.injEq] at hj
  exact ⟨hl, by rw [hy, hj]⟩
 have hrow : ∀ j, j < L.length * E.w → ∃ x, (Za E L)[j]? = some x := fun j hj => by
  have : j < (Za E L).length := by rw [Zca]; exact hj
  exact ⟨_, List.getElem?_eq_getElem this⟩
 refine (Zu2 C.L k1 k2 k3 k4 k5 C.pos C.z23 a L.length c news w hnl hn hbig (fun j u hj => (hng j u hj).2) (fun u hu => ?_)).mono ?_
 ·obtain ⟨j, hj⟩ := List.mem_iff_getElem?.1 hu
  obtain ⟨h1, h2⟩ := hng j u hj
  obtain ⟨y, hy, hv⟩ := hc j h1
  obtain ⟨x, hx⟩ := hrow j h1
  rw [h2] at hy; injection hy with hy; subst hy
  exact Zvw hx (hv x hx)
 ·rintro e w' ⟨v', rfl, ⟨_, ⟨h1, _⟩ | ⟨g, cap, cur, rfl, h2, h3, h4, h5, h6, h7⟩⟩, hnil, hB⟩
  ·exact absurd h1 hnil
  ·refine Zwh hpre hd he hB h2 h3 ⟨?_, fun i x y hx hy => ?_⟩ (fun i hi => ?_) h4
   ·rw [Zca, h6]; exact Nat.mul_le_mul_right _ h4
   ·have hil := (List.getElem?_eq_some_iff.1 hx).1
    rw [Zca] at hil
    obtain ⟨y2, hy2, hv⟩ := hc i hil
    have hu : news[i]? = some y := by
     rw [← h7, List.getElem?_take_of_lt hil, Array.getElem?_toList]; exact hy
    have := (hng i y hu).2
    rw [hy2] at this; injection this with this; subst this
    exact hv x hx
   ·rw [k1] at hi; injection hi with hi; subst hi
    rw [k3, h6]; exact Nat.le_refl _
theorem Zoe {bytes : Nat} {t : TypeId} (C : ZfK P ρ E.w bytes) (hL : L ≠ []) (hn : L.length ≤ maxLen) (hbig : L.length * bytes ≤ 140737488355328) : LSpec P (ρ.f 41) #[.slice (some ⟨0, 0, none⟩) L.length L.length] [.cells (Za E L) t] (.slice (some ⟨1, 0, none⟩) L.length L.length) [some (.cells (Za E L) t), some (.cells (Za E L) (ρ.t 23))] := by
 intro ι w args' hd ha he
 obtain ⟨x', rfl, hv⟩ := ZoP ha
 rcases Zi4 hv with ⟨b, c', h1, _, h3, rfl⟩ | ⟨h0, _, _⟩
 ·obtain ⟨b', D, r1, r2, r3, r4⟩ := he.objF 0 (Za E L) t rfl
  rw [h1] at r1; injection r1 with r1; subst r1
  refine ZgI C hn hbig (pre := [.cells (Za E L) t]) (show 1 < 1000000000 from by decide) hd he (a := ⟨b.1, 0, none⟩) (c := c') fun j hj => ?_
  have hD : 0 + j < D.size := by have := r3.1; rw [Zca] at this; omega
  refine ⟨D[0 + j], ?_, fun x hx => r3.2 j x _ hx (by rw [Array.getElem?_eq_getElem (by omega)]; simp)⟩
  obtain ⟨_, r2, _⟩ := r2
  rw [Addr.add_lit, Znh r2, Array.getElem?_eq_getElem hD]
 ·exact absurd (List.length_eq_zero_iff.1 h0) hL
end
set_option linter.unusedVariables false
section
variable {P : Program}
theorem Step.lack {ι : Ren} {h : AH} {w : World} (e : Emb P ι h w) {n : Nat} (hnf : n < 1000000000) (hn : ι n = none) {g : Nat} (hg : g < w.heap.size) (t : TypeId) : Step P ι h w (upd ι n (some (g, 0))) (upd h n (some (.cells [] t true))) w := by
 have hx : ∀ k b, ι k = some b → upd ι n (some (g, 0)) k = some b := fun k b hk => by
  rw [Zd]; · exact hk
  ·intro e; subst e; rw [hn] at hk; cases hk
 have cC : ∀ k d, ZJ (upd h n (some (.cells [] t true)) k) d = true → upd ι n (some (g, 0)) k = some d → k ≠ n ∧ ZJ (h k) d = true ∧ ι k = some d := fun k d hk hd => by
  by_cases h1 : k = n
  ·subst h1
   rw [Zk] at hk hd
   injection hd with hd
   subst hd
   cases hk
  ·rw [Zd h1] at hk hd
   exact ⟨h1, hk, hd⟩
 have cS : ∀ k d, ZO (upd h n (some (.cells [] t true)) k) d = true → upd ι n (some (g, 0)) k = some d → k ≠ n ∧ ZO (h k) d = true ∧ ι k = some d := fun k d hk hd => by
  by_cases h1 : k = n
  ·subst h1
   rw [Zk] at hk hd
   injection hd with hd
   subst hd
   cases hk
  ·rw [Zd h1] at hk hd
   exact ⟨h1, hk, hd⟩
 refine ⟨hx, ⟨fun k c' t' q' hk => ?_, fun {m} k O hk => ?_, fun k k' b b' h1 h2 h3 h4 h5 => ?_, fun k b hb => ?_, e.marks hx (fun _ _ _ => rfl) (Zf4 hnf) (fun k d hk hd => ?_), e.tabs hx⟩, rfl, rfl, rfl, Nat.le_refl _, fun _ _ _ => rfl, fun k b h1 h2 h3 => ?_, fun k b h1 h2 => ?_, fun k b h1 h2 => ?_⟩
 ·by_cases h1 : k = n
  ·subst h1
   rw [Zk] at hk
   injection hk with hk
   injection hk with e1 e2 e3
   subst e1 e2 e3
   exact ⟨(g, 0), Zk, .inl ⟨rfl, rfl, rfl⟩⟩
  ·rw [Zd h1] at hk
   obtain ⟨b, r1, hz⟩ := e.obj k c' t' q' hk
   exact ⟨b, hx k b r1, hz.imp id fun ⟨q0, D, r2, r3, r4⟩ => ⟨q0, D, r2, r3.ext hx, r4⟩⟩
 ·by_cases h1 : k = n
  ·subst h1; rw [Zk] at hk; injection hk with hk; cases hk
  ·rw [Zd h1] at hk
   obtain ⟨b, r1, r2⟩ := e.ro k O hk
   exact ⟨b, hx k b r1, r2⟩
 ·obtain ⟨_, g1, g2⟩ := cC k b h1 h3
  obtain ⟨_, g3, g4⟩ := cS k' b' h2 h4
  exact e.inj k k' b b' g1 g3 g2 g4 h5
 ·by_cases h1 : k = n
  ·subst h1; rw [Zk] at hb; injection hb with hb; subst hb; exact hg
  ·rw [Zd h1] at hb; exact e.lt k b hb
 ·obtain ⟨_, g1, g2⟩ := cC k d hk hd
  exact .inr ⟨k, d, g1, g2, rfl⟩
 ·rcases h3 with h3 | h3
  ·obtain ⟨_, _, g2⟩ := cS k b h3 h2
   rw [h1] at g2; cases g2
  ·by_cases h4 : k = n
   ·subst h4; unfold ZH at h3; omega
   ·rw [Zd h4, h1] at h2; cases h2
 ·exact (cS k b h1 (hx k b h2)).2.1
 ·exact (cC k b h1 (hx k b h2)).2.1
variable {ρ : Shelf.Ren} {α : Type} {E : Enc α} {L : List α}
theorem Zwi {bytes : Nat} {t : TypeId} (C : ZfK P ρ E.w bytes) (hn : L.length ≤ maxLen) (hbig : L.length * bytes ≤ 140737488355328) : LSpec P (ρ.f 41) #[.slice (some ⟨0, 0, none⟩) L.length L.length] [.cells (Za E L) t true] (.slice (some ⟨1, 0, none⟩) L.length L.length) [some (.cells (Za E L) t true), some (.cells (Za E L) (ρ.t 23) true)] := by
 intro ι w args' hd ha he
 obtain ⟨x', rfl, hv⟩ := ZoP ha
 have wk : ∀ {e : Ending} {w' : World}, Fin P ι [.cells (Za E L) t true] w (.slice (some ⟨1, 0, none⟩) L.length L.length) [some (.cells (Za E L) t true), some (.cells (Za E L) (ρ.t 23))] e w' → Fin P ι [.cells (Za E L) t true] w (.slice (some ⟨1, 0, none⟩) L.length L.length) [some (.cells (Za E L) t true), some (.cells (Za E L) (ρ.t 23) true)] e w' := fun hf => Fin.wk (post := [some (.cells (Za E L) t true), some (.cells (Za E L) (ρ.t 23))]) ⟨.inl rfl, wk_q2, trivial⟩ hf
 by_cases hL : L = []
 ·subst hL
  obtain ⟨b0, hb0, _⟩ := he.obj 0 (Za E []) t true rfl
  obtain ⟨a', c', rfl⟩ : ∃ a' c', x' = .slice a' 0 c' := by
   rcases Zi4 hv with ⟨b, c', _, _, _, h⟩ | ⟨_, _, a', h⟩
   ·exact ⟨_, _, h⟩
   ·exact ⟨_, _, h⟩
  cases a' with
  | none =>
   have hc : c' = 0 := by
    rcases Zi4 hv with ⟨b, c', _, _, _, h⟩ | ⟨_, _, a', h⟩
    ·injection h with h _ _; cases h
    ·injection h
   subst hc
   refine (AnyE.slices_Clone_nil C.L 0 0 w).mono fun e w' ⟨h1, h2⟩ => ?_
   subst h1 h2
   have h1n : ι 1 = none := by
    cases hk : ι 1 with
    | none => rfl
    | some b => exact absurd (hd 1 (by rw [hk]; simp)) (by unfold ZH; simp)
   have hS := Step.lack he (n := 1) (by decide) h1n (he.lt 0 b0 hb0) (ρ.t 23)
   have el : upd (lk [.cells (Za E ([] : List α)) t true]) 1 (some (.cells [] (ρ.t 23) true)) = lkO [some (.cells (Za E ([] : List α)) t true), some (.cells (Za E ([] : List α)) (ρ.t 23) true)] := by
    funext k
    match k with
    | 0 => rfl
    | 1 => rfl
    | k + 2 => rfl
   rw [el] at hS
   refine .inl ⟨_, _, rfl, hS, fun k hk => ?_, .slice0 fun _ => rfl⟩
   by_cases h1 : k = 1
   ·subst h1; exact .inl (by simp)
   ·rw [Zd h1] at hk
    rcases hd k hk with h2 | h2
    ·exact .inl (by simp at h2 ⊢; omega)
    ·exact .inr h2.1
  | some a => exact (ZgI (E := E) (L := []) C (Nat.zero_le _) (by simp) (pre := [.cells (Za E []) t true]) (show 1 < 1000000000 from by decide) hd he (a := a) (c := c') fun j hj => by simp at hj).mono fun e w' hf => wk hf
 ·rcases Zi4 hv with ⟨b, c', h1, _, h3, rfl⟩ | ⟨h0, _, _⟩
  ·obtain ⟨b', D, r1, r2, r3, r4⟩ := he.objQ 0 (Za E L) t true rfl (Zw9 (List.length_pos_iff.2 hL) C.pos)
   rw [h1] at r1; injection r1 with r1; subst r1
   refine (ZgI C hn hbig (pre := [.cells (Za E L) t true]) (show 1 < 1000000000 from by decide) hd he (a := ⟨b.1, 0, none⟩) (c := c') fun j hj => ?_).mono fun e w' hf => wk hf
   have hD : 0 + j < D.size := by have := r3.1; rw [Zca] at this; omega
   refine ⟨D[0 + j], ?_, fun x hx => r3.2 j x _ hx (by rw [Array.getElem?_eq_getElem (by omega)]; simp)⟩
   obtain ⟨_, r2, _⟩ := r2
   rw [Addr.add_lit, Znh r2, Array.getElem?_eq_getElem hD]
  ·exact absurd (List.length_eq_zero_iff.1 h0) hL
theorem Zu3 {ι : Ren} {k o n m : Nat} {x' : Value} (h : VR ι (.slice (some ⟨k, o, none⟩) n m) x') : (∃ b c', ι k = some b ∧ n ≤ m ∧ m ≤ c' ∧ x' = .slice (some ⟨b.1, o, none⟩) n c') ∨ (n = 0 ∧ m = 0 ∧ ∃ a', x' = .slice a' 0 0) := by
 cases h with
 | atom h => exact (Bool.false_ne_true h).elim
 | slice h1 h2 h3 h4 => exact .inl ⟨_, _, h1, h2, h3, rfl⟩
 | slice0 h => exact .inr ⟨rfl, rfl, _, rfl⟩
theorem ZtD {bytes : Nat} {t : TypeId} {M : List α} {i o n c : Nat} (C : ZfK P ρ E.w bytes) (hM : M = (L.drop i).take n) (hin : i + n ≤ L.length) (ho : o = i * E.w) (hn : n ≤ maxLen) (hbig : n * bytes ≤ 140737488355328) : LSpec P (ρ.f 41) #[.slice (some ⟨0, o, none⟩) n c] [.cells (Za E L) t] (ms E M) [some (.cells (Za E L) t)] := by
 intro ι w args' hd ha he
 have hml : M.length = n := by rw [hM, List.length_take, List.length_drop]; omega
 subst ho
 obtain ⟨x', rfl, hv⟩ := ZoP ha
 have fz : ∀ {e : Ending} {w' : World}, Fin P ι [.cells (Za E L) t] w (.slice (some ⟨1, 0, none⟩) M.length M.length) [some (.cells (Za E L) t), some (.cells (Za E M) (ρ.t 23))] e w' → Fin P ι [.cells (Za E L) t] w (ms E M) [some (.cells (Za E L) t)] e w' := fun hf => Zvt (post := [some (.cells (Za E L) t)]) hd hf (Nat.le_refl _) (show 1 < 1000000000 from by decide) ⟨Zak _ _ _, trivial⟩
 rcases Zu3 hv with ⟨b, c', h1, _, h3, rfl⟩ | ⟨h0, _, a', rfl⟩
 ·obtain ⟨b', D, r1, r2, r3, r4⟩ := he.objF 0 (Za E L) t rfl
  rw [h1] at r1; injection r1 with r1; subst r1
  have hrun := ZgI (E := E) (L := M) C (by omega) (by rw [hml]; exact hbig) (pre := [.cells (Za E L) t]) (show 1 < 1000000000 from by decide) hd he (a := ⟨b.1, i * E.w, none⟩) (c := c') fun j hj => ?_
  ·rw [hml] at hrun
   refine hrun.mono fun e w' hf => fz (by rw [hml]; exact hf)
  ·rw [hml] at hj
   have hb := r3.1
   rw [Zca] at hb
   have h9 : i * E.w + n * E.w ≤ L.length * E.w := by rw [← Nat.add_mul]; exact Nat.mul_le_mul_right _ hin
   have hD : i * E.w + j < D.size := by omega
   refine ⟨D[i * E.w + j], ?_, fun x hx => ?_⟩
   ·obtain ⟨_, r2, _⟩ := r2
    rw [Addr.add_lit, Znh r2, Array.getElem?_eq_getElem hD]
   ·refine r3.2 (i * E.w + j) x _ ?_ (Array.getElem?_eq_getElem hD)
    have e1 : Za E M = ((Za E L).drop (i * E.w)).take (n * E.w) := by
     rw [hM, Zl3, Zi0]
    rw [e1, List.getElem?_take_of_lt hj, List.getElem?_drop] at hx
    exact hx
 ·have hL : M = [] := List.length_eq_zero_iff.1 (hml.trans h0)
  subst hL
  subst h0
  cases a' with
  | none => exact (AnyE.slices_Clone_nil C.L 0 0 w).mono fun e w' ⟨h1, h2⟩ => by subst h1 h2; exact Zvv hd he (Below.refl _ _) (.slice0 fun _ => rfl)
  | some a => exact (ZgI (E := E) (L := []) C (Nat.zero_le _) (by simp) (pre := [.cells (Za E L) t]) (show 1 < 1000000000 from by decide) hd he (a := a) (c := 0) fun j hj => by simp at hj).mono fun e w' hf => fz hf
end
end Ev
end Go.Proofs.Ytomkpfibofpkbaa
/- slices.Clone, laid at this program. -/
namespace Go.Proofs
open Go.Shelf
def Ytomkpfibofpkbaa.Ev.cloneH_ren : Go.Shelf.Ren := ⟨fun | 41 => 48 | n => n, fun | 22 => 64 | 23 => 50 | 4 => 4 | n => n, fun | n => n⟩
theorem Ytomkpfibofpkbaa.Ev.cloneH : Go.Proofs.SlLaysE0.n41 Try.prog Ytomkpfibofpkbaa.Ev.cloneH_ren := {
  mixed := by kernel_rfl
  f41 := ⟨Try.f48.name, by decide, Try.func48.trans (congrArg some (by kernel_rfl))⟩
  t4 := Try.underlying4
  a4 := Try.isAgg4
  z4 := Try.sizeOf4
  v4 := Try.zeroValue4
  t22 := Try.underlying64
  a22 := Try.isAgg64
  z22 := Try.sizeOf64
  v22 := Try.zeroValue64 }
def Ytomkpfibofpkbaa.Ev.cloneV_ren : Go.Shelf.Ren := ⟨fun | 41 => 45 | n => n, fun | 22 => 35 | 23 => 41 | 4 => 4 | n => n, fun | n => n⟩
theorem Ytomkpfibofpkbaa.Ev.cloneV : Go.Proofs.SlLaysE0.n41 Try.prog Ytomkpfibofpkbaa.Ev.cloneV_ren := {
  mixed := by kernel_rfl
  f41 := ⟨Try.f45.name, by decide, Try.func45.trans (congrArg some (by kernel_rfl))⟩
  t4 := Try.underlying4
  a4 := Try.isAgg4
  z4 := Try.sizeOf4
  v4 := Try.zeroValue4
  t22 := Try.underlying35
  a22 := Try.isAgg35
  z22 := Try.sizeOf35
  v22 := Try.zeroValue35 }
def Ytomkpfibofpkbaa.Ev.cloneI_ren : Go.Shelf.Ren := ⟨fun | 41 => 49 | n => n, fun | 22 => 28 | 23 => 3 | 4 => 4 | n => n, fun | n => n⟩
theorem Ytomkpfibofpkbaa.Ev.cloneI : Go.Proofs.SlLaysE0.n41 Try.prog Ytomkpfibofpkbaa.Ev.cloneI_ren := {
  mixed := by kernel_rfl
  f41 := ⟨Try.f49.name, by decide, Try.func49.trans (congrArg some (by kernel_rfl))⟩
  t4 := Try.underlying4
  a4 := Try.isAgg4
  z4 := Try.sizeOf4
  v4 := Try.zeroValue4
  t22 := Try.underlying28
  a22 := Try.isAgg28
  z22 := Try.sizeOf28
  v22 := Try.zeroValue28 }
end Go.Proofs
namespace Go.Proofs.Ytomkpfibofpkbaa
open Go.RowKit Go.Lib
namespace Ev
def Zvx (P : Program) (t : TypeId) (sz bytes : Nat) : Bool := match P.info? t with
 | some i => match i.zero with
  | some z => Nat.beq i.size sz && Nat.beq i.bytes bytes && Nat.beq z.cells.size sz
  | none => false
 | none => false
theorem ZwC {P : Program} {t : TypeId} {sz bytes : Nat} (h : Zvx P t sz bytes = true) : ∃ i0 z, P.info? t = some i0 ∧ i0.zero = some z ∧ i0.size = sz ∧ i0.bytes = bytes ∧ z.cells.size = sz := by
 unfold Zvx at h
 split at h
 ·rename_i i hi
  split at h
  ·rename_i z hz
   simp only [Bool.and_eq_true] at h
   exact ⟨i, z, hi, hz, Nat.eq_of_beq_eq_true h.1.1, Nat.eq_of_beq_eq_true h.1.2, Nat.eq_of_beq_eq_true h.2⟩
  ·cases h
 ·cases h
theorem Zvy {P : Program} {t : TypeId} {i : TypeInfo} (h : P.info? t = some i) (w : World) : (Go.sizeOf t).run P w = .ok i.size w := by
 simp [Go.sizeOf, typeInfo, h, Result.andThen, Sem.run]
theorem ZoQ {ρ : Shelf.Ren} {P : Program} (L : SlLaysE0.n41 P ρ) {t : TypeId} {sz bytes : Nat} (ht : ρ.t 23 = t) (h : Zvx P t sz bytes = true) (hp : 0 < sz) : ZfK P ρ sz bytes := by
 subst ht
 obtain ⟨i0, z, k1, k2, k3, k4, k5⟩ := ZwC h
 exact ⟨L, ⟨i0, z, k1, k2, k3, k4, k5⟩, hp, fun w => by rw [Zvy k1, k3]⟩
theorem Zvz : ZfK Try.prog cloneH_ren 5 40 := ZoQ cloneH (t := 50) rfl (by kernel_rfl) (by decide)
theorem Zr0 : ZfK Try.prog cloneV_ren 2 16 := ZoQ cloneV (t := 41) rfl (by kernel_rfl) (by decide)
theorem Zv0 : ZfK Try.prog cloneI_ren 1 8 := ZoQ cloneI (t := 3) rfl (by kernel_rfl) (by decide)
end Ev
end Go.Proofs.Ytomkpfibofpkbaa
