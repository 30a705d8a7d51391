/- Part 1. -/
import Derived.Test.YthfohmhipifiaaaGreatRows
import Derived.WalkKit
import Derived.ProofKit
import Derived.Laws.CopyRow
import Derived.Laws.Rows
import Derived.Deep.AppendSrc
import Derived.Laws.MakeOwn
import Derived.Laws.LoneSync
import Derived.Great.BuildSlice
import Derived.Deep.Upon
import Derived.Lib.AppendZerosOnto
set_option linter.unusedSimpArgs false
set_option linter.unusedVariables false
/- Contents that never change, as numbers. -/
namespace Go.Proofs.YthfohmhipifiaaaGreat
namespace Ev
inductive Cell where
 | i (n : Int)
 | b (q : Bool)
 | k (kk : IntKind) (n : Int)
 | s (x : ByteArray)
 | any
 | m (id o n c : Nat)
def ZxC (z : Int) : Nat := if 0 ≤ z then 2 * z.toNat else 2 * (-z).toNat + 1
theorem ZxD {a b : Int} (h : ZxC a = ZxC b) : a = b := by unfold ZxC at h;split at h <;> split at h <;> omega
def Z3V : IntKind → Nat
 | .i8 => 0
 | .i16 => 1
 | .i32 => 2
 | .i64 => 3
 | .u8 => 4
 | .u16 => 5
 | .u32 => 6
 | .u64 => 7
theorem Z3W {a b : IntKind} (h : Z3V a = Z3V b) : a = b := by cases a <;> cases b <;> first | rfl | cases h
def pr (a b : Nat) : Nat := 2 ^ a * (2 * b + 1)
theorem ZsC : ∀ {a b r s : Nat}, pr a r = pr b s → a = b ∧ r = s
 | 0, 0, r, s, h => by simp only [pr, Nat.pow_zero, Nat.one_mul] at h;exact ⟨rfl, by omega⟩
 | 0, b + 1, r, s, h => by
  have e : pr (b + 1) s = 2 * (2 ^ b * (2 * s + 1)) := by unfold pr; rw [Nat.pow_succ, Nat.mul_comm (2 ^ b) 2, Nat.mul_assoc]
  rw [e] at h;simp only [pr, Nat.pow_zero, Nat.one_mul] at h;omega
 | a + 1, 0, r, s, h => by
  have e : pr (a + 1) r = 2 * (2 ^ a * (2 * r + 1)) := by unfold pr; rw [Nat.pow_succ, Nat.mul_comm (2 ^ a) 2, Nat.mul_assoc]
  rw [e] at h;simp only [pr, Nat.pow_zero, Nat.one_mul] at h;omega
 | a + 1, b + 1, r, s, h => by
  have e : ∀ a r, pr (a + 1) r = 2 * pr a r := fun a r => by unfold pr; rw [Nat.pow_succ, Nat.mul_comm (2 ^ a) 2, Nat.mul_assoc]
  rw [e, e] at h;obtain ⟨h1, h2⟩ := ZsC (a := a) (b := b) (r := r) (s := s) (by omega);exact ⟨by rw [h1], h2⟩
theorem Z2Y (a b : Nat) : 0 < pr a b := Nat.mul_pos (Nat.pow_pos (by decide)) (by omega)
def ZmT : List Nat → Nat
 | [] => 0
 | a :: l => pr a (ZmT l)
theorem Zr2 : ∀ {l m : List Nat}, ZmT l = ZmT m → l = m
 | [], [], _ => rfl
 | [], b :: m, h => by have := Z2Y b (ZmT m); simp only [ZmT] at h; omega
 | a :: l, [], h => by have := Z2Y a (ZmT l); simp only [ZmT] at h; omega
 | a :: l, b :: m, h => by obtain ⟨h1, h2⟩ := ZsC (a := a) (b := b) h;rw [h1, Zr2 h2]
def Z1Z : Cell → List Nat
 | .i n => [0, ZxC n]
 | .b q => [1, cond q 1 0]
 | .k kk n => [2, Z3V kk, ZxC n]
 | .s x => 3 :: x.data.toList.map UInt8.toNat
 | .any => [4]
 | .m id o n c => [5, id, o, n, c]
theorem ZnF : ∀ {l m : List UInt8}, l.map UInt8.toNat = m.map UInt8.toNat → l = m
 | [], [], _ => rfl
 | [], b :: m, h => by cases h
 | a :: l, [], h => by cases h
 | a :: l, b :: m, h => by simp only [List.map_cons, List.cons.injEq] at h;rw [UInt8.toNat_inj.1 h.1, ZnF h.2]
theorem Z3X {a b : Cell} (h : Z1Z a = Z1Z b) : a = b := by
 cases a <;> cases b <;> simp only [Z1Z, List.cons.injEq, and_true, reduceCtorEq, false_and, and_false] at h
 case i.i x y => rw [ZxD h.2]
 case b.b x y => cases x <;> cases y <;> first | rfl | (simp at h)
 case k.k x y z w => rw [Z3W h.2.1, ZxD h.2.2]
 case s.s x y =>
  have h1 := ZnF h.2;have h2 : x.data = y.data := Array.ext' h1;have h3 : x = y := by cases x; cases y; simp only at h2; rw [h2]
  rw [h3]
 case any.any => rfl
 case m.m a1 a2 a3 a4 b1 b2 b3 b4 => obtain ⟨_, h1, h2, h3, h4⟩ := h; rw [h1, h2, h3, h4]
 all_goals (first | (exact absurd h.1 (by decide)) | (exact absurd h (by decide)))
theorem Z1x : ∃ f : List Cell → Nat, ∀ a b, f a = f b → a = b := by
 refine ⟨fun l => ZmT (l.map fun c => ZmT (Z1Z c)), fun a b h => ?_⟩;have h1 := Zr2 h;clear h
 induction a generalizing b with
 | nil => cases b with
  | nil => rfl
  | cons y b => cases h1
 | cons x a ih => cases b with
  | nil => cases h1
  | cons y b =>
   simp only [List.map_cons, List.cons.injEq] at h1;rw [Z3X (Zr2 h1.1), ih b h1.2]
noncomputable section
def code : List Cell → Nat := Classical.choose Z1x
theorem Z3Y {a b : List Cell} (h : code a = code b) : a = b := Classical.choose_spec Z1x a b h
def Zoz (n : Nat) : Option (List Cell) := @dite _ (∃ l, code l = n) (Classical.propDecidable _) (fun h => some (Classical.choose h)) (fun _ => none)
end
theorem Zdn (l : List Cell) : Zoz (code l) = some l := by
 unfold Zoz;have h : ∃ m, code m = code l := ⟨l, rfl⟩
 rw [dif_pos h];exact congrArg some (Z3Y (Classical.choose_spec h))
def ZO (b base id : Nat) : Nat := 1000000000 + 2 * pr b (pr base id)
theorem Zr3 {b base id b' base' id' : Nat} (h : ZO b base id = ZO b' base' id') : b = b' ∧ base = base' ∧ id = id' := by unfold ZO at h;obtain ⟨h1, h2⟩ := ZsC (a := b) (b := b') (r := pr base id) (s := pr base' id') (by omega);obtain ⟨h3, h4⟩ := ZsC h2;exact ⟨h1, h3, h4⟩
theorem Zfq (b base id : Nat) : 1000000000 ≤ ZO b base id ∧ ZO b base id % 2 = 0 := by unfold ZO;omega
inductive Tr (α : Type) where
 | nil
 | node (v : Option α) (l r : Tr α)
namespace Tr
variable {α : Type}
section
variable (t : Tr α)
noncomputable def val : Option α := Tr.rec (motive := fun _ => Option α) none (fun v _ _ _ _ => v) t
noncomputable def lt : Tr α := Tr.rec (motive := fun _ => Tr α) .nil (fun _ l _ _ _ => l) t
noncomputable def rt : Tr α := Tr.rec (motive := fun _ => Tr α) .nil (fun _ _ r _ _ => r) t
noncomputable def get : Nat → Option α :=
 Tr.rec (motive := fun _ => Nat → Option α) (fun _ => none)
  (fun v _ _ gl gr n => Bool.rec (motive := fun _ => Option α) (Bool.rec (motive := fun _ => Option α) (gr (Nat.div (Nat.sub n 1) 2)) (gl (Nat.div (Nat.sub n 1) 2)) (Nat.beq (Nat.mod n 2) 1)) v (Nat.beq n 0)) t
end
noncomputable def setF (f : Nat) : Tr α → Nat → Option α → Tr α :=
 Nat.rec (motive := fun _ => Tr α → Nat → Option α → Tr α) (fun t _ v => .node v t.lt t.rt)
  (fun _ ih t n v => Bool.rec (motive := fun _ => Tr α) (Bool.rec (motive := fun _ => Tr α) (.node t.val t.lt (ih t.rt (Nat.div (Nat.sub n 1) 2) v)) (.node t.val (ih t.lt (Nat.div (Nat.sub n 1) 2) v) t.rt) (Nat.beq (Nat.mod n 2) 1)) (.node v t.lt t.rt) (Nat.beq n 0)) f
noncomputable def set (t : Tr α) (n : Nat) (v : Option α) : Tr α := setF n t n v
theorem get_nil (n : Nat) : (Tr.nil : Tr α).get n = none := rfl
section
variable (v : Option α) (l r : Tr α)
theorem get_node (n : Nat) : (Tr.node v l r).get n = bif Nat.beq n 0 then v else bif Nat.beq (n % 2) 1 then l.get ((n - 1) / 2) else r.get ((n - 1) / 2) := by have e : Nat.beq (n % 2) 1 = Nat.beq (Nat.mod n 2) 1 := rfl;show (Bool.rec (motive := fun _ => Option α) (Bool.rec (motive := fun _ => Option α) (r.get ((n - 1) / 2)) (l.get ((n - 1) / 2)) (Nat.beq (Nat.mod n 2) 1)) v (Nat.beq n 0) : Option α) = _;rw [e];generalize Nat.beq n 0 = x;generalize Nat.beq (Nat.mod n 2) 1 = y;cases x <;> cases y <;> rfl
theorem setF_zero (t : Tr α) (n : Nat) (v : Option α) : setF 0 t n v = .node v t.lt t.rt := rfl
theorem setF_succ (f : Nat) (t : Tr α) (n : Nat) (v : Option α) : setF (f + 1) t n v = bif Nat.beq n 0 then .node v t.lt t.rt
  else bif Nat.beq (n % 2) 1 then .node t.val (setF f t.lt ((n - 1) / 2) v) t.rt
  else .node t.val t.lt (setF f t.rt ((n - 1) / 2) v) := by
 have e : Nat.beq (n % 2) 1 = Nat.beq (Nat.mod n 2) 1 := rfl;show (Bool.rec (motive := fun _ => Tr α) (Bool.rec (motive := fun _ => Tr α) (.node t.val t.lt (setF f t.rt ((n - 1) / 2) v)) (.node t.val (setF f t.lt ((n - 1) / 2) v) t.rt) (Nat.beq (Nat.mod n 2) 1)) (.node v t.lt t.rt) (Nat.beq n 0) : Tr α) = _;rw [e];generalize Nat.beq n 0 = x;generalize Nat.beq (Nat.mod n 2) 1 = y;cases x <;> cases y <;> rfl
theorem lt_nil : (Tr.nil : Tr α).lt = .nil := rfl
theorem rt_nil : (Tr.nil : Tr α).rt = .nil := rfl
theorem val_nil : (Tr.nil : Tr α).val = none := rfl
theorem lt_node : (Tr.node v l r).lt = l := rfl
theorem rt_node : (Tr.node v l r).rt = r := rfl
theorem val_node : (Tr.node v l r).val = v := rfl
end
end Tr

def tabs : List (Nat × List Cell) := [
 ]
def ZlU : Bool := true
inductive AObj where
 | cells (c : List Value) (t : TypeId) (q : Bool := false)
 | ro (O : Obj) (m : Bool := false)
def isC : Option AObj → Bool
 | some (.cells c _ q) => match q with
  | false => true
  | true => !c.isEmpty
 | some (.ro _ m) => m
 | _ => false
def sol : Option AObj → Bool
 | some (.cells c _ q) => match q with
  | false => true
  | true => !c.isEmpty
 | some (.ro _ _) => true
 | none => false

def isQ : Option AObj → Bool
 | some (.cells _ _ q) => q
 | _ => false
section
variable (o : Option AObj) (b : Nat × Nat)
def ZQ : Bool := isC o || (isQ o && !Nat.beq b.2 0)
def Zae : Bool := sol o || (isQ o && !Nat.beq b.2 0)
end
inductive Told where
 | st (c : List Value)
 | ap (m : Nat) (l c : List Value)
 | ap0
 | mk (l cp : Nat) (c : List Value)
 | sl (lo hi : Nat)
 | ms (lo hi n : Nat) (cs : List Cell)
 | at (v : Int) (c : List Value)
 | call (pre : List (Nat × AObj)) (v : Value) (post : List (Nat × Option AObj)) (dn : Nat)
 | dv
 | api (m : Nat) (l c : List Value)
 | cut (h : Nat) (c : List Value)
 | sh (n : Nat)
 | bs (ns : List Int)
 | lk (r : Option Value)
 | mp (l : List MapEntry)
 | stf (k : Nat) (cs : List Cell) (c : List Value)
 | apz (m : Nat) (l c : List Value) (cs : List Cell)
 | apn (m : Nat) (l c0 c : List Value)
structure Orc where
 b : List (Option Bool)
 v : List (Option Int)
 x : List (Option Nat)
 l : List (Option (List Cell))
 w : List (Option Told)
noncomputable section
structure St where
 h : Tr AObj
 n : Nat
 wr : List Nat
 orc : Orc
 ob : List (Bool × Bool)
def St.add (s : St) (c : List Value) (t : TypeId) : St := match s with | ⟨h, n, wr, orc, ob⟩ => ⟨h.set n (some (.cells c t)), n + 1, wr, orc, ob⟩
section
variable (s : St) (k : Nat) (c : List Value) (t : TypeId)
def St.putK (q : Bool := false) : St := match s with | ⟨h, n, wr, orc, ob⟩ => ⟨h.set k (some (.cells c t q)), n, k :: wr, orc, ob⟩
def St.turn (q : Bool := false) : St := ⟨(s.h.set k none).set s.n (some (.cells c t q)), s.n + 1, k :: s.wr, s.orc, s.ob⟩
end
section
variable (s : St)
def St.addM (O : Obj) : St := match s with | ⟨h, n, wr, orc, ob⟩ => ⟨h.set n (some (.ro O true)), n + 1, wr, orc, ob⟩
def St.putM (k : Nat) (O : Obj) : St := match s with | ⟨h, n, wr, orc, ob⟩ => ⟨h.set k (some (.ro O true)), n, k :: wr, orc, ob⟩
def St.keep {β : Type} (s : St) (k : St → β) : β := match s with | ⟨h, n, wr, orc, ob⟩ => k ⟨h, n, wr, orc, ob⟩
theorem St.keep_eq {β : Type} (s : St) (k : St → β) : s.keep k = k s := by cases s; rfl
def St.tst (t : Bool) : Bool × St :=
 match s.orc.b with
 | [] => (t, s)
 | none :: r => (t, ⟨s.h, s.n, s.wr, ⟨r, s.orc.v, s.orc.x, s.orc.l, s.orc.w⟩, s.ob⟩)
 | some b :: r => (b, ⟨s.h, s.n, s.wr, ⟨r, s.orc.v, s.orc.x, s.orc.l, s.orc.w⟩, (t, b) :: s.ob⟩)
def St.vst (x : Int) : Int × St :=
 match s.orc.v with
 | [] => (x, s)
 | none :: r => (x, ⟨s.h, s.n, s.wr, ⟨s.orc.b, r, s.orc.x, s.orc.l, s.orc.w⟩, s.ob⟩)
 | some y :: r => (y, ⟨s.h, s.n, s.wr, ⟨s.orc.b, r, s.orc.x, s.orc.l, s.orc.w⟩, (x == y, true) :: s.ob⟩)

def St.nextX : Option Nat × St :=
 match s.orc.x with
 | [] => (none, s)
 | a :: r => (a, ⟨s.h, s.n, s.wr, ⟨s.orc.b, s.orc.v, r, s.orc.l, s.orc.w⟩, s.ob⟩)
def St.nextL : Option (List Cell) × St :=
 match s.orc.l with
 | [] => (none, s)
 | a :: r => (a, ⟨s.h, s.n, s.wr, ⟨s.orc.b, s.orc.v, s.orc.x, r, s.orc.w⟩, s.ob⟩)
def St.nextW : Option Told × St :=
 match s.orc.w with
 | [] => (none, s)
 | a :: r => (a, ⟨s.h, s.n, s.wr, ⟨s.orc.b, s.orc.v, s.orc.x, s.orc.l, r⟩, s.ob⟩)
def St.told (q : Bool) : St := ⟨s.h, s.n, s.wr, s.orc, (q, true) :: s.ob⟩
noncomputable def dP (p : Prop) : Bool := @decide p (Classical.propDecidable p)

def atom : Value → Bool
 | .bool _ | .int .. | .float .. | .complex .. | .string _ | .pointer none | .map none | .chan none | .nilFunc | .nilIface => true
 | .slice none n c => Nat.beq n 0 && Nat.beq c 0
 | .func (.func _) a b => a.isEmpty && b.isEmpty
 | .iface _ (.agg cs) => cs.isEmpty
 | _ => false
def Zu {α : Type} (p : α → Bool) : List α → Bool
 | [] => true
 | x :: l => p x && Zu p l
def ZaT : Value → Bool
 | .agg cs => Zu atom cs.toList
 | v => atom v
def free : Value → Bool
 | .tuple vs => Zu ZaT vs.toList
 | v => ZaT v
def opnd (T : Tr Value) : Operand → Value
 | .tmp t => (T.get t).getD undef
 | .const v => bif free v then v else undef
 | .global g => .chan (some g)
 | .func f => .func (.func f) #[] #[]
def ZlV : Operand → Bool
 | .const v => free v
 | _ => true
def Zbg : Value → Bool
 | .agg _ | .tuple _ => false
 | _ => true

def ZmU {α : Type} (P : Program) : Sem α → Option α
 | .pure a => some a
 | .program k => ZmU P (k P)
 | .mark _ k => ZmU P k
 | _ => none

def Zje (P : Program) (t : TypeId) : Option (Bool × Nat) :=
 match P.underlying t, P.info? t with
 | some (.struct _), some i | some (.array _ _), some i => some (true, i.size)
 | some _, some i => some (false, i.size)
 | _, _ => none
def Z4 {α : Type} : Nat → List α → Option (List α)
 | 0, _ => some []
 | _ + 1, [] => none
 | n + 1, x :: l => match Z4 n l with | some r => some (x :: r) | none => none
def rowAt (k o m : Nat) : Option (List Value) :=
 match s.h.get k with
 | some (.cells c _ q) => match q with
  | false => Z4 m (c.drop o)
  | true => bif Nat.beq m 0 then none else Z4 m (c.drop o)
 | _ => none
def Z2a (O : Obj) (o m : Nat) : Option (List Value) :=
 match O with
 | .cells C _ _ => Z4 m (C.toList.drop o)
 | _ => none
def Zuc (k o m : Nat) : Option (List Value) :=
 match s.h.get k with
 | some (.cells c _) => Z4 m (c.drop o)
 | some (.ro O) => bif Nat.beq m 0 then some [] else match Z2a O o m with
  | some l => bif Zu atom l then some l else none
  | none => none
 | _ => none
end
section
variable (P : Program)
def Zkh (s : St) (t : TypeId) (k o : Nat) : Option Value :=
 match Zje P t with
 | some (true, m) => match rowAt s k o m with | some l => some (.agg l.toArray) | none => none
 | some (false, _) => match rowAt s k o 1 with | some [v] => some v | _ => none
 | none => none
def Zju (c : List Value) (o : Nat) (l : List Value) : List Value := c.take o ++ l ++ c.drop (o + l.length)
def Ziw (s : St) (k o : Nat) (l : List Value) : Option St :=
 match s.h.get k with
 | some (.cells c t q) => bif (Nat.ble (o + l.length) c.length && Zu Zbg l) && (!q || Nat.blt 0 l.length) then some (s.putK k (Zju c o l) t q) else none
 | _ => none
def ZgS (t : TypeId) (cs : Array Value) (o : Nat) : Option Value :=
 match Zje P t with
 | some (true, m) => some (.agg (cs.extract o (o + m)))
 | some (false, _) => cs[o]?
 | none => none
def ZgY (t : TypeId) : Option (List Value) :=
 match P.info? t with
 | some i => match i.zero with
  | some z => bif Zu atom z.cells.toList then some z.cells.toList else none
  | none => none
 | none => none
abbrev Out := Option (Value × St)
def at0 (k : Nat) : Value := .pointer (some ⟨k, 0, none⟩)
def ZdC (ρ : Operand → Value) (o : Oper) (s : St) : Out :=
 bif Zu (fun x => free (ρ x)) o.op.operands.toList then
  match ZmU P (execOp ρ o) with
  | some (.value v) => bif free v then some (v, s) else none
  | _ => none
 else none
def ZmV : Value → Option Nat
 | .int _ (.ofNat n) => some n
 | _ => none
def ZgZ (ρ : Operand → Value) (d : Nat) : Option Operand → Option Nat
 | none => some d
 | some x => ZmV (ρ x)
def rep (z : List Value) (n : Nat) : List Value := (List.range n).map fun j => z.getD (j % z.length) undef
def ZdP : Cell → Value
 | .i n => .int .i64 n
 | .b q => .bool q
 | .k kk n => .int kk n
 | .s x => .string x
 | .any => .chan (some 0)
 | .m id o n c => .slice (some ⟨id, o, some 0⟩) n c
def Zm (l : List Cell) : List Value := l.map ZdP
def ZS (id o m : Nat) : Option (List Cell) :=
 match Zoz id with
 | some c => Z4 m (c.drop o)
 | none => none
def ZsD (b : ByteArray) : List Value := b.data.toList.map fun x => .int .u8 x.toNat
def ZeU (s : St) (z : List Value) (size : Nat) (tx : TypeId) (x : Value) : Option (Nat × List Value) :=
 match P.underlying tx, x with
 | some (.slice _), .slice none 0 0 => some (0, [])
 | some (.slice _), .slice (some ⟨k, o, none⟩) n _ => match Zuc s k o (n * size) with
  | some l => bif Zu Zbg l then some (n, l) else none
  | none => none
 | some (.slice _), .slice (some ⟨id, o, some _⟩) n _ => bif Nat.beq (n * size) 0 then some (n, []) else match ZS id o (n * size) with
  | some c => some (n, Zm c)
  | none => none
 | some (.int _), .int _ (.ofNat n) => bif Nat.blt 0 n && Nat.blt 0 size && Nat.ble n 100000 then some (n, rep z (n * z.length)) else none
 | some .string, .string b => bif Nat.beq size 1 then some (b.size, ZsD b) else none
 | _, _ => none
def ZdI (s : St) (ts tx : TypeId) (x y : Value) : Out :=
 match P.underlying ts with
 | some (.slice e) => match P.info? e, ZgY P e with
  | some i, some z => match ZeU P s z i.size tx y with
   | some (m, l) => bif Nat.ble m 100000 && Nat.ble i.bytes 1000 && Nat.beq z.length i.size then match x with
    | .slice none 0 0 => bif Nat.beq m 0 then some (x, s) else some (.slice (some ⟨s.n, 0, none⟩) m m, s.add l e)
    | .slice (some ⟨k, o, none⟩) n c =>
     bif Nat.beq m 0 then some (x, s)
     else bif Nat.ble (n + m) c then match Ziw s k (o + n * i.size) l with
      | some s' => some (.slice (some ⟨k, o, none⟩) (n + m) c, s')
      | none => none
     else bif Nat.beq o 0 && Nat.ble n 100000 then match s.h.get k with
      | some (.cells cs e' q) => bif Nat.beq e e' then match Z4 (n * i.size) cs with
       | some old => some (.slice (some ⟨s.n, 0, none⟩) (n + m) (n + m), s.turn k (old ++ l) e q)
       | none => none
       else none
      | _ => none
     else none
    | _ => none
    else none
   | none => none
  | _, _ => none
 | _ => none
def ZfY (ρ : Operand → Value) (t n : Nat) (ps : Array (Nat × Operand)) (s : St) : Out :=
 match P.underlying t with
 | some (.slice e) => match P.info? e, ZgY P e with
  | some i, some z => bif Nat.beq n 0 && ps.isEmpty then some (.slice (some ⟨s.n, 0, none⟩) 0 0, s.add [] e)
   else bif Nat.ble (n * i.size) 100000 && Nat.blt 0 (n * i.size) && Nat.blt 0 z.length then
    match Instr.fill (fun j => some (j * i.size, i.size)) (rep z (n * i.size)).toArray (ps.toList.map fun p => (p.1, ρ p.2)) with
    | some c => some (.slice (some ⟨s.n, 0, none⟩) n n, s.add c.toList e)
    | none => none
   else none
  | _, _ => none
 | _ => none
end
section
variable (P : Program) (ρ : Operand → Value) (t : TypeId)
def ZlW (ps : Array (Nat × Operand)) (s : St) : Out :=
 match ZgY P t, P.built t (ps.toList.map fun p => (p.1, ρ p.2)) with
 | some _, some cs => some (.agg cs, s)
 | _, _ => none
def Zix (a x : Operand) (s : St) : Out :=
 match ρ a, P.info? t with
 | .pointer (some ⟨k, o, none⟩), some i =>
  bif Nat.beq (ρ x).cells.size i.size then match Ziw s k o (ρ x).cells.toList with
   | some s' => some (undef, s')
   | none => none
  else none
 | _, _ => none
def Zhq (a x : Operand) (c' : List Value) (s : St) : Out :=
 match ρ a, P.info? t with
 | .pointer (some ⟨k, o, none⟩), some i =>
  bif Nat.beq (ρ x).cells.size i.size && Zu Zbg (ρ x).cells.toList then match s.h.get k with
   | some (.cells c t q) => bif !q || Nat.blt 0 (ρ x).cells.toList.length then some (undef, (s.putK k c' t q).told (dP (o + (ρ x).cells.toList.length ≤ c.length ∧ Zju c o (ρ x).cells.toList = c'))) else none
   | _ => none
  else none
 | _, _ => none
def Zo0 (k id : Nat) : Nat → Value → Value
 | d + 1, .agg cs => .agg ((cs.toList.map (Zo0 k id d)).toArray)
 | d + 1, .tuple cs => .tuple ((cs.toList.map (Zo0 k id d)).toArray)
 | _, .slice (some ⟨j, 0, none⟩) n m => bif Nat.beq j k then .slice (some ⟨id, 0, some 0⟩) n m else .slice (some ⟨j, 0, none⟩) n m
 | _, v => v
def nlV : Nat → Value → Value
 | d + 1, .agg cs => .agg ((cs.toList.map (nlV d)).toArray)
 | d + 1, .tuple cs => .tuple ((cs.toList.map (nlV d)).toArray)
 | _, .slice none 0 0 => .slice (some ⟨code [], 0, some 0⟩) 0 0
 | _, v => v
def Zki (a x : Operand) (k : Nat) (cs : List Cell) (c' : List Value) (s : St) : Out :=
 match s.h.get k with
 | some (.cells cl _) => Zhq P (fun y => Zo0 k (code cs) 2 (ρ y)) t a x c' ((⟨s.h.set k none, s.n, k :: s.wr, s.orc, s.ob⟩ : St).told (dP (cl = Zm cs)))
 | _ => none
end
def Z2b (P : Program) (s : St) (z : List Value) (size : Nat) (tx : TypeId) (x : Value) : Option (Nat → List Value → Prop) :=
 match P.underlying tx, x with
 | some (.slice _), .slice (some ⟨k, o, none⟩) n _ => match s.h.get k with
  | some (.cells c _) => some fun m l => m = n ∧ Z4 (n * size) (c.drop o) = some l ∧ Zu Zbg l = true
  | some (.ro O) => some fun m l => m = n ∧ ((n * size = 0 ∧ l = []) ∨ (n * size ≠ 0 ∧ Z2a O o (n * size) = some l ∧ Zu atom l = true))
  | _ => none
 | some (.slice _), .slice (some ⟨id, o, some _⟩) n _ => some fun m l => m = n ∧ ((n * size = 0 ∧ l = []) ∨ ∃ c, n * size ≠ 0 ∧ ZS id o (n * size) = some c ∧ l = Zm c)
 | some (.int _), .int _ v => some fun m l => v = Int.ofNat m ∧ 0 < m ∧ m ≤ 100000 ∧ 0 < size ∧ l = rep z (m * z.length)
 | some .string, .string b => bif Nat.beq size 1 then some (fun m l => m = b.size ∧ l = ZsD b) else none
 | _, _ => none
section
variable (P : Program) (s : St) (ts tx : TypeId) (x y : Value)
def Zgz (m : Nat) (l c : List Value) : Out :=
 match P.underlying ts with
 | some (.slice e) => match P.info? e, ZgY P e with
  | some i, some z => match Z2b P s z i.size tx y with
   | some p => bif Nat.ble i.bytes 1000 && Nat.beq z.length i.size then match x with
    | .slice none 0 0 => some (.slice (some ⟨s.n, 0, none⟩) m m, (s.add c e).told (dP (p m l ∧ 0 < m ∧ m ≤ 100000 ∧ l = c)))
    | .slice (some ⟨k, o, none⟩) n cp => bif Nat.beq o 0 then match s.h.get k with
     | some (.cells cs e' q) => bif Nat.beq e e' then some (.slice (some ⟨s.n, 0, none⟩) (n + m) (n + m), (s.turn k c e q).told (dP (p m l ∧ 0 < m ∧ m ≤ 100000 ∧ cp < n + m ∧ n ≤ 100000 ∧ n * i.size ≤ cs.length ∧ cs.take (n * i.size) ++ l = c))) else none
     | _ => none
     else none
    | _ => none
    else none
   | none => none
  | _, _ => none
 | _ => none
def Zkj (P : Program) (s : St) (ts tx : TypeId) (x y : Value) (m : Nat) (l c : List Value) : Out := none
def Zkk : Out :=
 match P.underlying ts with
 | some (.slice e) => match P.info? e, ZgY P e with
  | some i, some z => match Z2b P s z i.size tx y with
   | some p => bif Nat.ble i.bytes 1000 && Nat.beq z.length i.size then match x with
    | .slice none 0 0 => some (x, s.told (dP (p 0 [])))
    | .slice (some ⟨_, _, none⟩) _ _ => some (x, s.told (dP (p 0 [])))
    | _ => none
    else none
   | none => none
  | _, _ => none
 | _ => none
def ZlX (m : Nat) (l c : List Value) (cs : List Cell) : Out :=
 match Zgz P s ts tx x y m l c with
 | some (.slice (some ⟨j, 0, none⟩) n1 n2, s1) => bif Nat.beq j s.n then match s1.h.get s.n with
  | some (.cells cl _) => some (.slice (some ⟨code cs, 0, some 0⟩) m m, (⟨s1.h.set s.n none, s1.n, s1.wr, s1.orc, s1.ob⟩ : St).told (dP (n1 = m ∧ n2 = m ∧ cl = Zm cs)))
  | _ => none
  else none
 | _ => none
def ZlY (m : Nat) (l c0 c : List Value) : Out :=
 match Zgz P s ts tx x y m l c0 with
 | some (v, s1) => match s1.h.get s.n with
  | some (.cells cl e q) => some (v, (⟨s1.h.set s.n (some (.cells c e q)), s1.n, s1.wr, s1.orc, s1.ob⟩ : St).told (dP (cl.map (nlV 0) = c)))
  | _ => none
 | none => none
end
section
variable (P : Program) (ρ : Operand → Value) (t : TypeId)
def ZgT (x : Operand) (f : Nat) (s : St) : Out :=
 match P.underlying t, ρ x with
 | some (.struct fs), .pointer (some ⟨k, o, none⟩) => match fs[f]? with
  | some f => match P.info? f.type with
   | some i => bif Nat.beq i.size 0 then none else some (.pointer (some ⟨k, o + f.offset, none⟩), s)
   | none => none
  | none => none
 | some (.struct fs), .pointer (some ⟨id, o, some z⟩) => match fs[f]? with
  | some f => match P.info? f.type with
   | some i => bif Nat.beq i.size 0 then none else some (.pointer (some ⟨id, o + f.offset, some z⟩), s)
   | none => none
  | none => none
 | _, _ => none
def ZlZ (x : Operand) (f : Nat) (s : St) : Out :=
 match P.underlying t, ρ x with
 | some (.struct fs), .agg cs => match fs[f]? with
  | some f => match ZgS P f.type cs f.offset with | some v => some (v, s) | none => none
  | none => none
 | _, _ => none
def Zma (P : Program) (ρ : Operand → Value) (t : TypeId) (x ix : Operand) (s : St) : Out := none
def ZdX (x ix : Operand) (s : St) : Out :=
 match P.underlying t, ρ x, ZmV (ρ ix) with
 | some (.slice e), .slice (some ⟨k, o, none⟩) n _, some i => match P.info? e with
  | some ie => bif Nat.blt i n then some (.pointer (some ⟨k, o + i * ie.size, none⟩), s) else none
  | none => none
 | some (.array n e), .pointer (some ⟨k, o, none⟩), some i => match P.info? e with
  | some ie => bif Nat.blt i n then some (.pointer (some ⟨k, o + i * ie.size, none⟩), s) else none
  | none => none
 | some (.slice e), .slice (some ⟨id, o, some z⟩) n _, some i => match P.info? e with
  | some ie => bif Nat.blt i n then some (.pointer (some ⟨id, o + i * ie.size, some z⟩), s) else none
  | none => none
 | _, _, _ => none
def ZcW (v : Value) (n : Nat) : Bool :=
 match v with
 | .int _ b => b == Int.ofNat n
 | _ => false
def ZfZ (x ix : Operand) (i : Nat) (s : St) : Out :=
 match P.underlying t, ρ x with
 | some (.slice e), .slice (some ⟨k, o, none⟩) n _ => match P.info? e with
  | some ie => some (.pointer (some ⟨k, o + i * ie.size, none⟩), (s.told (ZcW (ρ ix) i)).told (Nat.blt i n))
  | none => none
 | some (.array n e), .pointer (some ⟨k, o, none⟩) => match P.info? e with
  | some ie => some (.pointer (some ⟨k, o + i * ie.size, none⟩), (s.told (ZcW (ρ ix) i)).told (Nat.blt i n))
  | none => none
 | some (.slice e), .slice (some ⟨id, o, some z⟩) n _ => match P.info? e with
  | some ie => some (.pointer (some ⟨id, o + i * ie.size, some z⟩), (s.told (ZcW (ρ ix) i)).told (Nat.blt i n))
  | none => none
 | _, _ => none
def Zez (ρ : Operand → Value) (d : Nat) (x : Option Operand) (n : Nat) : Bool :=
 match x with
 | none => dP (d = n)
 | some x => ZcW (ρ x) n
def Zkl (x : Operand) (lo hi : Option Operand) (l h : Nat) (s : St) : Out :=
 match P.underlying t, ρ x with
 | some (.slice e), .slice (some ⟨k, o, none⟩) n c => match P.info? e with
  | some ie => bif Nat.blt 0 ie.size then some (.slice (some ⟨k, o + l * ie.size, none⟩) (h - l) (c - l), ((s.told (Zez ρ 0 lo l)).told (Zez ρ n hi h)).told (dP (l ≤ h ∧ h ≤ c))) else none
  | none => none
 | some (.slice e), .slice none 0 0 => match P.info? e with
  | some _ => some (.slice none 0 0, ((s.told (Zez ρ 0 lo l)).told (Zez ρ 0 hi h)).told (dP (l = 0 ∧ h = 0)))
  | none => none
 | _, _ => none
def Zkm (x : Operand) (lo hi : Option Operand) (l h m : Nat) (cs : List Cell) (s : St) : Out :=
 match P.underlying t, ρ x with
 | some (.slice e), .slice (some ⟨id, o, some _⟩) n c => match P.info? e with
  | some ie => some (.slice (some ⟨code cs, 0, some 0⟩) m m, ((s.told (Zez ρ 0 lo l)).told (Zez ρ n hi h)).told (dP (l ≤ h ∧ h ≤ c ∧ ZS id (o + l * ie.size) cs.length = some cs ∧ (h - l) * ie.size = cs.length ∧ m = h - l)))
  | none => none
 | _, _ => none
def Zo1 (P : Program) (ρ : Operand → Value) (t : TypeId) (x : Operand) (lo hi : Option Operand) (h : Nat) (c' : List Value) (s : St) : Out := none
def ZdD : List Value → List Cell → Bool
 | [], [] => true
 | .int .i64 a :: r, .i b :: l => (a == b) && ZdD r l
 | .bool a :: r, .b b :: l => (a == b) && ZdD r l
 | .int k a :: r, .k k' b :: l => (decide (k = k') && (a == b)) && ZdD r l
 | .string a :: r, .s b :: l => dP (a = b) && ZdD r l
 | v :: r, .any :: l => dP (v.oneCell' = true) && ZdD r l
 | v :: r, .m id o n c :: l => dP (v = .slice (some ⟨id, o, some 0⟩) n c) && ZdD r l
 | _, _ => false
def ZdQ (r : Option (List Value)) (l : List Cell) : Bool :=
 match r with
 | some c => ZdD c l
 | none => false
def ZmW (s : St) (k o m : Nat) : Option (List Value) :=
 match s.h.get k with
 | some (.cells c _ q) => match q with
  | false => Z4 m (c.drop o)
  | true => bif Nat.beq m 0 then none else Z4 m (c.drop o)
 | _ => none
def Zmb (a : Operand) (l : List Cell) (s : St) : Out :=
 match ρ a with
 | .pointer (some ⟨k, o, none⟩) => match Zje P t with
  | some (true, m) => some (.agg (Zm l).toArray, s.told (ZdQ (ZmW s k o m) l))
  | some (false, _) => match l with
   | [x] => some (ZdP x, s.told (ZdQ (ZmW s k o 1) l))
   | _ => none
  | none => none
 | .pointer (some ⟨id, o, some _⟩) => match Zje P t with
  | some (true, m) => some (.agg (Zm l).toArray, s.told (dP (ZS id o m = some l)))
  | some (false, _) => match l with
   | [x] => some (ZdP x, s.told (dP (ZS id o 1 = some l)))
   | _ => none
  | none => none
 | _ => none
def Zh3 (x : Operand) (lo hi : Option Operand) (s : St) : Out :=
 match P.underlying t, ρ x with
 | some (.slice e), .slice (some ⟨k, o, none⟩) n c => match P.info? e, ZgZ ρ 0 lo, ZgZ ρ n hi with
  | some ie, some l, some h => bif Nat.ble l h && Nat.ble h c && Nat.blt 0 ie.size then some (.slice (some ⟨k, o + l * ie.size, none⟩) (h - l) (c - l), s) else none
  | _, _, _ => none
 | some (.slice e), .slice none 0 0 => match P.info? e, ZgZ ρ 0 lo, ZgZ ρ 0 hi with
  | some _, some 0, some 0 => some (.slice none 0 0, s)
  | _, _, _ => none
 | some (.array n e), .pointer (some ⟨k, o, none⟩) => match P.info? e, ZgZ ρ 0 lo, ZgZ ρ n hi with
  | some ie, some l, some h => bif Nat.ble l h && Nat.ble h n && Nat.blt 0 ie.size then some (.slice (some ⟨k, o + l * ie.size, none⟩) (h - l) (n - l), s) else none
  | _, _, _ => none
 | _, _ => none
end
def Zkn (P : Program) (ρ : Operand → Value) (t : TypeId) (x : Operand) (lo hi : Option Operand) (s : St) : Out := none
noncomputable def Zko (P : Program) (ρ : Operand → Value) (t : TypeId) (x : Operand) (lo hi : Option Operand) (M : List Int) (s : St) : Out := none
noncomputable def Zkp (P : Program) (ρ : Operand → Value) (t : TypeId) (x ix : Operand) (c : List Int) (s : St) : Out := none
def ZsE : Option TypeDesc → Value → Value → Option Bool
 | some (.pointer _), .pointer none, .pointer b => some b.isNone
 | some (.pointer _), .pointer _, .pointer none => some false
 | some (.slice _), .slice none _ _, .slice none _ _ => some true
 | some (.slice _), .slice none _ _, .slice (some _) _ c => bif ZlU && Nat.beq c 0 then none else some false
 | some (.slice _), .slice (some _) _ c, .slice none _ _ => bif ZlU && Nat.beq c 0 then none else some false
 | some (.func ..), .nilFunc, .func .. => some false
 | some (.func ..), .func .., .nilFunc => some false
 | _, _, _ => none
def u8T : TypeId := 5
def Ziy : Option AObj → Bool
 | some (.cells _ t) => !Nat.beq t u8T
 | _ => false
section
variable (P : Program) (h : Tr AObj) (d : Option TypeDesc) (x y : Value)
def Z2c : Option Bool :=
 match d, x, y with
 | some (.pointer el), .pointer (some ⟨k, _, none⟩), .pointer (some ⟨k', _, none⟩) => match P.info? el with
  | some i => bif !Nat.beq i.size 0 && (!Nat.beq k k' && (Ziy (h.get k) && Ziy (h.get k'))) then some false else none
  | none => none
 | _, _, _ => none
def Zud (P : Program) (d : Option TypeDesc) (x y : Value) : Bool :=
 match d, x, y with
 | some (.pointer el), .pointer (some ⟨k, o, none⟩), .pointer (some ⟨k', o', none⟩) => match P.info? el with
  | some _ => Nat.beq k k' && Nat.beq o o'
  | none => false
 | _, _, _ => false
def Zo2 : Option Bool :=
 match ZsE d x y with
 | some q => some q
 | none => bif Zud P d x y then some true else Z2c P h d x y
end
def Z2Z : Value → List Nat
 | .pointer (some ⟨k, _, none⟩) => [k]
 | _ => []
def ZxE (P : Program) (g : TypeId → Value → Value → Option Bool) (xs ys : Array Value) : List Field → Option Bool
 | [] => some true
 | f :: fs => bif f.name == "_" then none else match ZgS P f.type xs f.offset, ZgS P f.type ys f.offset, ZxE P g xs ys fs with
  | some a, some b, some r => match g f.type a b with | some q => some (q && r) | none => none
  | _, _, _ => none
def ZxF (P : Program) (g : Value → Value → Option Bool) (e : TypeId) (sz : Nat) (xs ys : Array Value) : Nat → Nat → Option Bool
 | 0, _ => some true
 | n + 1, i => match ZgS P e xs (i * sz), ZgS P e ys (i * sz), ZxF P g e sz xs ys n (i + 1) with
  | some a, some b, some r => match g a b with | some q => some (q && r) | none => none
  | _, _, _ => none
def eqV (P : Program) : Nat → TypeId → Value → Value → Option Bool
 | 0, _, _, _ => none
 | d + 1, t, x, y => match P.underlying t, x, y with
  | some (.int _), .int k a, .int k' b => if k = k' then some (a == b) else none
  | some .bool, .bool a, .bool b => some (a == b)
  | some (.struct fs), .agg xs, .agg ys => bif P.stoodInHeld t then none else ZxE P (eqV P d) xs ys fs.toList
  | some (.array n e), .agg xs, .agg ys => match P.info? e with | some i => ZxF P (eqV P d e) e i.size xs ys n 0 | none => none
  | _, _, _ => none
def ZmX (P : Program) (t : TypeId) (x y : Value) : Option Bool :=
 match x, y with
 | .agg _, .agg _ => bif P.eqGuardType P.depth t then none else eqV P 8 t x y
 | _, _ => none
section
variable (P : Program) (ρ : Operand → Value)
def ZiU (o : Oper) (op : BinOp) (t : TypeId) (x y : Operand) (s : St) : Out :=
 match ZmX P t (ρ x) (ρ y), op with
 | some q, .eql => some (.bool q, s)
 | some q, .neq => some (.bool (!q), s)
 | _, _ => match ZdC P ρ o s with
 | some r => some r
 | none => match Zo2 P s.h (P.underlying t) (ρ x) (ρ y), op with
  | some q, .eql => some (.bool q, s)
  | some q, .neq => some (.bool (!q), s)
  | _, _ => none
def Zo3 (ρ : Operand → Value) (x y : Operand) (s : St) : Out :=
 match ρ x, ρ y with
 | .int k a, .int k' b => some (.int k (Int.tmod a b), s.told (dP (k = k' ∧ b ≠ 0)))
 | _, _ => none
def Zqa (ρ : Operand → Value) (op : BinOp) (x y : Operand) (n : Nat) (s : St) : Out :=
 match ρ x, ρ y, op with
 | .int k a, .int _ b, .shl => some (.int k (k.wrap (a * 2 ^ n)), s.told (dP (b = Int.ofNat n ∧ n ≤ k.bits)))
 | .int k a, .int _ b, .shr => some (.int k (a / 2 ^ n), s.told (dP (b = Int.ofNat n ∧ n ≤ k.bits)))
 | _, _, _ => none
def ZsF (ρ : Operand → Value) (x y : Operand) (s : St) : Out := none
def ZeP (t : TypeId) (l c : Operand) (s : St) : Out :=
 match P.underlying t, ZmV (ρ l), ZmV (ρ c) with
 | some (.slice e), some l, some c => match P.info? e, ZgY P e with
  | some i, some z => bif Nat.ble l c && Nat.ble c 300000 && Nat.ble i.bytes 1000 && Nat.blt 0 z.length then
    some (.slice (some ⟨s.n, 0, none⟩) l c, s.add (rep z (c * i.size)) e)
   else none
  | _, _ => none
 | _, _, _ => none
def Zmc (t : TypeId) (l c : Operand) (n cp : Nat) (cs : List Value) (s : St) : Out :=
 match P.underlying t with
 | some (.slice e) => match P.info? e, ZgY P e with
  | some i, some z => bif Nat.ble i.bytes 1000 && Nat.blt 0 z.length then
    some (.slice (some ⟨s.n, 0, none⟩) n cp, (((s.add cs e).told (ZcW (ρ l) n)).told (ZcW (ρ c) cp)).told (dP (n ≤ cp ∧ cp ≤ 300000 ∧ rep z (cp * i.size) = cs)))
   else none
  | _, _ => none
 | _ => none
def Z1y : List Value → Bool
 | [] => false
 | .slice none _ _ :: _ => true
 | _ :: l => Z1y l
def Zmd (P : Program) (t : TypeId) (s : St) : Out :=
 match ZgY P t with
 | some z => match Z1y z with
  | true => match s.nextW with
   | (some (.apn _ _ _ c), s1) => some (at0 s.n, (s1.add c t).told (dP (z.map (nlV 0) = c)))
   | (some _, _) => none
   | (none, s1) => some (at0 s.n, s1.add z t)
  | false => some (at0 s.n, s.add z t)
 | none => none
def Zme (P : Program) (ρ : Operand → Value) (t : TypeId) (l c : Operand) (n : Nat) (c0 cN : List Value) (s : St) : Out := none
def Zmf : List Value → Option (List Int)
 | [] => some []
 | .int .u8 n :: l => match Zmf l with | some r => some (n :: r) | none => none
 | _ => none
def Zkq (P : Program) (a b : TypeId) (z : ByteArray) (r : Option Told) (s : St) : Out := none
def Z3Z (P : Program) (t u : TypeId) : Bool := Nat.beq t u || (match P.underlying t with
 | some (.struct fs) => !P.stoodInHeld t && (match fs[0]? with
  | some f => Nat.beq f.offset 0 && Nat.beq f.type u
  | none => false)
 | _ => false)
def Z3a (P : Program) (t : TypeId) (n : Nat) : Bool := match P.info? t with
 | some j => Nat.blt 0 j.size && Nat.ble j.size n
 | none => false
def Zh4 (a b : TypeId) (x : Operand) (s : St) : Out :=
 match P.underlying a, P.underlying b, ρ x with
 | some (.slice e), some .string, .slice (some ⟨k, o, none⟩) n _ => match P.underlying e, rowAt s k o n with
  | some (.int .u8), some l => match Zmf l with
   | some ns => some (.string (ns.foldl (fun r n => r.push (UInt8.ofNat n.toNat)) ByteArray.empty), s)
   | none => none
  | _, _ => none
 | some (.pointer t), some .unsafePointer, .pointer (some ⟨k, o, none⟩) => match P.info? t, rowAt s k o 1 with
  | some i, some [_] => bif Nat.beq i.size 0 then none else some (.pointer (some ⟨k, o, none⟩), s)
  | _, _ => none
 | some .unsafePointer, some (.pointer u), .pointer (some ⟨k, 0, none⟩) => match P.info? u, s.h.get k with
  | some i, some (.cells c t) => bif Nat.blt 0 i.size && (Z3Z P t u && Z3a P t c.length) then some (.pointer (some ⟨k, 0, none⟩), s) else none
  | _, _ => none
 | _, _, _ => none
def ZhB (P : Program) (ρ : Operand → Value) (a b : TypeId) (x : Operand) (ns : List Int) (s : St) : Out := none
def Ziz (kk : IntKind) (e : Nat) (args : Array Value) (s : St) : Out := none
def Zjf (kk : IntKind) (e : Nat) (args : Array Value) (v : Int) (c' : List Value) (s : St) : Out := none
def Zo4 (n : Nat) (args : Array Value) (s : St) : Out := none
def Zx2 (q : IntKind) (k : Value) (es : List MapEntry) : Option (Option Value) :=
 match Instr.findNow (.int q) k es 0 with
 | some (some r) => some (some r.2)
 | some none => some none
 | none => none
def Z2d (q : IntKind) (k x : Value) (es : List MapEntry) : Option (List MapEntry) :=
 match Instr.findNow (.int q) k es 0 with
 | some none => some (es ++ [⟨k, x, 0⟩])
 | some (some r) => some (es.modify r.1 fun e => ⟨k, x, e.born⟩)
 | none => none
def ZxG (P : Program) (t : TypeId) : Bool :=
 match P.underlying t with
 | some (.int _) | some .bool | some .string => true
 | _ => false
def ZmY (P : Program) (cs : Array Value) : List Field → Bool
 | [] => true
 | f :: fs => (f.name == "_" || (ZxG P f.type && (ZgS P f.type cs f.offset).isSome)) && ZmY P cs fs
def Zkr (P : Program) (kt : TypeId) (k : Value) : List MapEntry → Nat → Option (Option (Nat × Value))
 | [], _ => some none
 | e :: es, i => bif ZaT e.key then match ZmX P kt k e.key with
  | some true => some (some (i, e.val))
  | some false => Zkr P kt k es (i + 1)
  | none => none
  else none
def Zdo (P : Program) (kt : TypeId) (k : Value) (es : List MapEntry) : Option (Option (Nat × Value)) :=
 match P.underlying kt with
 | some (.int q) => Instr.findNow (.int q) k es 0
 | some .string => Instr.findNow .string k es 0
 | some (.struct fs) => match k with
  | .agg cs => bif ZmY P cs fs.toList then Zkr P kt k es 0 else none
  | _ => none
 | _ => none
def putM (P : Program) (kt : TypeId) (k x : Value) (es : List MapEntry) : Option (List MapEntry) :=
 match Zdo P kt k es with
 | some none => some (es ++ [⟨k, x, 0⟩])
 | some (some r) => bif Instr.sameBits 10000 (((es[r.1]?).map (·.key)).getD k) k then some (es.modify r.1 fun e => ⟨k, x, e.born⟩) else none
 | none => none
def Zx3 (P : Program) (t : TypeId) : Option Value :=
 match P.info? t with
 | some i => match i.zero with
  | some z => bif ZaT z then some z else none
  | none => none
 | none => none
def Zg0 (z : Value) (ok : Bool) (r : Option Value) : Value :=
 match ok with
 | true => .tuple #[r.getD z, .bool r.isSome]
 | false => r.getD z
def Zks : Option Value → Bool
 | some v => ZaT v
 | none => true
def ZhC (s : St) : Value → Option (List MapEntry)
 | .map none => some []
 | .map (some k) => match s.h.get k with
  | some (.ro (.map es _) true) => some es.toList
  | _ => none
 | _ => none
def Zfr (t : TypeId) (x ix : Operand) (ok : Bool) (s : St) : Out :=
 match P.underlying t with
 | some (.map kt et) => match Zx3 P et, ZhC s (ρ x) with
  | some z, some es => bif ZaT (ρ ix) then match Zdo P kt (ρ ix) es with
   | some r => bif Zks (r.map (·.2)) then some (Zg0 z ok (r.map (·.2)), s) else none
   | none => none
   else none
  | _, _ => none
 | _ => none
def Zjg (t : TypeId) (x ix : Operand) (ok : Bool) (r : Option Value) (s : St) : Out :=
 match P.underlying t with
 | some (.map kt et) => match P.underlying kt, Zx3 P et, ZhC s (ρ x) with
  | some (.int q), some z, some es => bif atom (ρ ix) && Zks r then some (Zg0 z ok r, s.told (dP (Zx2 q (ρ ix) es = some r))) else none
  | some (.struct _), some z, some es => bif ZaT (ρ ix) && Zks r then some (Zg0 z ok r, s.told (dP ((Zdo P kt (ρ ix) es).map (Option.map Prod.snd) = some r))) else none
  | some .string, some z, some es => bif ZaT (ρ ix) && Zks r then some (Zg0 z ok r, s.told (dP ((Zdo P kt (ρ ix) es).map (Option.map Prod.snd) = some r))) else none
  | _, _, _ => none
 | _ => none
def Zfs (t : TypeId) (m k x : Operand) (s : St) : Out :=
 match P.underlying t, ρ m with
 | some (.map kt _), .map (some b) => match ZhC s (.map (some b)) with
  | some es => bif ZaT (ρ k) && ZaT (ρ x) then match putM P kt (ρ k) (ρ x) es with
   | some l => some (undef, s.putM b (.map l.toArray 0))
   | none => none
   else none
  | none => none
 | _, _ => none
def Zjh (t : TypeId) (m k x : Operand) (l : List MapEntry) (s : St) : Out :=
 match P.underlying t, ρ m with
 | some (.map kt _), .map (some b) => match P.underlying kt, ZhC s (.map (some b)) with
  | some (.int q), some es => bif atom (ρ k) && ZaT (ρ x) then some (undef, (s.putM b (.map l.toArray 0)).told (dP (Z2d q (ρ k) (ρ x) es = some l))) else none
  | some (.struct _), some es => bif ZaT (ρ k) && ZaT (ρ x) then some (undef, (s.putM b (.map l.toArray 0)).told (dP (putM P kt (ρ k) (ρ x) es = some l))) else none
  | some .string, some es => bif ZaT (ρ k) && ZaT (ρ x) then some (undef, (s.putM b (.map l.toArray 0)).told (dP (putM P kt (ρ k) (ρ x) es = some l))) else none
  | _, _ => none
 | _, _ => none
def Zmg (P : Program) (ρ : Operand → Value) (t : TypeId) (x : Operand) (s : St) : Out := none
def Zo5 (ρ : Operand → Value) (it : Operand) (q : Bool) (s : St) : Out := none
def Zji (t : TypeId) (r : Option Operand) (s : St) : Out :=
 match r with
 | none => some (.map (some s.n), s.addM (.map #[] 0))
 | some x => match P.underlying t, ρ x with
  | some (.map _ _), .int _ _ => some (.map (some s.n), s.addM (.map #[] 0))
  | _, _ => none
def Zkt (P : Program) (s : St) (t : TypeId) (x k : Value) : Out := none
def Zmh (P : Program) (s : St) (t : TypeId) (x : Value) : Out := none
def callee (ρ : Operand → Value) (c : Call) : Option (FuncId × Array Value) :=
 match c.callee with
 | .value f => match ρ f with
  | .func (.func f) a b => some (f, a ++ c.args.map ρ ++ b)
  | _ => none
 | _ => none
def Zjj (o : Oper) (c : Call) (b : Builtin) (s : St) : Out :=
 match b with
 | .append => match c.argTypes.toList, c.args.toList with
  | [t, tx], [x, y] => match s.nextW with
   | (some (.ap m l c), s1) => Zgz P s1 t tx (ρ x) (ρ y) m l c
   | (some (.api m l c), s1) => Zkj P s1 t tx (ρ x) (ρ y) m l c
   | (some .ap0, s1) => Zkk P s1 t tx (ρ x) (ρ y)
   | (some (.apz m l c cs), s1) => ZlX P s1 t tx (ρ x) (ρ y) m l c cs
   | (some (.apn m l c0 c), s1) => ZlY P s1 t tx (ρ x) (ρ y) m l c0 c
   | (some _, _) => none
   | (none, s1) => ZdI P s1 t tx (ρ x) (ρ y)
  | _, _ => none
 | .len => match c.argTypes.toList, c.args.toList with
  | [t], [x] => match P.underlying t, ρ x with
   | some (.slice _), .slice (some _) n _ => some (goInt n, s)
   | some (.map _ _), .map (some b) => match ZhC s (.map (some b)) with
    | some es => some (goInt es.length, s)
    | none => none
   | _, _ => ZdC P ρ o s
  | _, _ => none
 | .delete => match c.argTypes.toList, c.args.toList with
  | [t, _], [x, k] => Zkt P s t (ρ x) (ρ k)
  | _, _ => none
 | .clear => match c.argTypes.toList, c.args.toList with
  | [t], [x] => Zmh P s t (ρ x)
  | _, _ => none
 | _ => ZdC P ρ o s
def Z2e (o : Oper) (t : TypeId) (x : Operand) (lo hi : Option Operand) (s : St) : Out :=
 match s.nextW with
 | (some (.sl l h), s1) => Zkl P ρ t x lo hi l h s1
 | (some (.ms l h m cs), s1) => Zkm P ρ t x lo hi l h m cs s1
 | (some (.cut h c), s1) => Zo1 P ρ t x lo hi h c s1
 | (some (.bs M), s1) => Zko P ρ t x lo hi M s1
 | (some _, _) => none
 | (none, s1) => match Zh3 P ρ t x lo hi s1 with | some r => some r | none => match Zkn P ρ t x lo hi s1 with | some r => some r | none => ZdC P ρ o s1
def ev1 (o : Oper) (s : St) : Out :=
 match o.op with
 | .move x | .assign x => some (ρ x, s)
 | .pick c a b => match ρ c with
  | .bool t => match t with
   | true => some (ρ a, s)
   | false => some (ρ b, s)
  | _ => none
 | .alloc t => Zmd P t s
 | .box t x => some (at0 s.n, s.add (ρ x).cells.toList t)
 | .build t ps => ZlW P ρ t ps s
 | .buildSlice t n ps => ZfY P ρ t n ps s
 | .load t a => match s.nextL with
  | (some l, s1) => Zmb P ρ t a l s1
  | (none, s1) => match ρ a with
   | .pointer (some ⟨k, o, none⟩) => match Zkh P s1 t k o with | some v => some (v, s1) | none => none
   | _ => none
 | .store t a x => match s.nextW with
  | (some (.st c), s1) => Zhq P ρ t a x c s1
  | (some (.stf k cs c), s1) => Zki P ρ t a x k cs c s1
  | (some _, _) => none
  | (none, s1) => Zix P ρ t a x s1
 | .nilCheck x => match ρ x with
  | .pointer (some a) => some (.pointer (some a), s)
  | .func (.func f) a b => some (.func (.func f) a b, s)
  | _ => none
 | .fieldAddr t x f => ZgT P ρ t x f s
 | .field t x f => ZlZ P ρ t x f s
 | .index t x ix => match ρ x with
  | .string _ => match s.nextW with
   | (some (.bs c), s1) => Zkp P ρ t x ix c s1
   | (some _, _) => none
   | (none, s1) => ZdC P ρ o s1
  | _ => match Zma P ρ t x ix s with | some r => some r | none => ZdC P ρ o s
 | .indexAddr t x ix => match s.nextX with
  | (some n, s1) => ZfZ P ρ t x ix n s1
  | (none, s1) => ZdX P ρ t x ix s1
 | .extract x i => match ρ x with | .tuple vs => (match (vs[i]? : Option Value) with | some v => some (v, s) | none => none) | _ => none
 | .slice t x lo hi mx => match mx with
  | none => Z2e P ρ o t x lo hi s
  | some _ => none
 | .binOp .rem t x y _ => match s.nextW with
  | (some .dv, s1) => Zo3 ρ x y s1
  | (some _, _) => none
  | (none, s1) => ZiU P ρ o .rem t x y s1
 | .binOp .shl t x y _ => match s.nextW with
  | (some (.sh n), s1) => Zqa ρ .shl x y n s1
  | (some _, _) => none
  | (none, s1) => ZiU P ρ o .shl t x y s1
 | .binOp .shr t x y _ => match s.nextW with
  | (some (.sh n), s1) => Zqa ρ .shr x y n s1
  | (some _, _) => none
  | (none, s1) => ZiU P ρ o .shr t x y s1
 | .binOp .add t x y _ => match ρ x with
  | .string _ => ZsF ρ x y s
  | _ => ZiU P ρ o .add t x y s
 | .binOp op t x y _ => ZiU P ρ o op t x y s
 | .makeSlice t l c => match s.nextW with
  | (some (.mk n cp cs), s1) => Zmc P ρ t l c n cp cs s1
  | (some (.apn n _ c0 cN), s1) => Zme P ρ t l c n c0 cN s1
  | (some _, _) => none
  | (none, s1) => ZeP P ρ t l c s1
 | .makeFunc fn a b => some (.func fn (a.map ρ) (b.map ρ), s)
 | .makeMap t r => Zji P ρ t r s
 | .range t x => Zmg P ρ t x s
 | .next it q => Zo5 ρ it q s
 | .lookup t x ix ok => match s.nextW with
  | (some (.lk r), s1) => Zjg P ρ t x ix ok r s1
  | (some _, _) => none
  | (none, s1) => Zfr P ρ t x ix ok s1
 | .mapUpdate t m k x => match s.nextW with
  | (some (.mp l), s1) => Zjh P ρ t m k x l s1
  | (some _, _) => none
  | (none, s1) => Zfs P ρ t m k x s1
 | .unOp .. => ZdC P ρ o s
 | .makeInterface .. => ZdC P ρ o s
 | .convert a b x => match ρ x with
  | .slice (some _) _ _ => match s.nextW with
   | (some (.bs ns), s1) => ZhB P ρ a b x ns s1
   | (some _, _) => none
   | (none, s1) => Zh4 P ρ a b x s1
  | .string z => match s.nextW with
   | (r, s1) => match Zkq P a b z r s1 with
    | some r => some r
    | none => ZdC P ρ o s1
  | _ => match Zh4 P ρ a b x s with | some r => some r | none => ZdC P ρ o s
 | .call c => match c.callee with
  | .builtin b => Zjj P ρ o c b s
  | _ => none
 | _ => none
def ZxH (o : Oper) (v : Value) (s : St) : Value × St :=
 match o.op, v with
 | .binOp .., .bool t | .unOp .., .bool t | .load .., .bool t | .field .., .bool t | .index .., .bool t => match s.tst t with | (b, s') => (.bool b, s')
 | .binOp .., .int k x | .unOp .., .int k x | .convert .., .int k x => match s.vst x with | (y, s') => (.int k y, s')
 | _, _ => (v, s)
def Zo6 (o : Oper) : Option Call :=
 match o.op with
 | .call c => match c.callee with
  | .value _ => some c
  | .invoke _ _ => some c
  | _ => none
 | _ => none
def Zue (c : Call) : Option (FuncId × Array Value) :=
 match c.callee with
 | .invoke r name => match ρ r with
  | .iface t v => bif ZaT v then match ZmU P (method (P.types.size + Made.depth) t v name) with
   | some (f, x) => bif ZaT x then some (f, #[x] ++ c.args.map ρ) else none
   | none => none
   else none
  | _ => none
 | _ => callee ρ c

end
def Zh5 (ops : Array Oper) (T : Tr Value) (o : Oper) (s : St) : Option (Bool × St) :=
 match o.guard with
 | none => some (true, s)
 | some (j, want) => match (ops[j]?).bind (·.dst) with
  | some d => match T.get d with
   | some (.bool b) => some (b == want, s)
   | some (.tuple _) => some (false, s)
   | _ => none
  | none => none
def Zi0 (T : Tr Value) (dst : Option Tmp) (v : Value) : Tr Value := match dst with | some d => T.set d (some v) | none => T
inductive Ex where | normal | exit (id : Nat) | ret
def Zha : Nat → List Value → Tr Value → Tr Value
 | _, [], T => T
 | i, v :: l, T => Zha (i + 1) l (T.set i (some v))
def Zdd (P : Program) (T : Tr Value) (s : St) : List ResultVar → Option (List Value)
 | [] => some []
 | .tmp t :: l => match Zdd P T s l with | some r => some ((T.get t).getD undef :: r) | none => none
 | .cell a t :: l => match (T.get a).getD undef with
  | .pointer (some ⟨k, o, none⟩) => match Zkh P s t k o, Zdd P T s l with
   | some v, some r => some (v :: r)
   | _, _ => none
  | _ => none
def ZmZ (nt : Nat) : Option Tmp → Bool
 | none => true
 | some d => Nat.blt d nt
/-! ### A region that draws its order: each operation is run on what it Zh6 alone, and those that may change places must not meet -/
inductive Ext where
 | at (k : IntKind) (e : Nat)
 | mark (n : Nat)
 | fn (g : List Value → Option Value)
 | hp (g : Array Value → St → Out)
 | tc (S : Array Value → List (Nat × AObj) → Value → List (Nat × Option AObj) → Nat → Nat → Prop)
def AObj.sameAs (o : Option AObj) (p : AObj) : Bool :=
 match o, p with
 | some (.cells c t), .cells c' t' => bif Nat.beq t t' then dP (c = c') else false
 | some (.cells c t true), .cells c' t' true => bif Nat.beq t t' then dP (c = c') else false
 | some (.ro O), .ro O' => dP (O = O')
 | some (.ro O true), .ro O' true => dP (O = O')
 | _, _ => false
def Zaq {α : Type} (k : Nat) : List (Nat × α) → Option α
 | [] => none
 | x :: l => bif Nat.beq x.1 k then some x.2 else Zaq k l
def behind (pre : List (Nat × AObj)) (post : List (Nat × Option AObj)) (k : Nat) : Option AObj :=
 match Zaq k post with
 | some o => o
 | none => Zaq k pre
def ZsG (pre : List (Nat × AObj)) (n n' : Nat) : List (Nat × Option AObj) → Bool
 | [] => true
 | x :: l => ((Zaq x.1 pre).isSome || (x.2.isSome && (Nat.ble n x.1 && Nat.blt x.1 n'))) && ZsG pre n n' l
def Zqb (h : Tr AObj) : List (Nat × Option AObj) → Tr AObj
 | [] => h
 | x :: l => (Zqb h l).set x.1 x.2
def Zqc (s : St) : List (Nat × AObj) → List (Bool × Bool)
 | [] => s.ob
 | x :: l => (AObj.sameAs (s.h.get x.1) x.2, true) :: Zqc s l
def Zc4 : Value → Bool
 | .iface _ (.agg cs) => !cs.isEmpty && Zu atom cs.toList
 | _ => false
section
variable (S : Array Value → List (Nat × AObj) → Value → List (Nat × Option AObj) → Nat → Nat → Prop) (args : Array Value) (pre : List (Nat × AObj)) (v : Value) (post : List (Nat × Option AObj)) (dn : Nat) (s : St)
def Zqd : Out :=
 bif ZsG pre s.n (s.n + dn) post && Zu (fun x => Nat.blt x.1 s.n) pre then
  some (v, ⟨Zqb s.h post, s.n + dn, post.map (·.1) ++ s.wr, s.orc, (dP (S args pre v post s.n dn), true) :: Zqc s pre⟩)
 else none
def ZxI : Out :=
 match Zc4 v with
 | true => none
 | false => Zqd S args pre v post dn s
end
def Z2f (g : List Value → Option Value) (args : Array Value) (s : St) : Out :=
 bif Zu free args.toList then match g args.toList with
  | some v => bif free v then some (v, s) else none
  | none => none
 else none
def isBig (ext : FuncId → Option Ext) (ρ : Operand → Value) (o : Oper) : Bool :=
 match Zo6 o with
 | some c => match callee ρ c with
  | some (f, _) => (match ext f with | none => true | some (.hp _) => true | some (.tc _) => true | _ => false)
  | none => true
 | none => false
structure Rec where
 small : Bool
 w : Bool
 t : List Nat
 n0 : Nat
 n1 : Nat
 q : List Nat
structure Ent where
 o : Oper
 m : Nat
 r : Rec
 T : Tr Value
 s : St
 v : Value
 s' : St
def Zjv : Value → List Nat
 | .pointer (some ⟨k, _, none⟩) => [k]
 | .slice (some ⟨k, _, none⟩) _ _ => [k]
 | .map (some k) => [k]
 | _ => []
def Z5X : Value → Bool
 | .map _ => true
 | _ => false
def Zh6 (s : St) (ρ : Operand → Value) (o : Oper) : Bool × List Nat :=
 match o.op with
 | .slice _ x _ _ _ => match s.orc.w with
  | some (.cut _ _) :: _ => (true, Zjv (ρ x))
  | _ => (false, [])
 | .convert _ _ x => (false, Zjv (ρ x))
 | .load _ a => (false, Zjv (ρ a))
 | .binOp _ _ x y _ => (false, Z2Z (ρ x) ++ Z2Z (ρ y))
 | .lookup _ x _ _ => (false, Zjv (ρ x))
 | .mapUpdate _ m _ _ => (true, Zjv (ρ m))
 | .store _ a _ => (true, Zjv (ρ a))
 | .call c => match c.callee with
  | .builtin .append => match c.args.toList with
   | [x, _] => (true, Zjv (ρ x))
   | _ => (true, [])
  | .builtin .clear => match c.args.toList with
   | x :: _ => (true, Zjv (ρ x))
   | [] => (true, [])
  | .builtin .delete => match c.args.toList with
   | x :: _ => (true, Zjv (ρ x))
   | [] => (true, [])
  | .builtin .len => match c.args.toList with
   | x :: _ => (false, bif Z5X (ρ x) then Zjv (ρ x) else [])
   | [] => (false, [])
  | .builtin _ => (false, [])
  | _ => match c.args.toList with
   | x :: _ => (true, Zjv (ρ x))
   | [] => (true, [])
 | _ => (false, [])
def Zmi (ρ : Operand → Value) (o : Oper) : List Nat :=
 match o.op with
 | .call c => match c.callee with
  | .builtin .append => match c.args.toList with
   | [_, y] => Zjv (ρ y)
   | _ => []
  | _ => []
 | _ => []
def Zlb (h : Tr AObj) : List Nat → Tr AObj
 | [] => .nil
 | k :: l => (Zlb h l).set k (h.get k)
def Zft (r : Tr AObj) : List Nat → Tr AObj → Tr AObj
 | [], h => h
 | k :: l, h => (Zft r l h).set k (r.get k)
def Zo7 (k : Nat) : List Nat → Bool
 | [] => false
 | x :: l => Nat.beq k x || Zo7 k l
def ZhD (a b : List Nat) : Bool := Zu (fun k => !Zo7 k b) a
def Zmj (n0 n1 : Nat) (l : List Nat) : Bool := Zu (fun k => !(Nat.ble n0 k && Nat.blt k n1)) l
def Zku (n : Nat) : List Nat → List Nat
 | [] => []
 | k :: l => bif Nat.blt k n then k :: Zku n l else Zku n l
def ZsH (a b : Rec) : Bool :=
 match a.small, b.small with
 | true, true => (!(a.w || b.w) || ZhD a.t b.t) && Zmj a.n0 a.n1 b.t && ((!b.w || ZhD a.q b.t) && (!a.w || ZhD a.t b.q) && Zmj a.n0 a.n1 b.q)
 | true, false => !a.w && (Nat.beq a.n0 a.n1 || (Zo7 a.n0 b.q && Nat.ble a.n1 (a.n0 + 1) && Zmj a.n0 a.n1 b.t)) && ZhD a.t b.t && ZhD a.q b.t
 | false, true => !b.w && ZhD a.t b.t && Zmj a.n0 a.n1 b.t && (ZhD a.t b.q && Zmj a.n0 a.n1 b.q)
 | false, false => false
def Zde (done : List Ent) : List Edge → Nat
 | [] => 0
 | e :: l => bif Region.binds .any e then (2 ^ e.on ||| (match done[e.on]? with | some d => d.m | none => 0)) ||| Zde done l else Zde done l
def ZhE : List Operand → List Tmp
 | [] => []
 | .tmp t :: l => t :: ZhE l
 | _ :: l => ZhE l
def Zqe (T : Tr Value) : List Tmp → Tr Value
 | [] => .nil
 | t :: l => (Zqe T l).set t (T.get t)
def Zmk (i : Nat) : List Edge → Bool
 | [] => true
 | e :: l => (!Region.binds .any e || Nat.blt e.on i) && Zmk i l
def Zkb (ops : Array Oper) (o : Oper) (r : Rec) (m : Nat) : Nat → List Ent → Bool
 | _, [] => true
 | j, d :: l => (m.testBit j || (Oper.apart ops d.o o && ZsH d.r r)) && Zkb ops o r m (j + 1) l
def ZxJ (m : Nat) : Nat → List Ent → List Nat
 | _, [] => []
 | j, d :: l => bif d.r.small && !m.testBit j && Nat.blt d.r.n0 d.r.n1 then d.r.n0 :: ZxJ m (j + 1) l else ZxJ m (j + 1) l
def Zjw (s : St) : Rec := ⟨true, false, [], s.n, s.n, []⟩
mutual
def Zbc (P : Program) (ext : FuncId → Option Ext) (nt : Nat) : Nat → Code → Tr Value → St → Option (Ex × Tr Value × St)
 | 0, _, _, _ => none
 | fu + 1, c, T, s => match c with
  | .skip => some (.normal, T, s)
  | .label _ => some (.normal, T, s)
  | .scope c => Zbc P ext nt fu c T s
  | .ret => some (.ret, T, s)
  | .exit id => some (.exit id, T, s)
  | .seq a b => match Zbc P ext nt fu a T s with
   | some (.normal, T', s') => Zbc P ext nt fu b T' s'
   | some (.exit i, T', s') => some (.exit i, T', s')
   | some (.ret, T', s') => some (.ret, T', s')
   | none => none
  | .cond x a b => match opnd T x with
   | .bool t => match t with
    | true => Zbc P ext nt fu a T s
    | false => Zbc P ext nt fu b T s
   | _ => none
  | .block id a => match Zbc P ext nt fu a T s with
   | some (.exit i, T', s') => bif Nat.beq i id then some (.normal, T', s') else some (.exit i, T', s')
   | some (.normal, T', s') => some (.normal, T', s')
   | some (.ret, T', s') => some (.ret, T', s')
   | none => none
  | .loop a => match Zbc P ext nt fu a T s with
   | some (.normal, T', s') => Zbc P ext nt fu (.loop a) T' s'
   | some (.exit i, T', s') => some (.exit i, T', s')
   | some (.ret, T', s') => some (.ret, T', s')
   | none => none
  | .region _ ops draw => bif draw then match Ze0 P ext nt fu ops [] ops.toList T s with
    | some (_, T', s') => some (.normal, T', s')
    | none => none
   else match ZhF P ext nt fu ops ops.toList T s with
   | some (T', s') => some (.normal, T', s')
   | none => none
  | _ => none
termination_by structural fu _ _ _ => fu
def ZhF (P : Program) (ext : FuncId → Option Ext) (nt : Nat) : Nat → Array Oper → List Oper → Tr Value → St → Option (Tr Value × St)
 | 0, _, _, _, _ => none
 | _ + 1, _, [], T, s => some (T, s)
 | fu + 1, ops, o :: l, T, s =>
  bif ZmZ nt o.dst && Zu ZlV o.op.operands.toList then
   match Zh5 ops T o s with
   | some (true, s1) => match Zi1 P ext fu (opnd T) o s1 with
    | some (v, s') => s'.keep fun s' => ZhF P ext nt fu ops l (Zi0 T o.dst v) s'
    | none => none
   | some (false, s1) => ZhF P ext nt fu ops l (Zi0 T o.dst undef) s1
   | none => none
  else none
termination_by structural fu _ _ _ _ => fu
def Ze0 (P : Program) (ext : FuncId → Option Ext) (nt : Nat) : Nat → Array Oper → List Ent → List Oper → Tr Value → St → Option (List Ent × Tr Value × St)
 | 0, _, _, _, _, _ => none
 | _ + 1, _, done, [], T, s => some (done, T, s)
 | fu + 1, ops, done, o :: l, T, s =>
  bif ZmZ nt o.dst && Zu ZlV o.op.operands.toList && Zmk done.length o.after.toList then
   match Zh5 ops T o s with
   | some (true, s1) => match ZjV P ext fu (ZxJ (Zde done o.after.toList) 0 done) (opnd (Zqe T (ZhE o.op.operands.toList))) o s1 with
    | some (v, s', r) => s'.keep fun s' => bif Zkb ops o r (Zde done o.after.toList) 0 done then Ze0 P ext nt fu ops (done ++ [⟨o, Zde done o.after.toList, r, T, s1, v, s'⟩]) l (Zi0 T o.dst v) s' else none
    | none => none
   | some (false, s1) => bif Zkb ops o (Zjw s1) (Zde done o.after.toList) 0 done then Ze0 P ext nt fu ops (done ++ [⟨o, Zde done o.after.toList, Zjw s1, T, s1, undef, s1⟩]) l (Zi0 T o.dst undef) s1 else none
   | none => none
  else none
termination_by structural fu _ _ _ _ _ => fu
def ZjV (P : Program) (ext : FuncId → Option Ext) : Nat → List Nat → (Operand → Value) → Oper → St → Option (Value × St × Rec)
 | 0, _, _, _, _ => none
 | fu + 1, xs, ρ, o, s =>
  match isBig ext ρ o with
  | true => match Zi1 P ext fu ρ o ⟨Zft .nil xs s.h, s.n, [], s.orc, s.ob⟩ with
   | some (v, s') => bif Zu (fun k => Nat.blt k s'.n) s'.wr && (Zu (fun k => Nat.blt k s.n) xs && ZhD xs s'.wr) then some (v, ⟨Zft s.h xs s'.h, s'.n, s'.wr ++ s.wr, s'.orc, s'.ob⟩, ⟨false, true, Zku s.n s'.wr, s.n, s'.n, xs⟩) else none
   | none => none
  | false => match Zh6 s ρ o with
   | (w, t) => bif Zu (fun k => Nat.blt k s.n) t && Zu (fun k => Nat.blt k s.n) (Zmi ρ o) then match Zi1 P ext fu ρ o ⟨Zlb s.h (t ++ Zmi ρ o), s.n, [], s.orc, s.ob⟩ with
     | some (v, s') => bif Zu (fun k => w && Zo7 k t) s'.wr && Nat.ble s'.n (s.n + 1) then some (v, ⟨(bif w then Zft s'.h t s.h else s.h).set s.n (bif Nat.beq s'.n s.n then s.h.get s.n else s'.h.get s.n), s'.n, s'.wr ++ s.wr, s'.orc, s'.ob⟩, ⟨true, w, t, s.n, s'.n, Zmi ρ o⟩) else none
     | none => none
    else none
termination_by structural fu _ _ _ _ => fu
def Zi1 (P : Program) (ext : FuncId → Option Ext) : Nat → (Operand → Value) → Oper → St → Out
 | 0, _, _, _ => none
 | fu + 1, ρ, o, s => match Zo6 o with
  | some c => match Zue P ρ c with
   | some (f, args) => match ext f with
    | some (.at k e) => match s.nextW with
     | (some (.at v c), s1) => Zjf k e args v c s1
     | (some _, _) => none
     | (none, s1) => Ziz k e args s1
    | some (.mark n) => Zo4 n args s
    | some (.hp g) => g args s
    | some (.tc S) => match s.nextW with
     | (some (.call pre v post dn), s1) => ZxI S args pre v post dn s1
     | _ => none
    | some (.fn g) => Z2f g args s
    | none => ZhG P ext fu f args s
   | none => none
  | none => match ev1 P ρ o s with
   | some (v, s1) => some (ZxH o v s1)
   | none => none
termination_by structural fu _ _ _ => fu
def ZhG (P : Program) (ext : FuncId → Option Ext) : Nat → FuncId → Array Value → St → Out
 | 0, _, _, _ => none
 | fu + 1, f, args, s => match P.funcs[f]? with
  | some fn => match fn.body with
   | some c => bif Nat.ble args.size fn.ntmps then match Zbc P ext fn.ntmps fu c (Zha 0 args.toList .nil) s with
    | some (.exit _, _, _) => none
    | some (_, T, s') => match Zdd P T s' fn.results.toList with
     | some [v] => some (v, s')
     | some vs => some (.tuple vs.toArray, s')
     | none => none
    | none => none
    else none
   | none => none
  | none => none
termination_by structural fu _ _ _ => fu
end
end
end Ev
end Go.Proofs.YthfohmhipifiaaaGreat
namespace Go.Proofs.YthfohmhipifiaaaGreat
open Go.RowKit
namespace Ev

theorem Zi2 {a b : Nat} (h : a ≠ b) : Nat.beq a b = false := by
 cases hb : Nat.beq a b
 ·rfl
 ·exact absurd (Nat.eq_of_beq_eq_true hb) h
theorem Zkv {a b : Nat} (h : a = b) : Nat.beq a b = true := by subst h; exact Nat.beq_refl a
theorem Tr.get_setF {α : Type} (v : Option α) : ∀ (f : Nat) (t : Tr α) (n m : Nat), n ≤ f → (Tr.setF f t n v).get m = if m = n then v else t.get m := by
 have hnode : ∀ (t : Tr α) (m : Nat), m ≠ 0 → t.get m = bif Nat.beq (m % 2) 1 then t.lt.get ((m - 1) / 2) else t.rt.get ((m - 1) / 2) := by
  intro t m hm;cases t with
  | nil => simp [Tr.get_nil, Tr.lt_nil, Tr.rt_nil]
  | node u l r =>
   have : Nat.beq m 0 = false := Zi2 hm;simp [Tr.get_node, Tr.lt_node, Tr.rt_node, this]
 have hval : ∀ (t : Tr α), t.get 0 = t.val := by intro t;cases t <;> simp [Tr.get_nil, Tr.get_node, Tr.val_nil, Tr.val_node, Nat.beq]
 intro f
 induction f with
 | zero =>
  intro t n m hn;obtain rfl : n = 0 := by omega
  rw [Tr.setF_zero];by_cases hm : m = 0
  ·subst hm; simp [Tr.get_node, Nat.beq]
  ·rw [if_neg hm, hnode _ m hm, hnode t m hm]
   simp [Tr.lt_node, Tr.rt_node]
 | succ f ih =>
  intro t n m hn;rw [Tr.setF_succ];by_cases h0 : n = 0
  ·subst h0
   by_cases hm : m = 0
   ·subst hm; simp [Tr.get_node, Nat.beq]
   ·rw [if_neg hm, hnode t m hm]
    simp only [Nat.beq, cond_true];rw [hnode _ m hm];simp [Tr.lt_node, Tr.rt_node]
  ·have hb : Nat.beq n 0 = false := Zi2 h0
   simp only [hb, cond_false];have hle : (n - 1) / 2 ≤ f := by omega
   by_cases ho : n % 2 = 1
   ·have hb1 : Nat.beq (n % 2) 1 = true := Zkv ho
    simp only [hb1, cond_true];by_cases hm : m = 0
    ·subst hm
     rw [if_neg (fun e => h0 e.symm), hval, hval];simp [Tr.val_node]
    ·rw [hnode _ m hm, hnode t m hm]
     by_cases hmo : m % 2 = 1
     ·have hb2 : Nat.beq (m % 2) 1 = true := Zkv hmo
      simp only [hb2, cond_true, Tr.lt_node];rw [ih _ _ _ hle];by_cases he : m = n
      ·subst he; simp
      ·rw [if_neg he, if_neg (by omega)]
     ·have hb2 : Nat.beq (m % 2) 1 = false := Zi2 hmo
      simp only [hb2, cond_false, Tr.rt_node];rw [if_neg (by intro e; subst e; exact hmo ho)]
   ·have hb1 : Nat.beq (n % 2) 1 = false := Zi2 ho
    simp only [hb1, cond_false];by_cases hm : m = 0
    ·subst hm
     rw [if_neg (fun e => h0 e.symm), hval, hval];simp [Tr.val_node]
    ·rw [hnode _ m hm, hnode t m hm]
     by_cases hmo : m % 2 = 1
     ·have hb2 : Nat.beq (m % 2) 1 = true := Zkv hmo
      simp only [hb2, cond_true, Tr.lt_node];rw [if_neg (by intro e; subst e; exact ho hmo)]
     ·have hb2 : Nat.beq (m % 2) 1 = false := Zi2 hmo
      simp only [hb2, cond_false, Tr.rt_node];rw [ih _ _ _ hle];by_cases he : m = n
      ·subst he; simp
      ·rw [if_neg he, if_neg (by omega)]

def upd {β : Type} (h : Nat → Option β) (n : Nat) (v : Option β) : Nat → Option β := fun m => if m = n then v else h m
theorem Tr.get_set {α : Type} (t : Tr α) (n : Nat) (v : Option α) : (t.set n v).get = upd t.get n v :=
 funext fun m => Tr.get_setF v n t n m (Nat.le_refl _)
theorem Zk {β : Type} {h : Nat → Option β} {n : Nat} {v : Option β} : upd h n v n = v := by simp [upd]
theorem Zf {β : Type} {h : Nat → Option β} {n m : Nat} {v : Option β} (hm : m ≠ n) : upd h n v m = h m := by simp [upd, hm]

abbrev Ren := Nat → Option (Nat × Nat)
inductive VR (ι : Ren) : Value → Value → Prop
 | atom {v} (h : atom v = true) : VR ι v v
 | glob {g v'} (h : v'.oneCell' = true) : VR ι (.chan (some g)) v'
 | ptr {k b o} (h : ι k = some b) : VR ι (.pointer (some ⟨k, o, none⟩)) (.pointer (some ⟨b.1, o, none⟩))
 | map {k b} (h : ι k = some b) : VR ι (.map (some k)) (.map (some b.1))
 | slice {k b o n c c'} (h : ι k = some b) (hn : n ≤ c) (hc : c ≤ c') (hq : o = 0 → c' ≤ c ∨ c' ≤ b.2) : VR ι (.slice (some ⟨k, o, none⟩) n c) (.slice (some ⟨b.1, o, none⟩) n c')
 | slice0 {A : Addr} {a' : Option Addr} (h : a'.isNone = true → ZlU = true) : VR ι (.slice (some A) 0 0) (.slice a' 0 0)
 | mptr {b base id o z q} (h : ι (ZO b base id) = some q) : VR ι (.pointer (some ⟨id, o, some z⟩)) (.pointer (some ⟨b, base + o, none⟩))
 | mslice {b base id o z n c c' q} (h : ι (ZO b base id) = some q) (hn : n ≤ c) (hc : c ≤ c') : VR ι (.slice (some ⟨id, o, some z⟩) n c) (.slice (some ⟨b, base + o, none⟩) n c')
 | func {fn} {a a' b b' : Array Value} (hs : a.size = a'.size) (ht : b.size = b'.size) (h : ∀ (i : Nat) x y, a[i]? = some x → a'[i]? = some y → VR ι x y) (h2 : ∀ (i : Nat) x y, b[i]? = some x → b'[i]? = some y → VR ι x y) :
   VR ι (.func fn a b) (.func fn a' b')
 | agg {a a' : Array Value} (hs : a.size = a'.size) (h : ∀ (i : Nat) x y, a[i]? = some x → a'[i]? = some y → VR ι x y) : VR ι (.agg a) (.agg a')
 | tuple {a a' : Array Value} (hs : a.size = a'.size) (h : ∀ (i : Nat) x y, a[i]? = some x → a'[i]? = some y → VR ι x y) : VR ι (.tuple a) (.tuple a')

def VRs (ι : Ren) (a a' : Array Value) : Prop := a.size = a'.size ∧ ∀ (i : Nat) x y, a[i]? = some x → a'[i]? = some y → VR ι x y

theorem VR.ext {ι ι' : Ren} (hi : ∀ k b, ι k = some b → ι' k = some b) {v v' : Value} (h : VR ι v v') : VR ι' v v' := by
 induction h with
 | atom h => exact .atom h
 | glob h => exact .glob h
 | ptr h => exact .ptr (hi _ _ h)
 | map h => exact .map (hi _ _ h)
 | slice h hn hc hq => exact .slice (hi _ _ h) hn hc hq
 | slice0 h => exact .slice0 h
 | mptr h => exact .mptr (hi _ _ h)
 | mslice h hn hc => exact .mslice (hi _ _ h) hn hc
 | func hs ht _ _ ih1 ih2 => exact .func hs ht ih1 ih2
 | agg hs _ ih => exact .agg hs ih
 | tuple hs _ ih => exact .tuple hs ih
theorem VRs.ext {ι ι' : Ren} (hi : ∀ k b, ι k = some b → ι' k = some b) {v v' : Array Value} (h : VRs ι v v') : VRs ι' v v' := ⟨h.1, fun i x y hx hy => (h.2 i x y hx hy).ext hi⟩

theorem Zaf {α : Type} {p : α → Bool} : ∀ {l : List α}, Zu p l = true → ∀ x ∈ l, p x = true
 | [], _, x, hx => by cases hx
 | y :: l, h, x, hx => by
  simp only [Zu, Bool.and_eq_true] at h;rcases List.mem_cons.1 hx with rfl | hx
  ·exact h.1
  ·exact Zaf h.2 x hx
theorem Zbi {α : Type} {p : α → Bool} {a : Array α} (h : Zu p a.toList = true) (i : Nat) (x : α) (hx : a[i]? = some x) : p x = true :=
 Zaf h x (by obtain ⟨hi, rfl⟩ := Array.getElem?_eq_some_iff.1 hx;simp)
theorem VR.eq_of_atom {ι : Ren} {v v' : Value} (ha : Ev.atom v = true) (h : VR ι v v') : v' = v := by
 cases h with
 | atom => rfl
 | glob => simp [Ev.atom] at ha
 | ptr h => simp [Ev.atom] at ha
 | map h => simp [Ev.atom] at ha
 | slice h => simp [Ev.atom] at ha
 | slice0 => simp [Ev.atom] at ha
 | mptr h => simp [Ev.atom] at ha
 | mslice h => simp [Ev.atom] at ha
 | func hs ht h h2 =>
  rename_i fn a a' b b';cases fn <;> simp [Ev.atom] at ha
  obtain ⟨rfl, rfl⟩ := ha;have e1 : a' = #[] := Array.eq_empty_of_size_eq_zero (by simpa using hs.symm);have e2 : b' = #[] := Array.eq_empty_of_size_eq_zero (by simpa using ht.symm);rw [e1, e2]
 | agg => simp [Ev.atom] at ha
 | tuple => simp [Ev.atom] at ha
theorem Zr4 {a a' : Array Value} (hs : a.size = a'.size) (h : ∀ (i : Nat) x y, a[i]? = some x → a'[i]? = some y → y = x) : a' = a := by apply Array.ext hs.symm;intro i h1 h2;exact h i _ _ (Array.getElem?_eq_getElem h2) (Array.getElem?_eq_getElem h1)
theorem VR.eq_of_free1 {ι : Ren} {v v' : Value} (ha : ZaT v = true) (h : VR ι v v') : v' = v := by
 cases v with
 | agg cs =>
  cases h with
  | atom h => rfl
  | agg hs h => rw [Zr4 hs fun i x y hx hy => (h i x y hx hy).eq_of_atom (Zbi ha i x hx)]
 | _ => exact h.eq_of_atom ha
theorem VR.eq_of_free {ι : Ren} {v v' : Value} (ha : free v = true) (h : VR ι v v') : v' = v := by
 cases v with
 | tuple cs =>
  cases h with
  | atom h => rfl
  | tuple hs h => rw [Zr4 hs fun i x y hx hy => (h i x y hx hy).eq_of_free1 (Zbi ha i x hx)]
 | _ => exact h.eq_of_free1 ha
theorem VR.of_free1 {ι : Ren} {v : Value} (ha : ZaT v = true) : VR ι v v := by
 cases v with
 | agg cs => exact .agg rfl fun i x y hx hy => by rw [hx] at hy; injection hy with hy; subst hy; exact .atom (Zbi ha i x hx)
 | _ => exact .atom ha
theorem VR.of_free {ι : Ren} {v : Value} (ha : free v = true) : VR ι v v := by
 cases v with
 | tuple cs => exact .tuple rfl fun i x y hx hy => by rw [hx] at hy; injection hy with hy; subst hy; exact VR.of_free1 (Zbi ha i x hx)
 | _ => exact VR.of_free1 ha

def CR (ι : Ren) (c : List Value) (C : Array Value) : Prop := c.length ≤ C.size ∧ ∀ (i : Nat) x y, c[i]? = some x → C[i]? = some y → VR ι x y
theorem CR.ext {ι ι' : Ren} (hi : ∀ k b, ι k = some b → ι' k = some b) {c : List Value} {C : Array Value} (h : CR ι c C) : CR ι' c C := ⟨h.1, fun i x y hx hy => (h.2 i x y hx hy).ext hi⟩

def kvs (es : List MapEntry) : List (Value × Value) := es.map fun e => (e.key, e.val)
def RoAt (m : Bool) (O : Obj) (x : Option Obj) : Prop :=
 match m with
 | false => x = some O
 | true => (∃ es c es' c', O = .map es c ∧ x = some (.map es' c') ∧ kvs es.toList = kvs es'.toList) ∨ ∃ b p, O = .stringIter b p ∧ x = some O
theorem RoAt.on {m : Bool} {O : Obj} {x y : Option Obj} (e : x = y) (h : RoAt m O y) : RoAt m O x := e ▸ h
abbrev AH := Nat → Option AObj
def Unf (n : Nat) (fr : Nat × Nat) : Prop := fr = (0, 0) ∨ n ≤ fr.1
def Cel (x : Option Obj) (C : Array Value) (t : TypeId) : Prop := ∃ fr, x = some (.cells C t fr) ∧ (fr = (0, 0) ∨ (C.size ≤ fr.1 ∧ t = u8T))
theorem Cel.unf {x : Option Obj} {C : Array Value} {t : TypeId} (h : Cel x C t) : ∃ fr, x = some (.cells C t fr) ∧ Unf C.size fr := by obtain ⟨fr, h1, h2⟩ := h;exact ⟨fr, h1, h2.imp id And.left⟩
theorem Cel.zero {x : Option Obj} {C : Array Value} {t : TypeId} (h : Cel x C t) (ht : t ≠ u8T) : x = some (.cells C t (0, 0)) := by
 obtain ⟨fr, h1, h2 | h2⟩ := h
 ·subst h2; exact h1
 ·exact absurd h2.2 ht
theorem Cel.on {x y : Option Obj} {C : Array Value} {t : TypeId} (e : x = y) (h : Cel y C t) : Cel x C t := e ▸ h
theorem Cel.of {x : Option Obj} {C : Array Value} {t : TypeId} (h : x = some (.cells C t (0, 0))) : Cel x C t := ⟨_, h, .inl rfl⟩
theorem Cel.same {x : Option Obj} {C C' : Array Value} {t t' : TypeId} (h : Cel x C t) (h' : Cel x C' t') : C = C' ∧ t = t' := by
 obtain ⟨fr, h1, _⟩ := h;obtain ⟨fr', h2, _⟩ := h';rw [h1] at h2;injection h2 with h2
 injection h2 with h2 h3;exact ⟨h2, h3⟩
def TabC (c : List Cell) (C : Array Value) : Prop :=
 match c with
 | [] => ∃ y, C[0]? = some y ∧ (y = .nilIface ∨ ∃ te pe, y = .iface te pe)
 | c => C = (Zm c).toArray
def FzC (ι : Ren) (w : World) (b base id : Nat) : Prop :=
 ∃ c C t fr, Zoz id = some c ∧ w.heap[b]? = some (.cells C t fr) ∧ (0 < c.length → base + c.length ≤ C.size) ∧ (∀ (i : Nat) x y, (Zm c)[i]? = some x → C[base + i]? = some y → VR ι x y) ∧ ∀ x ∈ tabs, x.1 = b → TabC x.2 C
theorem FzC.ext {ι ι' : Ren} (hi : ∀ k b, ι k = some b → ι' k = some b) {w w' : World} {b base id : Nat} (hw : w'.heap[b]? = w.heap[b]?) (h : FzC ι w b base id) : FzC ι' w' b base id := by obtain ⟨c, C, t, fr, h1, h2, h3, h4, h5⟩ := h;exact ⟨c, C, t, fr, h1, hw.trans h2, h3, fun i x y hx hy => (h4 i x y hx hy).ext hi, h5⟩
theorem Z4a {ι ι2 : Ren} (hmk : ∀ b base id q, ι (ZO b base id) = some q → ι2 (ZO b base id) = some q) {z : Cell} {y : Value} (h : VR ι (ZdP z) y) : VR ι2 (ZdP z) y := by
 cases z with
 | any => cases h with
  | atom h => exact (Bool.false_ne_true h).elim
  | glob h => exact .glob h
 | m id o n c => cases h with
  | atom h => exact (Bool.false_ne_true h).elim
  | slice0 h => exact .slice0 h
  | mslice h hn hc => exact .mslice (hmk _ _ _ _ h) hn hc
 | _ => rw [h.eq_of_atom rfl]; exact .atom rfl
theorem FzC.on {ι ι2 : Ren} (hmk : ∀ b base id q, ι (ZO b base id) = some q → ι2 (ZO b base id) = some q) {w : World} {b base id : Nat} (h : FzC ι w b base id) : FzC ι2 w b base id := by
 obtain ⟨c, C, t, fr, h1, h2, h3, h4, h5⟩ := h;refine ⟨c, C, t, fr, h1, h2, h3, fun i x y hx hy => ?_, h5⟩;have hv := h4 i x y hx hy;unfold Zm at hx;rw [List.getElem?_map] at hx;cases hb : c[i]? with
 | none => rw [hb] at hx; cases hx
 | some z =>
  rw [hb] at hx;injection hx with hx
  subst hx;exact Z4a hmk hv
def ZsI (ι : Ren) (h : AH) (w : World) : Prop :=
 ∀ b base id q, ι (ZO b base id) = some q → q.1 = b ∧ (FzC ι w b base id ∧ ∀ o c, ZS id o c.length = some c → ι (ZO b (base + o) (code c)) = some q) ∧ ∀ k d, ZQ (h k) d = true → ι k = some d → d.1 ≠ b
theorem Z5u {b base id n : Nat} (h : n < 1000000000) : ZO b base id ≠ n := by have := Zfq b base id;omega
section
variable {P : Program}
structure Emb (P : Program) (ι : Ren) (h : AH) (w : World) : Prop where
 obj : ∀ k c t q, h k = some (.cells c t q) → ∃ b, ι k = some b ∧ ((q = true ∧ c = [] ∧ b.2 = 0) ∨ (ZQ (some (.cells c t q)) b = true ∧ ∃ C, Cel w.heap[b.1]? C t ∧ CR ι c C ∧ ∀ i, P.info? t = some i → b.2 * i.size ≤ C.size))
 ro : ∀ {m} k O, h k = some (.ro O m) → ∃ b, ι k = some b ∧ RoAt m O w.heap[b.1]?
 inj : ∀ k k' b b', ZQ (h k) b = true → Zae (h k') b' = true → ι k = some b → ι k' = some b' → b.1 = b'.1 → k = k'
 lt : ∀ k b, ι k = some b → b.1 < w.heap.size
 mks : ZsI ι h w
 tb : ∀ x ∈ tabs, ∃ q, ι (ZO x.1 0 (code x.2)) = some q
theorem Emb.tabs {ι ι' : Ren} {h : AH} {w : World} (e : Emb P ι h w) (hx : ∀ k b, ι k = some b → ι' k = some b) : ∀ x ∈ Ev.tabs, ∃ q, ι' (ZO x.1 0 (code x.2)) = some q := fun x hx2 => (e.tb x hx2).imp fun q hq => hx _ _ hq
theorem Emb.marks {ι ι' : Ren} {h h' : AH} {w w' : World} (e : Emb P ι h w) (hx : ∀ k b, ι k = some b → ι' k = some b)
  (hf : ∀ b, b < w.heap.size → (∀ k c, ZQ (h k) c = true → ι k = some c → c.1 ≠ b) → w'.heap[b]? = w.heap[b]?)
  (hb : ∀ b base id q, ι' (ZO b base id) = some q → ι (ZO b base id) = some q)
  (hC : ∀ k d, ZQ (h' k) d = true → ι' k = some d → w.heap.size ≤ d.1 ∨ ∃ k' d', ZQ (h k') d' = true ∧ ι k' = some d' ∧ d'.1 = d.1) : ZsI ι' h' w' := fun b base id q hq => by
 have h0 := hb b base id q hq;obtain ⟨h1, h2, h3⟩ := e.mks b base id q h0;have hlt : b < w.heap.size := by have := e.lt _ _ h0; rw [h1] at this; exact this
 refine ⟨h1, ⟨h2.1.ext hx (hf b hlt h3), fun o c hc => hx _ _ (h2.2 o c hc)⟩, fun k d hk hd => ?_⟩;rcases hC k d hk hd with h4 | ⟨k', d', h4, h5, h6⟩
 ·omega
 ·rw [← h6]; exact h3 k' d' h4 h5
theorem Zna {ι : Ren} {n : Nat} {v : Option (Nat × Nat)} (hn : n < 1000000000) : ∀ b base id q, upd ι n v (ZO b base id) = some q → ι (ZO b base id) = some q := fun b base id q h => by rwa [Zf (Z5u hn)] at h
def Zc7 (k : Nat) : Prop := 1000000000 ≤ k ∧ k % 2 = 0
structure Step (P : Program) (ι : Ren) (h : AH) (w : World) (ι' : Ren) (h' : AH) (w' : World) : Prop where
 ext : ∀ k b, ι k = some b → ι' k = some b
 emb : Emb P ι' h' w'
 os : w'.os = w.os
 tape : w'.tape = w.tape
 output : w'.output = w.output
 size : w.heap.size ≤ w'.heap.size
 frame : ∀ b, b < w.heap.size → (∀ k c, ZQ (h k) c = true → ι k = some c → c.1 ≠ b) → w'.heap[b]? = w.heap[b]?
 new : ∀ k b, ι k = none → ι' k = some b → Zae (h' k) b = true ∨ Zc7 k → w.heap.size ≤ b.1 ∨ ∃ j c, ZQ (h j) c = true ∧ ι j = some c ∧ c.1 = b.1
 alive : ∀ k b, Zae (h' k) b = true → ι k = some b → Zae (h k) b = true
 kind : ∀ k b, ZQ (h' k) b = true → ι k = some b → ZQ (h k) b = true
theorem Emb.ro0 {ι : Ren} {h : AH} {w : World} (e : Emb P ι h w) {k : Nat} {O : Obj} (hk : h k = some (.ro O)) : ∃ b, ι k = some b ∧ w.heap[b.1]? = some O := e.ro k O hk
theorem ZfD {o : Option AObj} {b : Nat × Nat} (h : isC o = true) : ZQ o b = true := by unfold ZQ; rw [h]; rfl
theorem Zml {o : Option AObj} {b : Nat × Nat} (h : sol o = true) : Zae o b = true := by unfold Zae; rw [h]; rfl
theorem Zuf {o : Option AObj} (h : isC o = true) : sol o := by
 cases o with
 | none => cases h
 | some o =>
  cases o with
  | cells c t q => exact h
  | ro O m => rfl
theorem Zd1 {o : Option AObj} {b : Nat × Nat} (h : ZQ o b = true) : Zae o b = true := by
 unfold ZQ at h;unfold Zae;rcases Bool.or_eq_true _ _ ▸ h with h | h
 ·rw [Zuf h]; rfl
 ·rw [h, Bool.or_true]
theorem Zbh {o : Option AObj} {b : Nat × Nat} (h : ZQ o b = true) : o.isSome := by
 cases o with
 | none => cases h
 | some o => rfl
theorem Zcz {o : Option AObj} {b : Nat × Nat} (h : Zae o b = true) : o.isSome := by
 cases o with
 | none => cases h
 | some o => rfl
theorem Emb.objF {P : Program} {ι : Ren} {h : AH} {w : World} (e : Emb P ι h w) (k : Nat) (c : List Value) (t : TypeId) (hk : h k = some (.cells c t)) : ∃ b C, ι k = some b ∧ Cel w.heap[b.1]? C t ∧ CR ι c C ∧ ∀ i, P.info? t = some i → b.2 * i.size ≤ C.size := by
 obtain ⟨b, hb, ⟨hq, _⟩ | ⟨_, C, h1, h2, h3⟩⟩ := e.obj k c t false hk
 ·cases hq
 ·exact ⟨b, C, hb, h1, h2, h3⟩
theorem Z4b {o : Option AObj} (h : isC o = true) : o.isSome := by
 cases o with
 | none => cases h
 | some o => rfl
def far : Nat := 1000000000
def Fresh (ι : Ren) (n n' : Nat) : Prop := n' ≤ far ∧ ∀ k, n ≤ k → k < n' → ι k = none
def Dom (ι ι' : Ren) (n n' : Nat) : Prop := ∀ k, ι' k ≠ none → ι k ≠ none ∨ (n ≤ k ∧ k < n') ∨ far ≤ k

theorem Emb.live {ι : Ren} {h : AH} {w : World} (e : Emb P ι h w) {k : Nat} (hk : (h k).isSome) : ∃ b, ι k = some b := by
 cases ho : h k with
 | none => rw [ho] at hk; cases hk
 | some o =>
  cases o with
  | cells c t q => obtain ⟨b, hb, _⟩ := e.obj k c t q ho; exact ⟨b, hb⟩
  | ro O => obtain ⟨b, hb, _⟩ := e.ro k O ho; exact ⟨b, hb⟩
theorem Step.refl {ι : Ren} {h : AH} {w : World} (e : Emb P ι h w) : Step P ι h w ι h w :=
 ⟨fun _ _ h => h, e, rfl, rfl, rfl, Nat.le_refl _, fun _ _ _ => rfl, fun k b h1 h2 _ => (by rw [h1] at h2; cases h2), fun _ _ h1 _ => h1, fun _ _ h1 _ => h1⟩
theorem Step.trans {ι ι1 ι2 : Ren} {h h1 h2 : AH} {w w1 w2 : World} (a : Step P ι h w ι1 h1 w1) (b : Step P ι1 h1 w1 ι2 h2 w2) : Step P ι h w ι2 h2 w2 where
 ext k c hk := b.ext k c (a.ext k c hk)
 emb := b.emb
 os := b.os.trans a.os
 tape := b.tape.trans a.tape
 output := b.output.trans a.output
 size := Nat.le_trans a.size b.size
 frame c hc hno := by
  rw [b.frame c (Nat.lt_of_lt_of_le hc a.size) ?_, a.frame c hc hno];intro k d hk he;cases hi : ι k with
  | some c' =>
   have e1 := a.ext k c' hi;rw [e1] at he;injection he with he
   subst he;exact hno k _ (a.kind k _ hk hi) hi
  | none =>
   rcases a.new k d hi he (.inl (Zd1 hk)) with h' | ⟨j, c', hj, hj2, hj3⟩
   ·omega
   ·rw [← hj3]; exact hno j c' hj hj2
 new k c hk hc hs := by
  cases hi : ι1 k with
  | some c' =>
   have e1 := b.ext k c' hi;rw [e1] at hc;injection hc with hc
   subst hc;exact a.new k _ hk hi (hs.imp (fun h => b.alive k _ h hi) id)
  | none =>
   rcases b.new k c hi hc hs with h' | ⟨j, d, hj, hj2, hj3⟩
   ·exact .inl (Nat.le_trans a.size h')
   ·rw [← hj3]
    cases hij : ι j with
    | some c' =>
     have e1 := a.ext j c' hij;rw [e1] at hj2;injection hj2 with hj2
     subst hj2;exact .inr ⟨j, _, a.kind j _ hj hij, hij, rfl⟩
    | none => exact a.new j d hij hj2 (.inl (Zd1 hj))
 alive k c hk hi := a.alive k c (b.alive k c hk (a.ext k c hi)) hi
 kind k c hk hi := a.kind k c (b.kind k c hk (a.ext k c hi)) hi
theorem Fresh.mono {ι : Ren} {n n' m m' : Nat} (h : Fresh ι n n') (h1 : n ≤ m) (h2 : m' ≤ n') : Fresh ι m m' := ⟨Nat.le_trans h2 h.1, fun k a b => h.2 k (Nat.le_trans h1 a) (Nat.lt_of_lt_of_le b h2)⟩
theorem Dom.refl {ι : Ren} {n n' : Nat} : Dom ι ι n n' := fun _ h => .inl h
theorem Dom.trans {ι ι1 ι2 : Ren} {n n1 n2 : Nat} (a : Dom ι ι1 n n1) (b : Dom ι1 ι2 n1 n2) (h1 : n ≤ n1) (h2 : n1 ≤ n2) : Dom ι ι2 n n2 := fun k hk => by
 rcases b k hk with h | ⟨h3, h4⟩ | h5
 ·rcases a k h with h | ⟨h3, h4⟩ | h5
  ·exact .inl h
  ·exact .inr (.inl ⟨h3, by omega⟩)
  ·exact .inr (.inr h5)
 ·exact .inr (.inl ⟨by omega, h4⟩)
 ·exact .inr (.inr h5)
theorem Fresh.after {ι ι1 : Ren} {n n1 n2 : Nat} (h : Fresh ι n n2) (a : Dom ι ι1 n n1) (h1 : n ≤ n1) : Fresh ι1 n1 n2 := ⟨h.1, fun k hk hk2 => by
 cases hi : ι1 k with
 | none => rfl
 | some c =>
  rcases a k (by rw [hi]; simp) with h' | ⟨_, h4⟩ | h5
  ·exact absurd (h.2 k (by omega) hk2) h'
  ·omega
  ·have := h.1; omega⟩

theorem Step.still {ι : Ren} {h : AH} {w w' : World} (e : Emb P ι h w) (hh : w'.heap = w.heap) (ho : w'.os = w.os) (ht : w'.tape = w.tape) (hp : w'.output = w.output) : Step P ι h w ι h w' :=
 ⟨fun _ _ h => h, ⟨fun k c t q hk => by rw [hh]; exact e.obj k c t q hk, fun k O hk => by rw [hh]; exact e.ro k O hk, e.inj, fun k b hk => by rw [hh]; exact e.lt k b hk, e.marks (fun _ _ h => h) (fun _ _ _ => by rw [hh]) (fun _ _ _ _ h => h) (fun k d hk hd => .inr ⟨k, d, hk, hd, rfl⟩), e.tb⟩, ho, ht, hp, by rw [hh]; exact Nat.le_refl _, fun _ _ _ => by rw [hh], fun k b h1 h2 _ => (by rw [h1] at h2; cases h2), fun _ _ h1 _ => h1, fun _ _ h1 _ => h1⟩
theorem Zmm {h : AH} {k0 k : Nat} (h1 : (upd h k0 none k).isSome) : k ≠ k0 ∧ (h k).isSome := by
 by_cases hk0 : k = k0
 ·subst hk0; rw [Zk] at h1; cases h1
 ·exact ⟨hk0, by rwa [Zf hk0] at h1⟩
theorem Zi3 {h : AH} {k0 k : Nat} {b : Nat × Nat} (h1 : Zae (upd h k0 none k) b = true) : k ≠ k0 ∧ Zae (h k) b = true := by
 by_cases hk0 : k = k0
 ·subst hk0; rw [Zk] at h1; cases h1
 ·exact ⟨hk0, by rwa [Zf hk0] at h1⟩
theorem Ze1 {h : AH} {k0 k : Nat} {b : Nat × Nat} (h1 : ZQ (upd h k0 none k) b = true) : k ≠ k0 ∧ ZQ (h k) b = true := by
 by_cases hk0 : k = k0
 ·subst hk0; rw [Zk] at h1; cases h1
 ·exact ⟨hk0, by rwa [Zf hk0] at h1⟩
theorem Step.kill {ι : Ren} {h : AH} {w : World} (e : Emb P ι h w) (k0 : Nat) : Step P ι h w ι (upd h k0 none) w :=
 ⟨fun _ _ h => h, ⟨fun k c t q hk => by have hk0 := (Zmm (h := h) (k0 := k0) (k := k) (by rw [hk]; rfl)).1;rw [Zf hk0] at hk;exact e.obj k c t q hk,
  fun k O hk => by have hk0 := (Zmm (h := h) (k0 := k0) (k := k) (by rw [hk]; rfl)).1;rw [Zf hk0] at hk;exact e.ro k O hk,
  fun k k' b b' h1 h2 => e.inj k k' b b' (Ze1 h1).2 (Zi3 h2).2, e.lt, e.marks (fun _ _ h => h) (fun _ _ _ => rfl) (fun _ _ _ _ h => h) (fun k d hk hd => .inr ⟨k, d, (Ze1 hk).2, hd, rfl⟩), e.tb⟩,
  rfl, rfl, rfl, Nat.le_refl _, fun _ _ _ => rfl, fun k b h1 h2 _ => (by rw [h1] at h2; cases h2), fun k _ h1 _ => (Zi3 h1).2, fun k _ h1 _ => (Ze1 h1).2⟩
theorem ZqW {ι : Ren} {h : AH} {w : World} (e : Emb P ι h w) {n q : Nat} (hnf : n < 1000000000) {o : AObj} {O : Obj} (hx : ∀ k b, ι k = some b → upd ι n (some (w.heap.size, q)) k = some b) : ZsI (upd ι n (some (w.heap.size, q))) (upd h n (some o)) (w.alloc O) :=
 e.marks hx (fun b hb _ => Below.heap_alloc w _ b hb) (Zna hnf) fun k d hk hd => by
  by_cases hk0 : k = n
  ·subst hk0; rw [Zk] at hd; injection hd with hd; subst hd; exact .inl (Nat.le_refl _)
  ·rw [Zf hk0] at hk hd; exact .inr ⟨k, d, hk, hd, rfl⟩
theorem Step.alloc {ι : Ren} {h : AH} {w : World} (e : Emb P ι h w) {n : Nat} (hnf : n < 1000000000) (hn : ι n = none) {c : List Value} {C : Array Value} (t : TypeId) (hc : CR ι c C) (q : Nat) (hq : ∀ i, P.info? t = some i → q * i.size ≤ C.size) :
  Step P ι h w (upd ι n (some (w.heap.size, q))) (upd h n (some (.cells c t))) (w.alloc (.cells C t)) := by
 have hx : ∀ k b, ι k = some b → upd ι n (some (w.heap.size, q)) k = some b := fun k b hk => by
  rw [Zf]; · exact hk
  ·intro e; subst e; rw [hn] at hk; cases hk
 have hnew : (w.alloc (.cells C t)).heap[w.heap.size]? = some (.cells C t (0, 0)) := heap_alloc_new w _;refine ⟨hx, ⟨fun k c' t' q' hk => ?_, fun k O hk => ?_, fun k k' b b' h1 h2 h3 h4 h5 => ?_, fun k b hk => ?_, ZqW e hnf hx, e.tabs hx⟩, rfl, rfl, rfl, by simp, fun b hb _ => Below.heap_alloc w _ b hb, fun k b h1 h2 _ => ?_, fun k b0 h1 h2 => ?_, fun k b0 h1 h2 => ?_⟩
 ·by_cases hk0 : k = n
  ·subst hk0
   rw [Zk] at hk;injection hk with hk
   injection hk with h1 h2 h3;subst h1 h2 h3
   exact ⟨_, Zk, .inr ⟨rfl, C, .of hnew, hc.ext hx, hq⟩⟩
  ·rw [Zf hk0] at hk
   obtain ⟨b, hb, hz | ⟨hz, C', hB, hC, hQ⟩⟩ := e.obj k c' t' q' hk
   ·exact ⟨b, hx k b hb, .inl hz⟩
   ·exact ⟨b, hx k b hb, .inr ⟨hz, C', hB.on (Below.heap_alloc w _ b.1 (e.lt k b hb)), hC.ext hx, hQ⟩⟩
 ·by_cases hk0 : k = n
  ·subst hk0; rw [Zk] at hk; injection hk with hk; cases hk
  ·rw [Zf hk0] at hk
   obtain ⟨b, hb, hB⟩ := e.ro k O hk;exact ⟨b, hx k b hb, hB.on (Below.heap_alloc w _ b.1 (e.lt k b hb))⟩
 ·by_cases hk0 : k = n <;> by_cases hk1 : k' = n
  ·rw [hk0, hk1]
  ·subst hk0
   rw [Zk] at h3; injection h3 with h3; subst h3
   rw [Zf hk1] at h4;have := e.lt k' _ h4;simp only at h5;omega
  ·subst hk1
   rw [Zk] at h4; injection h4 with h4; subst h4
   rw [Zf hk0] at h3;have := e.lt k _ h3;simp only at h5;omega
  ·rw [Zf hk0] at h1 h3
   rw [Zf hk1] at h2 h4;exact e.inj k k' b b' h1 h2 h3 h4 h5
 ·by_cases hk0 : k = n
  ·subst hk0; rw [Zk] at hk; injection hk with hk; subst hk; simp
  ·rw [Zf hk0] at hk
   have := e.lt k b hk;simp; omega
 ·by_cases hk0 : k = n
  ·subst hk0; rw [Zk] at h2; injection h2 with h2; subst h2; exact .inl (Nat.le_refl _)
  ·rw [Zf hk0, h1] at h2; cases h2
 ·by_cases hk0 : k = n
  ·subst hk0; rw [hn] at h2; cases h2
  ·rwa [Zf hk0] at h1
 ·by_cases hk0 : k = n
  ·subst hk0; rw [hn] at h2; cases h2
  ·rwa [Zf hk0] at h1
theorem Step.store {ι : Ren} {h : AH} {w w' : World} (e : Emb P ι h w) {k0 : Nat} {b : Nat × Nat} {c c' : List Value} {C C' : Array Value} {t : TypeId} {q : Bool} (hk : h k0 = some (.cells c t q)) (hb : ι k0 = some b) (hc : CR ι c' C')
  (hCs : C'.size = C.size) (hB0 : Cel w.heap[b.1]? C t)
  (hB : Cel w'.heap[b.1]? C' t) (hO : ∀ i, i ≠ b.1 → w'.heap[i]? = w.heap[i]?) (hs : w'.heap.size = w.heap.size) (ho : w'.os = w.os) (ht : w'.tape = w.tape) (hp : w'.output = w.output) (hq : isC (some (.cells c t q)) = true := by rfl) (hq' : isC (some (.cells c' t q)) = true := by rfl) :
  Step P ι h w ι (upd h k0 (some (.cells c' t q))) w' := by
 have hlC : isC (h k0) = true := by rw [hk]; exact hq
 have hlive : sol (h k0) := Zuf hlC;have iso : ∀ k b, Zae (upd h k0 (some (.cells c' t q)) k) b = true → Zae (h k) b = true := fun k b hk1 => by
  by_cases hk0 : k = k0
  ·subst hk0; exact Zml hlive
  ·rwa [Zf hk0] at hk1
 have isoC : ∀ k b, ZQ (upd h k0 (some (.cells c' t q)) k) b = true → ZQ (h k) b = true := fun k b hk1 => by
  by_cases hk0 : k = k0
  ·subst hk0; exact ZfD hlC
  ·rwa [Zf hk0] at hk1
 refine ⟨fun _ _ h => h, ⟨fun k c1 t1 q1 hk1 => ?_, fun k O hk1 => ?_, fun k k' b b' h1 h2 => e.inj k k' b b' (isoC k _ h1) (iso k' _ h2), fun k b hk => by rw [hs]; exact e.lt k b hk, e.marks (fun _ _ h => h) (fun i _ hno => hO i fun e1 => hno k0 b (ZfD hlC) hb e1.symm) (fun _ _ _ _ h => h) (fun k d hk hd => .inr ⟨k, d, isoC k d hk, hd, rfl⟩), e.tb⟩, ho, ht, hp, by rw [hs]; exact Nat.le_refl _, fun i _ hno => hO i fun e1 => hno k0 b (ZfD hlC) hb e1.symm, fun k b h1 h2 _ => (by rw [h1] at h2; cases h2), fun k b0 h1 _ => iso k b0 h1, fun k b0 h1 _ => isoC k b0 h1⟩
 ·by_cases hk0 : k = k0
  ·subst hk0
   rw [Zk] at hk1;injection hk1 with hk1
   injection hk1 with h1 h2 h3;subst h1 h2 h3
   obtain ⟨b1, hb1, ⟨hz, hz2, _⟩ | ⟨_, C1, hB1, _, hQ⟩⟩ := e.obj k c t q hk
   ·subst hz hz2; cases hq
   rw [hb] at hb1; injection hb1 with hb1; subst hb1
   obtain ⟨hB1, _⟩ := hB0.same hB1; subst hB1;exact ⟨b, hb, .inr ⟨ZfD hq', C', hB, hc, fun i hi => by rw [hCs]; exact hQ i hi⟩⟩
  ·rw [Zf hk0] at hk1
   obtain ⟨b1, hb1, hz | ⟨hz, C1, hB1, hC1, hQ⟩⟩ := e.obj k c1 t1 q1 hk1
   ·exact ⟨b1, hb1, .inl hz⟩
   refine ⟨b1, hb1, .inr ⟨hz, C1, hB1.on (hO b1.1 fun e1 => hk0 (e.inj k k0 b1 b (by rw [hk1]; exact hz) (Zml hlive) hb1 hb e1)), hC1, hQ⟩⟩
 ·by_cases hk0 : k = k0
  ·subst hk0; rw [Zk] at hk1; injection hk1 with hk1; cases hk1
  ·rw [Zf hk0] at hk1
   obtain ⟨b1, hb1, hB1⟩ := e.ro k O hk1;exact ⟨b1, hb1, hB1.on (hO b1.1 fun e1 => hk0 (e.inj k0 k b b1 (ZfD hlC) (by rw [hk1]; rfl) hb hb1 e1.symm).symm)⟩
theorem Step.opened {ι : Ren} {h : AH} {w : World} (e : Emb P ι h w) {k0 : Nat} {b0 : Nat × Nat} {c : List Value} {t : TypeId} {q : Bool} (hk : h k0 = some (.cells c t q)) (hb0 : ι k0 = some b0) (hq : ZQ (some (.cells c t q)) b0 = true) : Step P ι h w ι (upd h k0 (some (.cells c t))) w := by
 have hlC : ZQ (h k0) b0 = true := by rw [hk]; exact hq
 have iso : ∀ k b, Zae (upd h k0 (some (.cells c t)) k) b = true → ι k = some b → Zae (h k) b = true := fun k b hk1 hb => by
  by_cases hk0 : k = k0
  ·subst hk0; rw [hb0] at hb; injection hb with hb; subst hb; exact Zd1 hlC
  ·rwa [Zf hk0] at hk1
 have isoC : ∀ k b, ZQ (upd h k0 (some (.cells c t)) k) b = true → ι k = some b → ZQ (h k) b = true := fun k b hk1 hb => by
  by_cases hk0 : k = k0
  ·subst hk0; rw [hb0] at hb; injection hb with hb; subst hb; exact hlC
  ·rwa [Zf hk0] at hk1
 refine ⟨fun _ _ h => h, ⟨fun k c1 t1 q1 hk1 => ?_, fun k O hk1 => ?_, fun k k' b b' h1 h2 h3 h4 => e.inj k k' b b' (isoC k _ h1 h3) (iso k' _ h2 h4) h3 h4, e.lt, e.marks (fun _ _ h => h) (fun _ _ _ => rfl) (fun _ _ _ _ h => h) (fun k d hk hd => .inr ⟨k, d, isoC k _ hk hd, hd, rfl⟩), e.tb⟩, rfl, rfl, rfl, Nat.le_refl _, fun _ _ _ => rfl, fun k b h1 h2 _ => (by rw [h1] at h2; cases h2), fun k b h1 h2 => iso k b h1 h2, fun k b h1 h2 => isoC k b h1 h2⟩
 ·by_cases hk0 : k = k0
  ·subst hk0
   rw [Zk] at hk1;injection hk1 with hk1
   injection hk1 with h1 h2 h3;subst h1 h2 h3
   obtain ⟨b, hb, ⟨z1, z2, z3⟩ | ⟨_, hC⟩⟩ := e.obj k c t q hk
   ·rw [hb0] at hb; injection hb with hb; subst hb
    subst z1 z2;unfold ZQ at hq;rw [z3] at hq;cases hq
   ·exact ⟨b, hb, .inr ⟨rfl, hC⟩⟩
  ·rw [Zf hk0] at hk1
   exact e.obj k c1 t1 q1 hk1
 ·by_cases hk0 : k = k0
  ·subst hk0; rw [Zk] at hk1; injection hk1 with hk1; cases hk1
  ·rw [Zf hk0] at hk1
   exact e.ro k O hk1
theorem Step.allocM {ι : Ren} {h : AH} {w : World} (e : Emb P ι h w) {n : Nat} (hnf : n < 1000000000) (hn : ι n = none) {O O' : Obj} (hO : RoAt true O (some O')) (q : Nat) :
  Step P ι h w (upd ι n (some (w.heap.size, q))) (upd h n (some (.ro O true))) (w.alloc O') := by
 have hx : ∀ k b, ι k = some b → upd ι n (some (w.heap.size, q)) k = some b := fun k b hk => by
  rw [Zf]; · exact hk
  ·intro e; subst e; rw [hn] at hk; cases hk
 have hnew : (w.alloc O').heap[w.heap.size]? = some O' := heap_alloc_new w _;refine ⟨hx, ⟨fun k c' t' q' hk => ?_, fun {m} k O hk => ?_, fun k k' b b' h1 h2 h3 h4 h5 => ?_, fun k b hk => ?_, ZqW e hnf hx, e.tabs hx⟩, rfl, rfl, rfl, by simp, fun b hb _ => Below.heap_alloc w _ b hb, fun k b h1 h2 _ => ?_, fun k b0 h1 h2 => ?_, fun k b0 h1 h2 => ?_⟩
 ·by_cases hk0 : k = n
  ·subst hk0; rw [Zk] at hk; injection hk with hk; cases hk
  ·rw [Zf hk0] at hk
   obtain ⟨b, hb, hz | ⟨hz, C', hB, hC, hQ⟩⟩ := e.obj k c' t' q' hk
   ·exact ⟨b, hx k b hb, .inl hz⟩
   ·exact ⟨b, hx k b hb, .inr ⟨hz, C', hB.on (Below.heap_alloc w _ b.1 (e.lt k b hb)), hC.ext hx, hQ⟩⟩
 ·by_cases hk0 : k = n
  ·subst hk0
   rw [Zk] at hk;injection hk with hk
   injection hk with h1 h2;subst h1 h2
   exact ⟨_, Zk, hO.on hnew⟩
  ·rw [Zf hk0] at hk
   obtain ⟨b, hb, hB⟩ := e.ro k O hk;exact ⟨b, hx k b hb, hB.on (Below.heap_alloc w _ b.1 (e.lt k b hb))⟩
 ·by_cases hk0 : k = n <;> by_cases hk1 : k' = n
  ·rw [hk0, hk1]
  ·subst hk0
   rw [Zk] at h3; injection h3 with h3; subst h3
   rw [Zf hk1] at h4;have := e.lt k' _ h4;simp only at h5;omega
  ·subst hk1
   rw [Zk] at h4; injection h4 with h4; subst h4
   rw [Zf hk0] at h3;have := e.lt k _ h3;simp only at h5;omega
  ·rw [Zf hk0] at h1 h3
   rw [Zf hk1] at h2 h4;exact e.inj k k' b b' h1 h2 h3 h4 h5
 ·by_cases hk0 : k = n
  ·subst hk0; rw [Zk] at hk; injection hk with hk; subst hk; simp
  ·rw [Zf hk0] at hk
   have := e.lt k b hk;simp; omega
 ·by_cases hk0 : k = n
  ·subst hk0; rw [Zk] at h2; injection h2 with h2; subst h2; exact .inl (Nat.le_refl _)
  ·rw [Zf hk0, h1] at h2; cases h2
 ·by_cases hk0 : k = n
  ·subst hk0; rw [hn] at h2; cases h2
  ·rwa [Zf hk0] at h1
 ·by_cases hk0 : k = n
  ·subst hk0; rw [hn] at h2; cases h2
  ·rwa [Zf hk0] at h1
theorem Step.storeM {ι : Ren} {h : AH} {w w' : World} (e : Emb P ι h w) {k0 : Nat} {b : Nat × Nat} {O0 O1 : Obj} (hk : h k0 = some (.ro O0 true)) (hb : ι k0 = some b)
  (hB : RoAt true O1 w'.heap[b.1]?) (hO : ∀ i, i ≠ b.1 → w'.heap[i]? = w.heap[i]?) (hs : w'.heap.size = w.heap.size) (ho : w'.os = w.os) (ht : w'.tape = w.tape) (hp : w'.output = w.output) :
  Step P ι h w ι (upd h k0 (some (.ro O1 true))) w' := by
 have hlive : sol (h k0) := by rw [hk]; rfl
 have hlC : isC (h k0) = true := by rw [hk]; rfl
 have iso : ∀ k b, Zae (upd h k0 (some (.ro O1 true)) k) b = true → Zae (h k) b = true := fun k b hk1 => by
  by_cases hk0 : k = k0
  ·subst hk0; exact Zml hlive
  ·rwa [Zf hk0] at hk1
 have isoC : ∀ k b, ZQ (upd h k0 (some (.ro O1 true)) k) b = true → ZQ (h k) b = true := fun k b hk1 => by
  by_cases hk0 : k = k0
  ·subst hk0; exact ZfD hlC
  ·rwa [Zf hk0] at hk1
 refine ⟨fun _ _ h => h, ⟨fun k c1 t1 q1 hk1 => ?_, fun {m} k O hk1 => ?_, fun k k' b b' h1 h2 => e.inj k k' b b' (isoC k _ h1) (iso k' _ h2), fun k b hk => by rw [hs]; exact e.lt k b hk, e.marks (fun _ _ h => h) (fun i _ hno => hO i fun e1 => hno k0 b (ZfD hlC) hb e1.symm) (fun _ _ _ _ h => h) (fun k d hk hd => .inr ⟨k, d, isoC k d hk, hd, rfl⟩), e.tb⟩, ho, ht, hp, by rw [hs]; exact Nat.le_refl _, fun i _ hno => hO i fun e1 => hno k0 b (ZfD hlC) hb e1.symm, fun k b h1 h2 _ => (by rw [h1] at h2; cases h2), fun k b0 h1 _ => iso k b0 h1, fun k b0 h1 _ => isoC k b0 h1⟩
 ·by_cases hk0 : k = k0
  ·subst hk0; rw [Zk] at hk1; injection hk1 with hk1; cases hk1
  ·rw [Zf hk0] at hk1
   obtain ⟨b1, hb1, hz | ⟨hz, C1, hB1, hC1, hQ⟩⟩ := e.obj k c1 t1 q1 hk1
   ·exact ⟨b1, hb1, .inl hz⟩
   refine ⟨b1, hb1, .inr ⟨hz, C1, hB1.on (hO b1.1 fun e1 => hk0 (e.inj k k0 b1 b (by rw [hk1]; exact hz) (Zml hlive) hb1 hb e1)), hC1, hQ⟩⟩
 ·by_cases hk0 : k = k0
  ·subst hk0
   rw [Zk] at hk1;injection hk1 with hk1
   injection hk1 with h1 h2;subst h1 h2
   exact ⟨b, hb, hB⟩
  ·rw [Zf hk0] at hk1
   obtain ⟨b1, hb1, hB1⟩ := e.ro k O hk1;exact ⟨b1, hb1, hB1.on (hO b1.1 fun e1 => hk0 (e.inj k0 k b b1 (ZfD hlC) (by rw [hk1]; rfl) hb hb1 e1.symm).symm)⟩
theorem Step.rename {ι : Ren} {h : AH} {w : World} (e : Emb P ι h w) {n k0 : Nat} {b : Nat × Nat} (hnf : n < 1000000000) (hn : ι n = none) (hb : ι k0 = some b) (hlC : ZQ (h k0) b = true) :
  Step P ι h w (upd ι n (some b)) (upd (upd h k0 none) n (h k0)) w := by
 have hl : Zae (h k0) b = true := Zd1 hlC;have hne : n ≠ k0 := fun e => by subst e; rw [hn] at hb; cases hb
 have hx : ∀ k b', ι k = some b' → upd ι n (some b) k = some b' := fun k b' hk => by
  rw [Zf]; · exact hk
  ·intro e; subst e; rw [hn] at hk; cases hk
 have casesI : ∀ k, (upd (upd h k0 none) n (h k0) k).isSome → k = n ∨ (k ≠ n ∧ k ≠ k0 ∧ (h k).isSome) := fun k hk => by
  by_cases h1 : k = n
  ·exact .inl h1
  ·rw [Zf h1] at hk
   exact .inr ⟨h1, Zmm hk⟩
 have cases_ : ∀ k b, Zae (upd (upd h k0 none) n (h k0) k) b = true → k = n ∨ (k ≠ n ∧ k ≠ k0 ∧ Zae (h k) b = true) := fun k b hk => by
  by_cases h1 : k = n
  ·exact .inl h1
  ·rw [Zf h1] at hk
   exact .inr ⟨h1, Zi3 hk⟩
 have casesC : ∀ k b, ZQ (upd (upd h k0 none) n (h k0) k) b = true → k = n ∨ (k ≠ n ∧ k ≠ k0 ∧ ZQ (h k) b = true) := fun k b hk => by
  by_cases h1 : k = n
  ·exact .inl h1
  ·rw [Zf h1] at hk
   exact .inr ⟨h1, Ze1 hk⟩
 refine ⟨hx, ⟨fun k c t q hk => ?_, fun k O hk => ?_, fun k k' b1 b2 h1 h2 h3 h4 h5 => ?_, fun k b' hk => ?_, e.marks hx (fun _ _ _ => rfl) (Zna hnf) (fun k d hk hd => by
  rcases casesC k _ hk with rfl | ⟨q1, _, q3⟩
  ·rw [Zk] at hd; injection hd with hd; subst hd; exact .inr ⟨k0, _, hlC, hb, rfl⟩
  ·rw [Zf q1] at hd; exact .inr ⟨k, d, q3, hd, rfl⟩), e.tabs hx⟩, rfl, rfl, rfl, Nat.le_refl _, fun _ _ _ => rfl, fun k b' h1 h2 _ => ?_, fun k b0 h1 h2 => ?_, fun k b0 h1 h2 => ?_⟩
 ·rcases casesI k (by rw [hk]; rfl) with rfl | ⟨h1, h2, _⟩
  ·rw [Zk] at hk
   obtain ⟨b1, hb1, hz⟩ := e.obj k0 c t q hk;rw [hb] at hb1; injection hb1 with hb1; subst hb1
   exact ⟨b, Zk, hz.imp id fun ⟨q0, C1, hB1, hC1, hQ⟩ => ⟨q0, C1, hB1, hC1.ext hx, hQ⟩⟩
  ·rw [Zf h1, Zf h2] at hk
   obtain ⟨b1, hb1, hz⟩ := e.obj k c t q hk;exact ⟨b1, hx _ _ hb1, hz.imp id fun ⟨q0, C1, hB1, hC1, hQ⟩ => ⟨q0, C1, hB1, hC1.ext hx, hQ⟩⟩
 ·rcases casesI k (by rw [hk]; rfl) with rfl | ⟨h1, h2, _⟩
  ·rw [Zk] at hk
   obtain ⟨b1, hb1, hB1⟩ := e.ro k0 O hk;rw [hb] at hb1; injection hb1 with hb1; subst hb1
   exact ⟨b, Zk, hB1⟩
  ·rw [Zf h1, Zf h2] at hk
   obtain ⟨b1, hb1, hB1⟩ := e.ro k O hk;exact ⟨b1, hx _ _ hb1, hB1⟩
 ·rcases casesC k _ h1 with rfl | ⟨q1, q2, q3⟩ <;> rcases cases_ k' _ h2 with rfl | ⟨r1, r2, r3⟩
  ·rfl
  ·rw [Zk] at h3; injection h3 with h3; subst h3
   rw [Zf r1] at h4;exact absurd (e.inj k0 k' _ _ hlC r3 hb h4 h5).symm r2
  ·rw [Zk] at h4; injection h4 with h4; subst h4
   rw [Zf q1] at h3;exact absurd (e.inj k k0 _ _ q3 hl h3 hb h5) q2
  ·rw [Zf q1] at h3
   rw [Zf r1] at h4;exact e.inj k k' _ _ q3 r3 h3 h4 h5
 ·by_cases h1 : k = n
  ·subst h1; rw [Zk] at hk; injection hk with hk; subst hk; exact e.lt k0 _ hb
  ·rw [Zf h1] at hk; exact e.lt k b' hk
 ·by_cases hk0 : k = n
  ·subst hk0; rw [Zk] at h2; injection h2 with h2; subst h2; exact .inr ⟨k0, b, hlC, hb, rfl⟩
  ·rw [Zf hk0, h1] at h2; cases h2
 ·rcases cases_ k _ h1 with rfl | ⟨_, _, q3⟩
  ·rw [hn] at h2; cases h2
  ·exact q3
 ·rcases casesC k _ h1 with rfl | ⟨_, _, q3⟩
  ·rw [hn] at h2; cases h2
  ·exact q3
theorem Step.asQ {ι ι' : Ren} {h0 h1 : AH} {w w' : World} {k : Nat} {c : List Value} {t : TypeId} (s : Step P ι h0 w ι' (upd h1 k (some (.cells c t))) w') (q : Bool) : Step P ι h0 w ι' (upd h1 k (some (.cells c t q))) w' := by
 cases q with
 | false => exact s
 | true =>
  have kC : ∀ j d, ZQ (upd h1 k (some (.cells c t true)) j) d = true → ZQ (upd h1 k (some (.cells c t)) j) d = true := fun j d hj => by
   by_cases e : j = k
   ·subst e; rw [Zk]; rfl
   ·rwa [Zf e] at hj ⊢
  have kS : ∀ j d, Zae (upd h1 k (some (.cells c t true)) j) d = true → Zae (upd h1 k (some (.cells c t)) j) d = true := fun j d hj => by
   by_cases e : j = k
   ·subst e; rw [Zk]; rfl
   ·rwa [Zf e] at hj ⊢
  refine ⟨s.ext, ⟨fun j c1 t1 q1 hj => ?_, fun {m} j O hj => ?_, fun j j' b b' h1 h2 h3 h4 h5 => s.emb.inj j j' b b' (kC j _ h1) (kS j' _ h2) h3 h4 h5, s.emb.lt, fun b base id q hq => ?_, s.emb.tb⟩, s.os, s.tape, s.output, s.size, s.frame, fun j b h1 h2 h3 => s.new j b h1 h2 (h3.imp (kS j b) id), fun j b h1 h2 => s.alive j b (kS j b h1) h2, fun j b h1 h2 => s.kind j b (kC j b h1) h2⟩
  ·by_cases e : j = k
   ·subst e
    rw [Zk] at hj;injection hj with hj
    injection hj with e1 e2 e3;subst e1 e2 e3
    obtain ⟨b, C, hb, r2, r3, r4⟩ := s.emb.objF j c t (Zk);by_cases hz : c = [] ∧ b.2 = 0
    ·exact ⟨b, hb, .inl ⟨rfl, hz.1, hz.2⟩⟩
    refine ⟨b, hb, .inr ⟨?_, C, r2, r3, r4⟩⟩;cases c with
    | nil =>
     have hb2 : b.2 ≠ 0 := fun h => hz ⟨rfl, h⟩;show (false || (true && !Nat.beq b.2 0)) = true;cases hq : Nat.beq b.2 0 with
     | true => exact absurd (Nat.eq_of_beq_eq_true hq) hb2
     | false => rfl
    | cons x l => rfl
   ·rw [Zf e] at hj
    exact s.emb.obj j c1 t1 q1 (by rw [Zf e]; exact hj)
  ·by_cases e : j = k
   ·subst e; rw [Zk] at hj; injection hj with hj; cases hj
   ·rw [Zf e] at hj
    exact s.emb.ro j O (by rw [Zf e]; exact hj)
  ·obtain ⟨m1, m2, m3⟩ := s.emb.mks b base id q hq
   exact ⟨m1, m2, fun j d hj hd => m3 j d (kC j d hj) hd⟩
theorem Step.cut {ι : Ren} {h : AH} {w : World} (e : Emb P ι h w) {n k0 : Nat} {b b' : Nat × Nat} (hnf : n < 1000000000) (hn : ι n = none) (hb : ι k0 = some b) {c : List Value} {t : TypeId} (hk0 : h k0 = some (.cells c t)) (hb1 : b'.1 = b.1) (hb2 : ∀ i, P.info? t = some i → b'.2 ≤ b.2 ∨ b'.2 * i.size ≤ c.length) (r : Nat) :
  Step P ι h w (upd ι n (some b')) (upd (upd h k0 none) n (some (.cells (c.take r) t))) w := by
 have hlC : ∀ b, ZQ (h k0) b = true := fun b => by rw [hk0]; rfl
 have hl : ∀ b, Zae (h k0) b = true := fun b => Zd1 (hlC b);have hne : n ≠ k0 := fun e => by subst e; rw [hn] at hb; cases hb
 have hx : ∀ k b1, ι k = some b1 → upd ι n (some b') k = some b1 := fun k b1 hk => by
  rw [Zf]; · exact hk
  ·intro e; subst e; rw [hn] at hk; cases hk
 have casesI : ∀ k, (upd (upd h k0 none) n (some (.cells (c.take r) t)) k).isSome → k = n ∨ (k ≠ n ∧ k ≠ k0 ∧ (h k).isSome) := fun k hk => by
  by_cases h1 : k = n
  ·exact .inl h1
  ·rw [Zf h1] at hk
   exact .inr ⟨h1, Zmm hk⟩
 have cases_ : ∀ k b, Zae (upd (upd h k0 none) n (some (.cells (c.take r) t)) k) b = true → k = n ∨ (k ≠ n ∧ k ≠ k0 ∧ Zae (h k) b = true) := fun k b hk => by
  by_cases h1 : k = n
  ·exact .inl h1
  ·rw [Zf h1] at hk
   exact .inr ⟨h1, Zi3 hk⟩
 have casesC : ∀ k b, ZQ (upd (upd h k0 none) n (some (.cells (c.take r) t)) k) b = true → k = n ∨ (k ≠ n ∧ k ≠ k0 ∧ ZQ (h k) b = true) := fun k b hk => by
  by_cases h1 : k = n
  ·exact .inl h1
  ·rw [Zf h1] at hk
   exact .inr ⟨h1, Ze1 hk⟩
 refine ⟨hx, ⟨fun k c' t' q' hk => ?_, fun k O hk => ?_, fun k k' b1 b2 h1 h2 h3 h4 h5 => ?_, fun k b1 hk => ?_, e.marks hx (fun _ _ _ => rfl) (Zna hnf) (fun k d hk hd => by
  rcases casesC k _ hk with rfl | ⟨q1, _, q3⟩
  ·rw [Zk] at hd; injection hd with hd; subst hd; exact .inr ⟨k0, _, hlC _, hb, hb1.symm⟩
  ·rw [Zf q1] at hd; exact .inr ⟨k, d, q3, hd, rfl⟩), e.tabs hx⟩, rfl, rfl, rfl, Nat.le_refl _, fun _ _ _ => rfl, fun k b1 h1 h2 _ => ?_, fun k b0 h1 h2 => ?_, fun k b0 h1 h2 => ?_⟩
 ·rcases casesI k (by rw [hk]; rfl) with rfl | ⟨h1, h2, _⟩
  ·rw [Zk] at hk
   injection hk with hk;injection hk with q1 q2 q3
   subst q1 q2 q3;obtain ⟨b1, C1, hb1', hB1, hC1, hQ⟩ := e.objF k0 c t hk0;rw [hb] at hb1'; injection hb1' with hb1'; subst hb1'
   refine ⟨b', Zk, .inr ⟨rfl, C1, by rw [hb1]; exact hB1, ⟨by rw [List.length_take]; have := hC1.1; omega, fun i x y hx1 hy => ?_⟩, fun i hi => ?_⟩⟩
   ·have hir : i < r := by have := (List.getElem?_eq_some_iff.1 hx1).1; rw [List.length_take] at this; omega
    rw [List.getElem?_take_of_lt hir] at hx1;exact (hC1.2 i x y hx1 hy).ext hx
   ·rcases hb2 i hi with h3 | h3
    ·exact Nat.le_trans (Nat.mul_le_mul_right _ h3) (hQ i hi)
    ·exact Nat.le_trans h3 hC1.1
  ·rw [Zf h1, Zf h2] at hk
   obtain ⟨b1, hb1', hz⟩ := e.obj k c' t' q' hk;exact ⟨b1, hx _ _ hb1', hz.imp id fun ⟨q0, C1, hB1, hC1, hQ⟩ => ⟨q0, C1, hB1, hC1.ext hx, hQ⟩⟩
 ·rcases casesI k (by rw [hk]; rfl) with rfl | ⟨h1, h2, _⟩
  ·rw [Zk] at hk
   injection hk with hk;cases hk
  ·rw [Zf h1, Zf h2] at hk
   obtain ⟨b1, hb1', hB1⟩ := e.ro k O hk;exact ⟨b1, hx _ _ hb1', hB1⟩
 ·rcases casesC k _ h1 with rfl | ⟨q1, q2, q3⟩ <;> rcases cases_ k' _ h2 with rfl | ⟨r1, r2, r3⟩
  ·rfl
  ·rw [Zk] at h3; injection h3 with h3; subst h3
   rw [Zf r1] at h4;exact absurd (e.inj k0 k' _ _ (hlC _) r3 hb h4 (hb1 ▸ h5)).symm r2
  ·rw [Zk] at h4; injection h4 with h4; subst h4
   rw [Zf q1] at h3;exact absurd (e.inj k k0 _ _ q3 (hl _) h3 hb (hb1 ▸ h5)) q2
  ·rw [Zf q1] at h3
   rw [Zf r1] at h4;exact e.inj k k' _ _ q3 r3 h3 h4 h5
 ·by_cases h1 : k = n
  ·subst h1; rw [Zk] at hk; injection hk with hk; subst hk; rw [hb1]; exact e.lt k0 _ hb
  ·rw [Zf h1] at hk; exact e.lt k b1 hk
 ·by_cases hk0' : k = n
  ·subst hk0'; rw [Zk] at h2; injection h2 with h2; subst h2; exact .inr ⟨k0, b, hlC _, hb, hb1.symm⟩
  ·rw [Zf hk0', h1] at h2; cases h2
 ·rcases cases_ k _ h1 with rfl | ⟨_, _, q3⟩
  ·rw [hn] at h2; cases h2
  ·exact q3
 ·rcases casesC k _ h1 with rfl | ⟨_, _, q3⟩
  ·rw [hn] at h2; cases h2
  ·exact q3
theorem Dom.one {ι : Ren} {n : Nat} {b : Nat × Nat} : Dom ι (upd ι n (some b)) n (n + 1) := fun k hk => by
 by_cases h1 : k = n
 ·subst h1; exact .inr (.inl ⟨Nat.le_refl _, Nat.lt_succ_self _⟩)
 ·rw [Zf h1] at hk; exact .inl hk
end
section
variable {P : Program}

theorem Znb {α : Type} : ∀ {s : Sem α} {a : α} (w : World), ZmU P s = some a → s.run P w = .ok a w
 | .pure a, b, w, h => by simp [ZmU] at h; subst h; rfl
 | .program k, b, w, h => by simp only [ZmU] at h; simp only [Sem.run]; exact Znb w h
 | .mark m k, b, w, h => by simp only [ZmU] at h; simp only [Sem.run]; exact Znb w h
 | .load _ _ _, _, _, h | .store _ _ _ _, _, _, h | .new _ _, _, _, h | .shape _ _, _, _, h | .freeze _ _ _, _, _, h | .frozen _ _, _, _, h | .getObj _ _, _, _, h | .setObj _ _ _, _, _, h | .choose _ _, _, _, h | .sys _ _, _, _, h | .halt _, _, _, h => by simp [ZmU] at h

def Res (P : Program) (r : Result Next) (s : St) (ι : Ren) (w : World) (v : Value) (s' : St) : Prop :=
 ∃ nx w' ι' v', r = .ok nx w' ∧ (nx = .value v' ∨ (nx = .skip ∧ v' = undef)) ∧ Step P ι s.h.get w ι' s'.h.get w' ∧ Dom ι ι' s.n s'.n ∧ VR ι' v v'
variable {ι : Ren} {w : World} {ρ ρ' : Operand → Value} {s s' : St} {v : Value}
theorem Res.same {r : Result Next} {v' : Value} (he : Emb P ι s.h.get w) (hr : r = .ok (.value v') w) (hv : VR ι v v') : Res P r s ι w v s :=
 ⟨_, w, ι, v', hr, .inl rfl, Step.refl he, Dom.refl, hv⟩
theorem Res.heap {r : Result Next} (h : Res P r s ι w v s') {s1 : St} (h1 : s1.h = s.h) (h2 : s1.n = s.n) : Res P r s1 ι w v s' := by obtain ⟨nx, w', ι', v', a, b, c, d, e⟩ := h;exact ⟨nx, w', ι', v', a, b, h1 ▸ c, h2 ▸ d, e⟩
theorem Z5Y {s s1 : St} {t b : Bool} (h : s.tst t = (b, s1)) (ho : ∀ p ∈ s1.ob, p.1 = p.2) : b = t ∧ s1.h = s.h ∧ s1.n = s.n := by
 unfold St.tst at h;split at h
 ·injection h with h1 h2; subst h1 h2; exact ⟨rfl, rfl, rfl⟩
 ·injection h with h1 h2; subst h1 h2; exact ⟨rfl, rfl, rfl⟩
 ·injection h with h1 h2; subst h1 h2; exact ⟨(ho (t, _) (by simp)).symm, rfl, rfl⟩

theorem Z5Z {s s1 : St} {x y : Int} (h : s.vst x = (y, s1)) (ho : ∀ p ∈ s1.ob, p.1 = p.2) : y = x ∧ s1.h = s.h ∧ s1.n = s.n := by
 unfold St.vst at h;split at h
 ·injection h with h1 h2; subst h1 h2; exact ⟨rfl, rfl, rfl⟩
 ·injection h with h1 h2; subst h1 h2; exact ⟨rfl, rfl, rfl⟩
 ·injection h with h1 h2; subst h1 h2; exact ⟨(beq_iff_eq.1 (ho (x == _, true) (by simp))).symm, rfl, rfl⟩

theorem Z4c {o : Oper} (hρ : ∀ x, VR ι (ρ x) (ρ' x)) (h : Zu (fun x => free (ρ x)) o.op.operands.toList = true) : ∀ x ∈ o.op.operands, ρ x = ρ' x := fun x hx =>
 ((hρ x).eq_of_free (Zaf h x (by simpa using hx))).symm
theorem Zb9 {o : Oper} (hs : ∀ cs b, o.op ≠ .select cs b) (hρ : ∀ x, VR ι (ρ x) (ρ' x)) (he : Emb P ι s.h.get w) (h : ZdC P ρ o s = some (v, s')) : s' = s ∧ Res P ((execOp ρ' o).run P w) s ι w v s' := by
 unfold ZdC at h;cases ha : Zu (fun x => free (ρ x)) o.op.operands.toList with
 | false => rw [ha] at h; simp at h
 | true =>
  rw [ha] at h;simp only [cond_true] at h;split at h
  ·rename_i u hu
   cases hf : free u with
   | false => rw [hf] at h; simp at h
   | true =>
    rw [hf] at h;simp only [cond_true, Option.some.injEq, Prod.mk.injEq] at h;obtain ⟨rfl, rfl⟩ := h;refine ⟨rfl, Res.same he ?_ (VR.of_free hf)⟩;rw [← execOp_congr o hs (Z4c hρ ha)];exact Znb w hu
  ·cases h

/-! ### Cells -/
theorem VR.cells {v v' : Value} (h : VR ι v v') : v.cells.size = v'.cells.size ∧ CR ι v.cells.toList v'.cells := by
 have one : ∀ {v v' : Value}, VR ι v v' → v.cells = #[v] → v'.cells = #[v'] → v.cells.size = v'.cells.size ∧ CR ι v.cells.toList v'.cells := fun h h1 h2 => by
  rw [h1, h2];refine ⟨rfl, by simp, fun i x y hx hy => ?_⟩;rcases i with _ | i
  ·simp at hx hy; subst hx hy; exact h
  ·simp at hx
 cases h with
 | atom ha =>
  cases v <;> first | exact one (.atom ha) rfl rfl | (simp [Ev.atom] at ha)
 | agg hs h =>
  refine ⟨hs, by simp [Value.cells, hs], fun i x y hx hy => h i x y (by simpa [Value.cells] using hx) (by simpa [Value.cells] using hy)⟩
 | glob h => rename_i g; exact one (.glob h) rfl (by cases v' <;> first | rfl | (simp [Value.oneCell'] at h))
 | ptr h => exact one (.ptr h) rfl rfl
 | map h => exact one (.map h) rfl rfl
 | slice h a b c => exact one (.slice h a b c) rfl rfl
 | slice0 h => exact one (.slice0 h) rfl rfl
 | mptr h => exact one (.mptr h) rfl rfl
 | mslice h a b => exact one (.mslice h a b) rfl rfl
 | func a b c d => exact one (.func a b c d) rfl rfl
 | tuple a b => exact one (.tuple a b) rfl rfl
theorem Zr5 {v v' : Value} (h : VR ι v v') (hc : Zbg v = true) : v'.oneCell' = true := by
 cases h with
 | atom h => cases v <;> first | rfl | (simp [Zbg] at hc)
 | glob h => exact h
 | agg _ _ => simp [Zbg] at hc
 | tuple _ _ => simp [Zbg] at hc
 | _ => rfl
theorem CR.of_atoms {l : List Value} (h : Zu atom l = true) : CR ι l l.toArray := ⟨by simp, fun i x y hx hy => by
 simp at hy;rw [hx] at hy;injection hy with hy
 subst hy;exact .atom (Zaf h x (List.mem_of_getElem? hx))⟩
theorem Ze2 {α : Type} : ∀ {n : Nat} {l r : List α}, Z4 n l = some r → r = l.take n ∧ n ≤ l.length
 | 0, l, r, h => by simp [Z4] at h; subst h; simp
 | n + 1, [], r, h => by simp [Z4] at h
 | n + 1, x :: l, r, h => by
  simp only [Z4] at h;split at h
  ·rename_i r' hr
   injection h with h;subst h
   obtain ⟨rfl, hl⟩ := Ze2 hr;exact ⟨rfl, by simpa using hl⟩
  ·cases h
theorem ZsJ (he : Emb P ι s.h.get w) {k o m : Nat} {l : List Value} (h : rowAt s k o m = some l) :
  ∃ b C t, ι k = some b ∧ Cel w.heap[b.1]? C t ∧ l.length = m ∧ ∀ (j : Nat) x, l[j]? = some x → ∃ y, C[o + j]? = some y ∧ VR ι x y := by
 unfold rowAt at h;split at h
 ·rename_i c t q hk
  have hh : Z4 m (c.drop o) = some l ∧ (q = true → m ≠ 0) := by
   cases q with
   | false => exact ⟨h, fun e => by cases e⟩
   | true =>
    simp only at h;cases hm : Nat.beq m 0 with
    | true => rw [hm] at h; cases h
    | false => rw [hm] at h; exact ⟨h, fun _ e => by subst e; cases hm⟩
  obtain ⟨h, hq⟩ := hh;obtain ⟨b, hb, ⟨z1, z2, _⟩ | ⟨_, C, hB, hC, _⟩⟩ := he.obj k c t q hk
  ·subst z2
   obtain ⟨rfl, hl⟩ := Ze2 h;simp at hl;exact absurd hl (hq z1)
  obtain ⟨rfl, hl⟩ := Ze2 h;have h0 := hC.1;simp only [List.length_drop] at hl;refine ⟨b, C, t, hb, hB, by simp; omega, fun j x hx => ?_⟩;have hj : j < m := by have := (List.getElem?_eq_some_iff.1 hx).1;simp at this; omega
  rw [List.getElem?_take_of_lt hj, List.getElem?_drop] at hx;have hlt : o + j < C.size := by have := (List.getElem?_eq_some_iff.1 hx).1;omega
  exact ⟨C[o + j], Array.getElem?_eq_getElem hlt, hC.2 (o + j) x _ hx (Array.getElem?_eq_getElem hlt)⟩
 ·cases h
theorem Z1z {b o j : Nat} {C : Array Value} {t : TypeId} (hB : Cel w.heap[b]? C t) : w.cell? ((⟨b, o, none⟩ : Addr).add j) = C[o + j]? := by
 obtain ⟨fr, hB, _⟩ := hB;unfold Addr.add;split
 ·rename_i h; subst h; exact cell_of_row w b o C t fr hB
 ·exact cell_of_row w b (o + j) C t fr hB
theorem Z4d {b o : Nat} {C : Array Value} {t : TypeId} (hB : Cel w.heap[b]? C t) : w.cell? ⟨b, o, none⟩ = C[o]? := by obtain ⟨fr, hB, _⟩ := hB;exact cell_of_row w b o C t fr hB
theorem Znc (he : Emb P ι s.h.get w) {k o m : Nat} {l : List Value} (h : rowAt s k o m = some l) :
  ∃ (b : Nat × Nat) (cs : List Value), ι k = some b ∧ cs.length = m ∧ l.length = m ∧ (∀ j u, cs[j]? = some u → w.cell? ((⟨b.1, o, none⟩ : Addr).add j) = some u) ∧ ∀ (j : Nat) x y, l[j]? = some x → cs[j]? = some y → VR ι x y := by
 obtain ⟨b, C, t, hb, hB, hl, hx⟩ := ZsJ he h;have hc : ∀ j, j < m → o + j < C.size := fun j hj => by obtain ⟨y, hy, _⟩ := hx j l[j] (List.getElem?_eq_getElem (by omega));exact (Array.getElem?_eq_some_iff.1 hy).1
 refine ⟨b, (List.range m).map fun j => C.getD (o + j) undef, hb, by simp, hl, fun j u hu => ?_, fun j x y h1 h2 => ?_⟩
 ·have hj : j < m := by have := (List.getElem?_eq_some_iff.1 hu).1; simpa using this
  rw [Z1z hB];simp only [List.getElem?_map, List.getElem?_range hj, Option.map_some, Option.some.injEq] at hu;rw [← hu, Array.getElem?_eq_getElem (hc j hj)];simp [Array.getD, hc j hj]
 ·have hj : j < m := by have := (List.getElem?_eq_some_iff.1 h1).1; omega
  obtain ⟨y', hy, hv⟩ := hx j x h1;simp only [List.getElem?_map, List.getElem?_range hj, Option.map_some, Option.some.injEq] at h2;rw [Array.getElem?_eq_getElem (hc j hj)] at hy;injection hy with hy
  subst h2;rw [show C.getD (o + j) undef = y' by simp [Array.getD, hc j hj]; exact hy];exact hv
theorem Zga {t : TypeId} {q : Bool} {m : Nat} (h : Zje P t = some (q, m)) : (isAgg t).run P w = .ok q w ∧ ∃ i, P.info? t = some i ∧ i.size = m := by
 unfold Zje at h;cases hu : P.underlying t with
 | none => rw [hu] at h; simp at h
 | some d =>
  cases hi : P.info? t with
  | none => rw [hu, hi] at h; cases d <;> simp at h
  | some i =>
   rw [hu, hi] at h;have : (isAgg t).run P w = .ok (match d with | .struct _ | .array _ _ => true | _ => false) w := by simp only [isAgg, Sem.run_bind, run_underlying hu, Result.andThen];cases d <;> rfl
   rw [this];cases d <;> simp at h <;> (obtain ⟨rfl, rfl⟩ := h; exact ⟨rfl, i, rfl, rfl⟩)
theorem ZnG (he : Emb P ι s.h.get w) {t k o : Nat} (h : Zkh P s t k o = some v) : ∃ b v', ι k = some b ∧ (loadVar t ⟨b.1, o, none⟩).run P w = .ok v' w ∧ VR ι v v' := by
 unfold Zkh at h;split at h
 ·rename_i m hs
  split at h
  ·rename_i l hl
   injection h with h;subst h
   obtain ⟨hA, i, hi, him⟩ := Zga (w := w) hs;obtain ⟨b, cs, hb, hcl, hll, hcs, hv⟩ := Znc he hl;refine ⟨b, .agg cs.toArray, hb, ?_, .agg (by simp; omega) fun j x y hx hy => hv j x y (by simpa using hx) (by simpa using hy)⟩;have := run_loadCells_list (P := P) w ⟨b.1, o, none⟩ cs hcs;rw [hcl] at this;subst him;simp [loadVar, hA, Result.andThen, sizeOf, typeInfo, hi, this]
  ·cases h
 ·rename_i m hs
  split at h
  ·rename_i u hl
   injection h with h;subst h
   obtain ⟨hA, _⟩ := Zga (w := w) hs;obtain ⟨b, cs, hb, hcl, hll, hcs, hv⟩ := Znc he hl;have h0 : cs[0]? = some cs[0] := List.getElem?_eq_getElem (by omega);refine ⟨b, cs[0], hb, ?_, hv 0 _ _ rfl h0⟩;have := hcs 0 _ h0;simp only [Addr.add, if_true] at this;simp [loadVar, hA, Result.andThen, load, Sem.run, this]
  ·cases h
 ·cases h

/-! ### Writes -/
theorem Zv3 {g : Nat} {C C' : Array Value} {t : TypeId} (hB : Cel w.heap[g]? C t) (hs : C'.size = C.size) : Cel (w.setRow g C').heap[g]? C' t ∧ (∀ i, i ≠ g → (w.setRow g C').heap[i]? = w.heap[i]?) ∧ (w.setRow g C').heap.size = w.heap.size := by
 obtain ⟨fr, hB, hu⟩ := hB;refine ⟨⟨fr, ?_, by rw [hs]; exact hu⟩, fun i hi => ?_, by simp [World.setRow]⟩
 ·simp only [World.setRow, Array.getElem?_modify, if_true, hB, Option.map_some]
 ·simp only [World.setRow, Array.getElem?_modify]
  rw [if_neg (fun e => hi e.symm)]
theorem Z6a {g o : Nat} {cur : Array Value} {t : TypeId} {fr : Nat × Nat} (hg : w.heap[g]? = some (.cells cur t fr)) (hu : Unf cur.size fr) (ho : o < cur.size) : w.frozen? ⟨g, o, none⟩ = false := by
 rcases hu with rfl | hu
 ·simp [World.frozen?, hg]
 ·simp [World.frozen?, hg]; omega
theorem Zi4 (P : Program) (g o : Nat) (t : TypeId) {fr : Nat × Nat} : ∀ (vs : List Value) (i : Nat) (cur : Array Value) (w : World), w.heap[g]? = some (.cells cur t fr) → Unf cur.size fr → o + i + vs.length ≤ cur.size → (∀ v ∈ vs, v.oneCell' = true) →
  (storeCells ⟨g, o, none⟩ vs i).run P w = .ok () (w.setRow g (cur.toList.take (o + i) ++ vs ++ cur.toList.drop (o + i + vs.length)).toArray)
 | [], i, cur, w, hg, _, _, _ => by simp only [storeCells, List.append_nil, List.length_nil, Nat.add_zero, List.take_append_drop, Array.toArray_toList];rw [setRow_self w g cur t fr hg];rfl
 | v :: rest, i, cur, w, hg, hu, hl, h1 => by
  have hi : o + i < cur.size := by simp at hl; omega
  have hadd : (⟨g, o, none⟩ : Addr).add i = ⟨g, o + i, none⟩ := by unfold Addr.add; split <;> simp_all
  have hcell : w.cell? ⟨g, o + i, none⟩ = some cur[o + i] := by simp [World.cell?, hg, hi]
  have hst : (store ((⟨g, o, none⟩ : Addr).add i) v).run P w = .ok () (w.setRow g (cur.setIfInBounds (o + i) v)) := by rw [hadd, run_store P w _ v _ (h1 v (by simp)), hcell];simp [Z6a hg hu hi, setCell_eq_setRow w g (o + i) cur t fr v hg]
  have ih := Zi4 P g o t rest (i + 1) (cur.setIfInBounds (o + i) v) (w.setRow g (cur.setIfInBounds (o + i) v)) (setRow_heap w g cur _ t fr hg) (by simpa using hu) (by simp at hl ⊢; omega) (fun x hx => h1 x (by simp [hx]));simp only [storeCells, Sem.run_bind, hst, Result.andThen_ok, ih, setRow_setRow];congr 3;have e := list_seg_step cur.toList (o + i) v rest (by simp at hl ⊢; omega);simpa [Array.toList_setIfInBounds, Nat.add_assoc] using e
theorem ZnH (he : Emb P ι s.h.get w) {k o : Nat} {l : List Value} {c : Array Value} (h : Ziw s k o l = some s') (hl : l.length = c.size) (hc : ∀ (i : Nat) x y, l[i]? = some x → c[i]? = some y → VR ι x y) :
  ∃ b w', ι k = some b ∧ (storeCells ⟨b.1, o, none⟩ c.toList).run P w = .ok () w' ∧ Step P ι s.h.get w ι s'.h.get w' ∧ s'.n = s.n ∧ (∃ C t, Cel w.heap[b.1]? C t ∧ o + c.size ≤ C.size ∧ w' = w.setRow b.1 (C.toList.take o ++ c.toList ++ C.toList.drop (o + c.size)).toArray) ∧ (∀ u ∈ c.toList, u.oneCell' = true) := by
 unfold Ziw at h;split at h
 ·rename_i a t q hk
  cases hg0 : ((Nat.ble (o + l.length) a.length && Zu Zbg l) && (!q || Nat.blt 0 l.length)) with
  | false => rw [hg0] at h; simp at h
  | true =>
   rw [hg0] at h;simp only [cond_true, Option.some.injEq] at h;subst h;rw [Bool.and_eq_true] at hg0;obtain ⟨hg, hq⟩ := hg0;simp only [Bool.and_eq_true] at hg;have hle : o + l.length ≤ a.length := Nat.le_of_ble_eq_true hg.1;have hc0 : ∀ r : List Value, r.length = a.length → isC (some (.cells r t q)) = true := fun r hr => by
    cases q with
    | false => rfl
    | true =>
     have : 0 < l.length := by simpa [Nat.blt_eq] using hq
     cases r with
     | nil => simp at hr; omega
     | cons x r => rfl
   obtain ⟨b, hb, ⟨z1, z2, _⟩ | ⟨_, C, hB, hC, hQ⟩⟩ := he.obj k a t q hk
   ·subst z1 z2
    have := hc0 [] rfl;cases this
   have h1 : ∀ u ∈ c.toList, u.oneCell' = true := fun u hu => by
    obtain ⟨j, hj⟩ := List.mem_iff_getElem?.1 hu;have hjl : j < l.length := by have := (List.getElem?_eq_some_iff.1 hj).1; simp at this; omega
    exact Zr5 (hc j l[j] u (List.getElem?_eq_getElem hjl) (by simpa using hj)) (Zaf hg.2 _ (List.getElem_mem hjl))
   have hfit : o + 0 + c.toList.length ≤ C.size := by have := hC.1; simp; omega
   obtain ⟨fr, hBf, hUf⟩ := hB.unf;have hrun := Zi4 P b.1 o t c.toList 0 C w hBf hUf hfit h1;obtain ⟨q1, q2, q3⟩ := Zv3 (C' := (C.toList.take o ++ c.toList ++ C.toList.drop (o + c.size)).toArray) hB (by simp [List.length_take, List.length_drop]; simp at hfit; omega);simp only [Nat.add_zero, Array.length_toList] at hrun hfit;refine ⟨b, _, hb, hrun, ?_, rfl, ⟨C, t, hB, by omega, rfl⟩, h1⟩;show Step P ι s.h.get w ι (s.h.set k (some (.cells (Zju a o l) t q))).get _;rw [Tr.get_set];have hsz : (C.toList.take o ++ c.toList ++ C.toList.drop (o + c.size)).length = C.size := by simp [List.length_take, List.length_drop]; omega
   refine Step.store he hk hb (C := C) ?_ (by simpa using hsz) hB q1 q2 q3 rfl rfl rfl (hc0 a rfl) (hc0 _ (by unfold Zju; simp [List.length_take, List.length_drop]; omega));have h0 := hC.1;unfold Zju;refine ⟨by simp [List.length_take, List.length_drop]; omega, fun i x y hx hy => ?_⟩;simp only [List.getElem?_toArray] at hy;have e1 : (a.take o).length = o := by rw [List.length_take]; omega
   have e2 : (C.toList.take o).length = o := by rw [List.length_take]; simp; omega
   by_cases hi : i < o
   ·rw [List.append_assoc, List.getElem?_append_left (by rw [e1]; exact hi), List.getElem?_take_of_lt hi] at hx
    rw [List.append_assoc, List.getElem?_append_left (by rw [e2]; exact hi), List.getElem?_take_of_lt hi] at hy;exact hC.2 i x y hx (by simpa using hy)
   ·by_cases hi2 : i < o + l.length
    ·rw [List.append_assoc, List.getElem?_append_right (by rw [e1]; omega), e1, List.getElem?_append_left (by omega)] at hx
     rw [List.append_assoc, List.getElem?_append_right (by rw [e2]; omega), e2, List.getElem?_append_left (by simp; omega)] at hy;exact hc (i - o) x y hx (by simpa using hy)
    ·rw [List.getElem?_append_right (by rw [List.length_append, e1]; omega), List.length_append, e1, List.getElem?_drop] at hx
     rw [List.getElem?_append_right (by rw [List.length_append, e2]; simp; omega), List.length_append, e2, List.getElem?_drop] at hy;have ei : o + l.length + (i - (o + l.length)) = i := by omega
     have ei2 : o + c.size + (i - (o + c.toList.length)) = i := by simp; omega
     rw [ei] at hx;rw [ei2] at hy;exact hC.2 i x y hx (by simpa using hy)
 ·cases h

/-! ### The operations -/
theorem Zkw (he : Emb P ι s.h.get w) (hf : Fresh ι s.n (s.n + 1)) {c : List Value} {C : Array Value} (t : TypeId) (hc : CR ι c C) (q : Nat) (hq : ∀ i, P.info? t = some i → q * i.size ≤ C.size) :
  Step P ι s.h.get w (upd ι s.n (some (w.heap.size, q))) (s.add c t).h.get (w.alloc (.cells C t)) ∧ Dom ι (upd ι s.n (some (w.heap.size, q))) s.n (s.add c t).n := by
 have := Step.alloc he (Nat.lt_of_lt_of_le (Nat.lt_succ_self _) hf.1) (hf.2 s.n (Nat.le_refl _) (Nat.lt_succ_self _)) t hc q hq;refine ⟨?_, Dom.one⟩;show Step P ι s.h.get w _ (s.h.set s.n (some (.cells c t))).get _;rw [Tr.get_set];exact this
theorem ZhH {t : TypeId} {z : List Value} (h : ZgY P t = some z) : ∃ i u, P.info? t = some i ∧ i.zero = some u ∧ z = u.cells.toList ∧ Zu atom z = true := by
 unfold ZgY at h;split at h
 ·rename_i i hi
  split at h
  ·rename_i u hu
   cases ha : Zu atom u.cells.toList with
   | false => rw [ha] at h; simp at h
   | true => rw [ha] at h; simp at h; subst h; exact ⟨i, u, hi, hu, rfl, ha⟩
  ·cases h
 ·cases h
end
section
variable {P : Program} {ι : Ren} {w : World} {ρ ρ' : Operand → Value} {s s' : St} {v : Value}

theorem Zl {α : Type} {b : Bool} {x : Option α} {y : α} (h : (bif b then x else none) = some y) : b = true ∧ x = some y := by
 cases b with
 | false => simp at h
 | true => exact ⟨rfl, by simpa using h⟩
theorem VR.mptr_inv {id o z : Nat} {v' : Value} (h : VR ι (.pointer (some ⟨id, o, some z⟩)) v') : ∃ b base q, ι (ZO b base id) = some q ∧ v' = .pointer (some ⟨b, base + o, none⟩) := by
 cases h with
 | atom h => simp [Ev.atom] at h
 | mptr h => exact ⟨_, _, _, h, rfl⟩
theorem VR.ptr_inv {k o : Nat} {v' : Value} (h : VR ι (.pointer (some ⟨k, o, none⟩)) v') : ∃ b, ι k = some b ∧ v' = .pointer (some ⟨b.1, o, none⟩) := by
 cases h with
 | atom h => simp [Ev.atom] at h
 | ptr h => exact ⟨_, h, rfl⟩
theorem VR.bool_inv {b : Bool} {v' : Value} (h : VR ι (.bool b) v') : v' = .bool b := h.eq_of_atom rfl
theorem VR.int_inv {k : IntKind} {n : Int} {v' : Value} (h : VR ι (.int k n) v') : v' = .int k n := h.eq_of_atom rfl
theorem VR.agg_inv {a : Array Value} {v' : Value} (h : VR ι (.agg a) v') : ∃ a' : Array Value, v' = .agg a' ∧ a.size = a'.size ∧ ∀ (i : Nat) x y, a[i]? = some x → a'[i]? = some y → VR ι x y := by
 cases h with
 | atom h => simp [Ev.atom] at h
 | agg hs h => exact ⟨_, rfl, hs, h⟩
theorem VR.tuple_inv {a : Array Value} {v' : Value} (h : VR ι (.tuple a) v') : ∃ a' : Array Value, v' = .tuple a' ∧ a.size = a'.size ∧ ∀ (i : Nat) x y, a[i]? = some x → a'[i]? = some y → VR ι x y := by
 cases h with
 | atom h => simp [Ev.atom] at h
 | tuple hs h => exact ⟨_, rfl, hs, h⟩
theorem Zgb {x x' : Value} {n : Nat} (h : ZmV x = some n) (hv : VR ι x x') : ∃ k, x' = .int k (n : Int) := by
 unfold ZmV at h;split at h
 ·injection h with h; subst h; exact ⟨_, hv.int_inv⟩
 ·cases h

theorem Zl5 {o : Oper} {t : TypeId} (ho : o.op = .alloc t) (he : Emb P ι s.h.get w) {z : List Value} (hz : ZgY P t = some z) (hf : Fresh ι s.n (s.n + 1)) :
  Res P ((execOp ρ' o).run P w) s ι w (at0 s.n) (s.add z t) := by
 obtain ⟨i, u, hi, hu, rfl, ha⟩ := ZhH hz;obtain ⟨h1, h2⟩ := Zkw he hf t (C := u.cells) (by have := CR.of_atoms (ι := ι) ha; simpa using this) 0 (by simp);refine ⟨.value (.pointer (some ⟨w.heap.size, 0, none⟩)), _, _, _, ?_, .inl rfl, h1, h2, .ptr (b := (w.heap.size, 0)) Zk⟩;simp [execOp, ho, Instr.alloc, zeroValue, typeInfo, hi, hu, newVar, newRow, newObj, Sem.run, Result.andThen]
theorem Z3b {o : Oper} {t : TypeId} {x : Operand} (ho : o.op = .box t x) (hρ : VR ι (ρ x) (ρ' x)) (he : Emb P ι s.h.get w) (hf : Fresh ι s.n (s.n + 1)) :
  Res P ((execOp ρ' o).run P w) s ι w (at0 s.n) (s.add (ρ x).cells.toList t) := by
 obtain ⟨h1, h2⟩ := Zkw he hf t hρ.cells.2 0 (by simp);refine ⟨.value (.pointer (some ⟨w.heap.size, 0, none⟩)), _, _, _, ?_, .inl rfl, h1, h2, .ptr (b := (w.heap.size, 0)) Zk⟩;simp [execOp, ho, Instr.box, newVar, newRow, newObj, Sem.run, Result.andThen]
theorem Zl6 {o : Oper} {t : TypeId} {a x : Operand} (ho : o.op = .store t a x) (hρ : ∀ x, VR ι (ρ x) (ρ' x)) (he : Emb P ι s.h.get w) (h : Zix P ρ t a x s = some (v, s')) :
  Res P ((execOp ρ' o).run P w) s ι w v s' := by
 unfold Zix at h;split at h
 ·rename_i k o' i ha hi
  obtain ⟨hsz, h⟩ := Zl h;split at h
  ·rename_i s1 hs
   injection h with h;injection h with h1 h2
   subst h1 h2;obtain ⟨b', hb, ha'⟩ := (ha ▸ hρ a).ptr_inv;obtain ⟨hc1, hc2⟩ := (hρ x).cells;obtain ⟨b, w', hb2, hrun, hstep, hn, _, _⟩ := ZnH he (c := (ρ' x).cells) hs (by simpa using hc1) hc2.2;rw [hb] at hb2; injection hb2 with hb2; subst hb2
   refine ⟨.skip, w', ι, undef, ?_, .inr ⟨rfl, rfl⟩, hstep, hn ▸ Dom.refl, VR.of_free rfl⟩;have hsz' : (ρ' x).cells.size = i.size := by rw [← hc1]; exact Nat.eq_of_beq_eq_true hsz
   simp [execOp, ho, Instr.storeAt, ha', Instr.sureAddr, storeVar, sizeOf, typeInfo, hi, hsz', hrun, Result.andThen, Sem.run]
  ·cases h
 ·cases h
theorem Znd {o : Oper} {t : TypeId} {a : Operand} {k o' : Nat} (ho : o.op = .load t a) (ha : ρ a = .pointer (some ⟨k, o', none⟩)) (hρ : VR ι (ρ a) (ρ' a)) (he : Emb P ι s.h.get w) (h : Zkh P s t k o' = some v) :
  Res P ((execOp ρ' o).run P w) s ι w v s := by
 obtain ⟨b', hb, ha'⟩ := (ha ▸ hρ).ptr_inv;obtain ⟨b, v', hb2, hrun, hv⟩ := ZnG he h;rw [hb] at hb2; injection hb2 with hb2; subst hb2
 refine Res.same he (v' := v') ?_ hv;simp [execOp, ho, Instr.loadAt, ha', Instr.sureAddr, hrun, Result.andThen, Sem.run]
theorem ZsK {o : Oper} {t : TypeId} {x : Operand} {f : Nat} (ho : o.op = .fieldAddr t x f) (hρ : ∀ x, VR ι (ρ x) (ρ' x)) (he : Emb P ι s.h.get w) (h : ZgT P ρ t x f s = some (v, s')) :
  s' = s ∧ Res P ((execOp ρ' o).run P w) s ι w v s' := by
 unfold ZgT at h;split at h
 ·rename_i fs k o' hu hx
  split at h
  ·rename_i fd hfd
   split at h
   ·rename_i i hi
    cases hz : Nat.beq i.size 0 with
    | true => rw [hz] at h; simp at h
    | false =>
     rw [hz] at h;simp only [cond_false, Option.some.injEq, Prod.mk.injEq] at h;obtain ⟨rfl, rfl⟩ := h;obtain ⟨b, hb, hx'⟩ := (hx ▸ hρ x).ptr_inv;have hz' : ¬ i.size = 0 := fun e => by rw [e] at hz; simp at hz
     refine ⟨rfl, Res.same he (v' := .pointer (some ⟨b.1, o' + fd.offset, none⟩)) ?_ (.ptr hb)⟩;have hadd : (⟨b.1, o', none⟩ : Addr).add fd.offset = ⟨b.1, o' + fd.offset, none⟩ := by
      unfold Addr.add; split
      ·rename_i h0; rw [h0]; rfl
      ·rfl
     simp [execOp, ho, Instr.fieldAt, run_underlying hu, hfd, hx', Instr.sureAddr, fieldPlace, sizeOf, typeInfo, hi, hz', Result.andThen, Sem.run, hadd]
   ·cases h
  ·cases h
 ·rename_i fs id o' z hu hx
  split at h
  ·rename_i fd hfd
   split at h
   ·rename_i i hi
    cases hz : Nat.beq i.size 0 with
    | true => rw [hz] at h; simp at h
    | false =>
     rw [hz] at h;simp only [cond_false, Option.some.injEq, Prod.mk.injEq] at h;obtain ⟨rfl, rfl⟩ := h;obtain ⟨b, base, q, hb, hx'⟩ := (hx ▸ hρ x).mptr_inv;have hz' : ¬ i.size = 0 := fun e => by rw [e] at hz; simp at hz
     refine ⟨rfl, Res.same he (v' := .pointer (some ⟨b, base + (o' + fd.offset), none⟩)) ?_ (.mptr hb)⟩;have hadd : (⟨b, base + o', none⟩ : Addr).add fd.offset = ⟨b, base + (o' + fd.offset), none⟩ := by
      unfold Addr.add; split
      ·rename_i h0; rw [h0]; rfl
      ·simp [Nat.add_assoc]
     simp [execOp, ho, Instr.fieldAt, run_underlying hu, hfd, hx', Instr.sureAddr, fieldPlace, sizeOf, typeInfo, hi, hz', Result.andThen, Sem.run, hadd]
   ·cases h
  ·cases h
 ·cases h
theorem Zgc {t : TypeId} {cs cs' : Array Value} {o : Nat} (hs : cs.size = cs'.size) (hc : ∀ (i : Nat) x y, cs[i]? = some x → cs'[i]? = some y → VR ι x y) (h : ZgS P t cs o = some v) : ∃ v', (part t cs' o).run P w = .ok v' w ∧ VR ι v v' := by
 unfold ZgS at h;split at h
 ·rename_i m hsh
  injection h with h;subst h
  obtain ⟨hA, i, hi, him⟩ := Zga (w := w) hsh;subst him;refine ⟨.agg (cs'.extract o (o + i.size)), by simp [part, hA, Result.andThen, sizeOf, typeInfo, hi, Sem.run], .agg (by simp [hs]) fun j x y hx hy => ?_⟩;rw [Array.getElem?_extract] at hx hy;split at hx
  ·split at hy
   ·exact hc _ x y hx hy
   ·cases hy
  ·cases hx
 ·rename_i m hsh
  obtain ⟨hA, _⟩ := Zga (w := w) hsh;have hlt : o < cs'.size := by rw [← hs]; exact (Array.getElem?_eq_some_iff.1 h).1
  refine ⟨cs'[o], by simp [part, hA, Result.andThen, Sem.run, Array.getElem?_eq_getElem hlt], hc o v _ h (Array.getElem?_eq_getElem hlt)⟩
 ·cases h
theorem Z0l {o : Oper} {t : TypeId} {x : Operand} {f : Nat} (ho : o.op = .field t x f) (hρ : ∀ x, VR ι (ρ x) (ρ' x)) (he : Emb P ι s.h.get w) (h : ZlZ P ρ t x f s = some (v, s')) :
  s' = s ∧ Res P ((execOp ρ' o).run P w) s ι w v s' := by
 unfold ZlZ at h;split at h
 ·rename_i fs cs hu hx
  split at h
  ·rename_i fd hfd
   split at h
   ·rename_i u hp
    injection h with h;injection h with h1 h2
    subst h1 h2;obtain ⟨cs', hx', hs, hc⟩ := (hx ▸ hρ x).agg_inv;obtain ⟨v', hrun, hv⟩ := Zgc (w := w) hs hc hp;refine ⟨rfl, Res.same he (v' := v') ?_ hv⟩;simp [execOp, ho, Instr.field, run_underlying hu, hfd, hx', asAgg, hrun, Result.andThen, Sem.run]
   ·cases h
  ·cases h
 ·cases h
theorem Z0m {o : Oper} {t : TypeId} {x ix : Operand} (ho : o.op = .index t x ix) (hρ : ∀ x, VR ι (ρ x) (ρ' x)) (he : Emb P ι s.h.get w) (h : Zma P ρ t x ix s = some (v, s')) :
  s' = s ∧ Res P ((execOp ρ' o).run P w) s ι w v s' := by
 simp [Zma] at h
theorem ZfO {o : Oper} {t : TypeId} {x ix : Operand} (ho : o.op = .indexAddr t x ix) (hρ : ∀ x, VR ι (ρ x) (ρ' x)) (he : Emb P ι s.h.get w) (h : ZdX P ρ t x ix s = some (v, s')) :
  s' = s ∧ Res P ((execOp ρ' o).run P w) s ι w v s' := by
 have hadd : ∀ (b o' n : Nat), (⟨b, o', none⟩ : Addr).add n = ⟨b, o' + n, none⟩ := fun b o' n => by
  unfold Addr.add; split
  ·rename_i h0; rw [h0]; rfl
  ·rfl
 unfold ZdX at h;split at h
 ·rename_i e k o' n c i hu hx hi
  split at h
  ·rename_i ie hie
   obtain ⟨hlt, h⟩ := Zl h;injection h with h
   injection h with h1 h2;subst h1 h2
   obtain ⟨kk, hix⟩ := Zgb hi (hρ ix);have hlt' : i < n := by simpa [Nat.blt_eq] using hlt
   have hv := hx ▸ hρ x;generalize hx' : ρ' x = x' at hv;cases hv with
   | atom h => simp [Ev.atom] at h
   | slice hb hn hc hq =>
    rename_i b c';refine ⟨rfl, Res.same he (v' := .pointer (some ⟨b.1, o' + i * ie.size, none⟩)) ?_ (.ptr hb)⟩;simp [execOp, ho, Instr.indexAt, run_underlying hu, hx', hix, asIntOf, hlt', sizeOf, typeInfo, hie, Result.andThen, Sem.run, hadd]
   | slice0 => omega
  ·cases h
 ·rename_i n e k o' i hu hx hi
  split at h
  ·rename_i ie hie
   obtain ⟨hlt, h⟩ := Zl h;injection h with h
   injection h with h1 h2;subst h1 h2
   obtain ⟨kk, hix⟩ := Zgb hi (hρ ix);have hlt' : i < n := by simpa [Nat.blt_eq] using hlt
   obtain ⟨b, hb, hx'⟩ := (hx ▸ hρ x).ptr_inv;refine ⟨rfl, Res.same he (v' := .pointer (some ⟨b.1, o' + i * ie.size, none⟩)) ?_ (.ptr hb)⟩;simp [execOp, ho, Instr.indexAt, run_underlying hu, hx', hix, asIntOf, Instr.sureAddr, hlt', sizeOf, typeInfo, hie, Result.andThen, Sem.run, hadd]
  ·cases h
 ·rename_i e id o' z n c i hu hx hi
  split at h
  ·rename_i ie hie
   obtain ⟨hlt, h⟩ := Zl h;injection h with h
   injection h with h1 h2;subst h1 h2
   obtain ⟨kk, hix⟩ := Zgb hi (hρ ix);have hlt' : i < n := by simpa [Nat.blt_eq] using hlt
   have hv := hx ▸ hρ x;generalize hx' : ρ' x = x' at hv;cases hv with
   | atom h => simp [Ev.atom] at h
   | mslice hb hn hc =>
    rename_i b base c' q;refine ⟨rfl, Res.same he (v' := .pointer (some ⟨b, base + (o' + i * ie.size), none⟩)) ?_ (.mptr hb)⟩;simp [execOp, ho, Instr.indexAt, run_underlying hu, hx', hix, asIntOf, hlt', sizeOf, typeInfo, hie, Result.andThen, Sem.run, hadd, Nat.add_assoc]
   | slice0 => omega
  ·cases h
 ·cases h
theorem ZxK {s s1 : St} {a : Option Nat} (h : s.nextX = (a, s1)) : s1.h = s.h ∧ s1.n = s.n ∧ s1.ob = s.ob ∧ s1.wr = s.wr := by unfold St.nextX at h;split at h <;> (injection h with h1 h2; subst h1 h2; exact ⟨rfl, rfl, rfl, rfl⟩)
theorem ZxL {s s1 : St} {a : Option (List Cell)} (h : s.nextL = (a, s1)) : s1.h = s.h ∧ s1.n = s.n ∧ s1.ob = s.ob ∧ s1.wr = s.wr := by unfold St.nextL at h;split at h <;> (injection h with h1 h2; subst h1 h2; exact ⟨rfl, rfl, rfl, rfl⟩)
theorem ZeV {v : Value} {n : Nat} (h : ZcW v n = true) : ZmV v = some n := by
 unfold ZcW at h;split at h
 ·rename_i k b
  have := beq_iff_eq.1 h;subst this;rfl
 ·cases h
theorem Zr6 {o : Oper} {t : TypeId} {x ix : Operand} {i : Nat} (ho : o.op = .indexAddr t x ix) (hρ : ∀ x, VR ι (ρ x) (ρ' x)) (he : Emb P ι s.h.get w) (hob : ∀ p ∈ s'.ob, p.1 = p.2) (h : ZfZ P ρ t x ix i s = some (v, s')) :
  Res P ((execOp ρ' o).run P w) s ι w v s' := by
 unfold ZfZ at h;split at h
 ·rename_i e k o' n c hu hx
  split at h
  ·rename_i ie hie
   injection h with h;injection h with h1 h2
   subst h1 h2;have q1 : Nat.blt i n = true := hob (Nat.blt i n, true) (by simp [St.told]);have q2 : ZcW (ρ ix) i = true := hob (ZcW (ρ ix) i, true) (by simp [St.told]);have hi := ZeV q2;exact (ZfO (s := s) (s' := s) (v := .pointer (some ⟨k, o' + i * ie.size, none⟩)) ho hρ he (by unfold ZdX; rw [hu, hx, hi]; simp [hie, q1])).2
  ·cases h
 ·rename_i n e k o' hu hx
  split at h
  ·rename_i ie hie
   injection h with h;injection h with h1 h2
   subst h1 h2;have q1 : Nat.blt i n = true := hob (Nat.blt i n, true) (by simp [St.told]);have q2 : ZcW (ρ ix) i = true := hob (ZcW (ρ ix) i, true) (by simp [St.told]);have hi := ZeV q2;exact (ZfO (s := s) (s' := s) (v := .pointer (some ⟨k, o' + i * ie.size, none⟩)) ho hρ he (by unfold ZdX; rw [hu, hx, hi]; simp [hie, q1])).2
  ·cases h
 ·rename_i e id o' z n c hu hx
  split at h
  ·rename_i ie hie
   injection h with h;injection h with h1 h2
   subst h1 h2;have q1 : Nat.blt i n = true := hob (Nat.blt i n, true) (by simp [St.told]);have q2 : ZcW (ρ ix) i = true := hob (ZcW (ρ ix) i, true) (by simp [St.told]);have hi := ZeV q2;exact (ZfO (s := s) (s' := s) (v := .pointer (some ⟨id, o' + i * ie.size, some z⟩)) ho hρ he (by unfold ZdX; rw [hu, hx, hi]; simp [hie, q1])).2
  ·cases h
 ·cases h
theorem Zao {p : Prop} : dP p = true ↔ p := by unfold dP; exact @decide_eq_true_iff p (Classical.propDecidable p)
theorem Zn {p : Prop} (h : p) : dP p = true := Zao.2 h
def CellsAs (c : List Value) (l : List Cell) : Prop := c.length = l.length ∧ ∀ (i : Nat) x b, c[i]? = some x → l[i]? = some b → (x = ZdP b ∧ b ≠ .any) ∨ (b = .any ∧ x.oneCell' = true)
theorem CellsAs.cons {x : Value} {b : Cell} {c : List Value} {l : List Cell} (h : (x = ZdP b ∧ b ≠ .any) ∨ (b = .any ∧ x.oneCell' = true)) (t : CellsAs c l) : CellsAs (x :: c) (b :: l) := by
 refine ⟨by simp [t.1], fun i y d hy hd => ?_⟩;cases i with
 | zero => simp at hy hd; subst hy hd; exact h
 | succ i => exact t.2 i y d (by simpa using hy) (by simpa using hd)
theorem Zfu : ∀ {c : List Value} {l : List Cell}, ZdD c l = true → CellsAs c l
 | [], [], _ => ⟨rfl, fun i x b hx => by simp at hx⟩
 | [], _ :: _, h => by simp [ZdD] at h
 | v :: r, [], h => by cases v <;> simp [ZdD] at h
 | v :: r, b :: l, h => by
  unfold ZdD at h;split at h
  ·cases ‹_ :: _ = []›
  ·rename_i a r' b' l' h1 h2
   injection h1 with h1 h3;injection h2 with h2 h4
   subst h1 h2 h3 h4;simp only [Bool.and_eq_true, beq_iff_eq] at h;obtain ⟨rfl, h⟩ := h;exact (Zfu h).cons (.inl ⟨rfl, by simp⟩)
  ·rename_i a r' b' l' h1 h2
   injection h1 with h1 h3;injection h2 with h2 h4
   subst h1 h2 h3 h4;simp only [Bool.and_eq_true, beq_iff_eq] at h;obtain ⟨rfl, h⟩ := h;exact (Zfu h).cons (.inl ⟨rfl, by simp⟩)
  ·rename_i k a r' k' b' l' h1 h2
   injection h1 with h1 h3;injection h2 with h2 h4
   subst h1 h2 h3 h4;simp only [Bool.and_eq_true, beq_iff_eq, decide_eq_true_eq] at h;obtain ⟨⟨rfl, rfl⟩, h⟩ := h;exact (Zfu h).cons (.inl ⟨rfl, by simp⟩)
  ·rename_i a r' b' l' h1 h2
   injection h1 with h1 h3;injection h2 with h2 h4
   subst h1 h2 h3 h4;simp only [Bool.and_eq_true, Zao] at h;obtain ⟨rfl, h⟩ := h;exact (Zfu h).cons (.inl ⟨rfl, by simp⟩)
  ·rename_i v' r' l' h1 h2
   injection h1 with h1 h3;injection h2 with h2 h4
   subst h1 h2 h3 h4;simp only [Bool.and_eq_true, Zao] at h;exact (Zfu h.2).cons (.inr ⟨rfl, h.1⟩)
  ·rename_i v' r' id o n c l' h1 h2
   injection h1 with h1 h3;injection h2 with h2 h4
   subst h1 h2 h3 h4;simp only [Bool.and_eq_true, Zao] at h;obtain ⟨rfl, h⟩ := h;exact (Zfu h).cons (.inl ⟨rfl, by simp⟩)
  ·cases h
theorem ZsL {r : Option (List Value)} {l : List Cell} (h : ZdQ r l = true) : ∃ c, r = some c ∧ CellsAs c l := by
 unfold ZdQ at h;split at h
 ·exact ⟨_, rfl, Zfu h⟩
 ·cases h
theorem VR.one {v v' : Value} (h : VR ι v v') (h1 : v.oneCell' = true) : v'.oneCell' = true := by
 cases h with
 | atom h => exact h1
 | glob h => exact h
 | ptr h => rfl
 | map h => rfl
 | slice h => rfl
 | slice0 => rfl
 | mptr h => rfl
 | mslice h => rfl
 | func hs => rfl
 | agg hs h => cases h1
 | tuple hs h => first | rfl | cases h1
theorem Z10 {x y : Value} {b : Cell} (h : (x = ZdP b ∧ b ≠ .any) ∨ (b = .any ∧ x.oneCell' = true)) (hv : VR ι x y) : VR ι (ZdP b) y := by
 rcases h with ⟨rfl, _⟩ | ⟨rfl, h⟩
 ·exact hv
 ·exact .glob (hv.one h)
theorem Z4e {c : List Value} {l : List Cell} (h : CellsAs c l) {y : Value} (hv : VR ι (.agg c.toArray) y) : VR ι (.agg (Zm l).toArray) y := by
 cases hv with
 | atom h => simp [Ev.atom] at h
 | agg hs hp =>
  refine .agg (by rw [← hs]; simp [Zm, h.1]) fun i x z hx hz => ?_;have hi : i < c.length := by have := (Array.getElem?_eq_some_iff.1 hz).1;have e : c.length = _ := hs;omega
  have hx' : (Zm l)[i]? = some x := by simpa using hx
  unfold Zm at hx';rw [List.getElem?_map] at hx';cases hb : l[i]? with
  | none => rw [hb] at hx'; cases hx'
  | some b =>
   rw [hb] at hx';injection hx' with hx'
   subst hx';exact Z10 (h.2 i c[i] b (List.getElem?_eq_getElem hi) hb) (hp i c[i] z (by simp [hi]) hz)
theorem Res.behind' {r : Result Next} {s1 s2 : St} (h : Res P r s ι w v s1) (h1 : s2.h = s1.h) (h2 : s2.n = s1.n) : Res P r s ι w v s2 := by obtain ⟨nx, w', ι', v', a, b, c, d, e⟩ := h;exact ⟨nx, w', ι', v', a, b, h1 ▸ c, h2 ▸ d, e⟩
theorem Res.weak {r : Result Next} {u : Value} (h : Res P r s ι w v s') (hu : ∀ ι v', VR ι v v' → VR ι u v') : Res P r s ι w u s' := by obtain ⟨nx, w', ι', v', a, b, c, d, e⟩ := h;exact ⟨nx, w', ι', v', a, b, c, d, hu ι' v' e⟩
theorem Z2g {k o m : Nat} {c : List Value} {t : TypeId} {q0 : Bool} (h : s.h.get k = some (.cells c t q0)) : ZmW s k o m = rowAt s k o m := by unfold ZmW rowAt;rw [h]
theorem ZxM {b o m : Nat} {C : Array Value} {t : TypeId} {fr : Nat × Nat} {l : List Value} (hB : w.heap[b]? = some (.cells C t fr)) (h : Z4 m (C.toList.drop o) = some l) : l.length = m ∧ ∀ (j : Nat) u, l[j]? = some u → w.cell? ((⟨b, o, none⟩ : Addr).add j) = some u := by
 obtain ⟨rfl, hl⟩ := Ze2 h;refine ⟨by simp at hl ⊢; omega, fun j u hu => ?_⟩;have hc : w.cell? ((⟨b, o, none⟩ : Addr).add j) = C[o + j]? := by
  unfold Addr.add;split
  ·rename_i h; subst h; exact cell_of_row w b o C t fr hB
  ·exact cell_of_row w b (o + j) C t fr hB
 have hj : j < m := by have := (List.getElem?_eq_some_iff.1 hu).1;simp at this; omega
 rw [List.getElem?_take_of_lt hj, List.getElem?_drop] at hu;rw [hc];simpa using hu
theorem Zv4 {id b base q o m : Nat} {q' : Nat × Nat} {l : List Cell} (he : Emb P ι s.h.get w) (hm : ι (ZO b base id) = some q') (hg : ZS id o m = some l) :
  ∃ cs : List Value, cs.length = m ∧ l.length = m ∧ (∀ j u, cs[j]? = some u → w.cell? ((⟨b, base + o, none⟩ : Addr).add j) = some u) ∧ ∀ (j : Nat) x y, (Zm l)[j]? = some x → cs[j]? = some y → VR ι x y := by
 obtain ⟨_, ⟨⟨c, C, t, fr, h1, h2, h3, h4, _⟩, _⟩, _⟩ := he.mks b base id q' hm;unfold ZS at hg;rw [h1] at hg;obtain ⟨rfl, hl⟩ := Ze2 hg;have hl' : m ≤ c.length - o := by simpa using hl
 have hk : Z4 m (C.toList.drop (base + o)) = some ((C.toList.drop (base + o)).take m) := by
  have : ∀ (m : Nat) (l : List Value), m ≤ l.length → Z4 m l = some (l.take m) := by
   intro m
   induction m with
   | zero => intro l _; simp [Z4]
   | succ m ih =>
    intro l hl;cases l with
    | nil => simp at hl
    | cons x l =>
     simp only [Z4];rw [ih l (by simpa using hl)];rfl
  refine this m _ ?_;rcases Nat.eq_zero_or_pos m with rfl | hm0
  ·exact Nat.zero_le _
  ·have := h3 (by omega)
   simp only [List.length_drop, Array.length_toList]; omega
 obtain ⟨q1, q2⟩ := ZxM (w := w) h2 hk;refine ⟨_, q1, by simp; omega, q2, fun j x y hx hy => ?_⟩;have hj : j < m := by have := (List.getElem?_eq_some_iff.1 hy).1; omega
 rw [List.getElem?_take_of_lt hj, List.getElem?_drop, Array.getElem?_toList] at hy;unfold Zm at hx;rw [List.getElem?_map, List.getElem?_take_of_lt hj, List.getElem?_drop] at hx;refine h4 (o + j) x y (by unfold Zm; rw [List.getElem?_map]; exact hx) ?_;rw [← Nat.add_assoc]; exact hy
theorem Zo8 {id b base o m : Nat} {q' : Nat × Nat} {q : Bool} {t : TypeId} {l : List Cell} (he : Emb P ι s.h.get w) (hm : ι (ZO b base id) = some q') (hs : Zje P t = some (q, m)) (hg : ZS id o (if q then m else 1) = some l) :
  ∃ v', (loadVar t ⟨b, base + o, none⟩).run P w = .ok v' w ∧ VR ι (if q then .agg (Zm l).toArray else (Zm l).headD undef) v' := by
 obtain ⟨cs, h1, h2, h3, h4⟩ := Zv4 (q := 0) he hm hg;obtain ⟨hA, i, hi, him⟩ := Zga (w := w) hs;cases q with
 | true =>
  simp only [if_true] at h1 h2 ⊢;have := run_loadCells_list (P := P) w ⟨b, base + o, none⟩ cs h3;rw [h1] at this;subst him;refine ⟨.agg cs.toArray, by simp [loadVar, hA, Result.andThen, sizeOf, typeInfo, hi, this], .agg (by simp [Zm]; omega) fun j x y hx hy => h4 j x y (by simpa using hx) (by simpa using hy)⟩
 | false =>
  simp only [Bool.false_eq_true, if_false] at h1 h2 ⊢;have h0 : cs[0]? = some cs[0] := List.getElem?_eq_getElem (by omega);have := h3 0 _ h0;simp only [Addr.add, if_true] at this;refine ⟨cs[0], by simp [loadVar, hA, Result.andThen, load, Sem.run, this], h4 0 _ _ ?_ h0⟩;cases l with
  | nil => cases h2
  | cons x l => rfl
theorem Z6b {c : List Value} {x : Cell} (h : CellsAs c [x]) : ∃ y, c = [y] ∧ ((y = ZdP x ∧ x ≠ .any) ∨ (x = .any ∧ y.oneCell' = true)) := by
 obtain ⟨h1, h2⟩ := h;rcases c with _ | ⟨y, _ | ⟨z, c⟩⟩
 ·cases h1
 ·exact ⟨y, rfl, h2 0 y x rfl rfl⟩
 ·simp at h1
theorem Z0n {o : Oper} {t : TypeId} {a : Operand} {l : List Cell} (ho : o.op = .load t a) (hρ : VR ι (ρ a) (ρ' a)) (he : Emb P ι s.h.get w) (hob : ∀ p ∈ s'.ob, p.1 = p.2) (h : Zmb P ρ t a l s = some (v, s')) :
  Res P ((execOp ρ' o).run P w) s ι w v s' := by
 unfold Zmb at h;split at h
 ·rename_i k o' ha
  have key : ∀ {q : Bool} {m : Nat} {c : List Value}, Zje P t = some (q, m) → ZmW s k o' (if q then m else 1) = some c → CellsAs c l → (q = false → ∃ x, l = [x]) → Res P ((execOp ρ' o).run P w) s ι w (if q then .agg (Zm l).toArray else (Zm l).headD undef) s := fun {q m c} hm hq hc hx => by
   cases hk : s.h.get k with
   | none => unfold ZmW at hq; rw [hk] at hq; cases hq
   | some ob =>
    cases ob with
    | cells c0 tc =>
     rw [Z2g hk] at hq;cases q with
     | true => exact (Znd (s := s) (v := .agg c.toArray) ho ha hρ he (by unfold Zkh; rw [hm]; simp only [if_true] at hq ⊢; rw [hq])).weak fun ι v' hv => Z4e hc hv
     | false =>
      obtain ⟨x, rfl⟩ := hx rfl;obtain ⟨y, rfl, hy⟩ := Z6b hc;exact (Znd (s := s) (v := y) ho ha hρ he (by unfold Zkh; rw [hm]; simp only [Bool.false_eq_true, if_false] at hq ⊢; rw [hq])).weak fun ι v' hv => Z10 hy hv
    | ro O m1 => unfold ZmW at hq; rw [hk] at hq; cases hq
  split at h
  ·rename_i m hm
   injection h with h;injection h with h1 h2
   subst h1 h2;obtain ⟨c, q, hc⟩ := ZsL (hob (ZdQ (ZmW s k o' m) l, true) (by simp [St.told]));exact key (q := true) hm (by simpa using q) hc (fun h => by cases h)
  ·rename_i m hm
   split at h
   ·rename_i x
    injection h with h;injection h with h1 h2
    subst h1 h2;obtain ⟨c, q, hc⟩ := ZsL (hob (ZdQ (ZmW s k o' 1) [x], true) (by simp [St.told]));exact key (q := false) hm (by simpa using q) hc (fun _ => ⟨x, rfl⟩)
   ·cases h
  ·cases h
 ·rename_i id o' z ha
  obtain ⟨b, base, q', hb, ha'⟩ := (ha ▸ hρ).mptr_inv;split at h
  ·rename_i m hm
   injection h with h;injection h with h1 h2
   subst h1 h2;have hg := Zao.1 (hob (dP (ZS id o' m = some l), true) (by simp [St.told]));obtain ⟨v', hrun, hv⟩ := Zo8 (q := true) he hb hm (by simpa using hg);refine Res.behind' (Res.same he (v' := v') ?_ hv) rfl rfl;simp [execOp, ho, Instr.loadAt, ha', Instr.sureAddr, hrun, Result.andThen, Sem.run]
  ·rename_i m hm
   split at h
   ·rename_i x
    injection h with h;injection h with h1 h2
    subst h1 h2;have hg := Zao.1 (hob (dP (ZS id o' 1 = some [x]), true) (by simp [St.told]));obtain ⟨v', hrun, hv⟩ := Zo8 (q := false) he hb hm (by simpa using hg);refine Res.behind' (Res.same he (v' := v') ?_ hv) rfl rfl;simp [execOp, ho, Instr.loadAt, ha', Instr.sureAddr, hrun, Result.andThen, Sem.run]
   ·cases h
  ·cases h
 ·cases h
end
section
variable {P : Program} {ι : Ren} {w : World} {ρ ρ' : Operand → Value} {s s' : St} {v : Value}

/-! ### Rows that are filled -/
def PW (ι : Ren) (a a' : Array Value) : Prop := a.size = a'.size ∧ ∀ (i : Nat) x y, a[i]? = some x → a'[i]? = some y → VR ι x y
theorem PW.set {a a' : Array Value} (h : PW ι a a') (k : Nat) {x x' : Value} (hx : VR ι x x') : PW ι (a.setIfInBounds k x) (a'.setIfInBounds k x') := by
 refine ⟨by simp [h.1], fun i u u' hu hu' => ?_⟩;by_cases hk : k = i
 ·subst hk
  rw [Array.getElem?_setIfInBounds_self] at hu hu';split at hu
  ·split at hu'
   ·injection hu with hu; injection hu' with hu'; subst hu hu'; exact hx
   ·cases hu'
  ·cases hu
 ·rw [Array.getElem?_setIfInBounds_ne hk] at hu hu'
  exact h.2 i u u' hu hu'
theorem Zv5 (off : Nat) : ∀ (l l' : List Value) (n : Nat) (a a' : Array Value), l.length = l'.length → (∀ (i : Nat) x y, l[i]? = some x → l'[i]? = some y → VR ι x y) → PW ι a a' →
  PW ι ((l.zipIdx n).foldl (fun cs (c, j) => cs.setIfInBounds (off + j) c) a) ((l'.zipIdx n).foldl (fun cs (c, j) => cs.setIfInBounds (off + j) c) a')
 | [], l', n, a, a', hl, _, h => by have : l' = [] := List.eq_nil_of_length_eq_zero hl.symm;subst this;exact h
 | x :: l, [], n, a, a', hl, _, h => by simp at hl
 | x :: l, y :: l', n, a, a', hl, hv, h => by simp only [List.zipIdx_cons, List.foldl_cons];exact Zv5 off l l' (n + 1) _ _ (by simpa using hl) (fun i u u' hu hu' => hv (i + 1) u u' (by simpa using hu) (by simpa using hu')) (h.set _ (hv 0 x y rfl rfl))
theorem ZjW (place : Nat → Option (Nat × Nat)) (hρ : ∀ x, VR ι (ρ x) (ρ' x)) : ∀ (ps : List (Nat × Operand)) (a a' r : Array Value), PW ι a a' → Instr.fill place a (ps.map fun p => (p.1, ρ p.2)) = some r →
  ∃ r', Instr.fill place a' (ps.map fun p => (p.1, ρ' p.2)) = some r' ∧ PW ι r r'
 | [], a, a', r, h, hf => by simp only [List.map_nil, Instr.fill, Option.some.injEq] at hf ⊢;subst hf;exact ⟨a', rfl, h⟩
 | p :: ps, a, a', r, h, hf => by
  simp only [List.map_cons, Instr.fill] at hf ⊢;obtain ⟨hc1, hc2⟩ := (hρ p.2).cells;cases hp : place p.1 with
  | none => rw [hp] at hf; cases hf
  | some q =>
   obtain ⟨off, size⟩ := q;rw [hp] at hf;simp only [] at hf ⊢;rw [← hc1, ← h.1];split at hf
   ·cases hf
   ·rename_i hg
    rw [if_neg hg];refine ZjW place hρ ps _ _ r ?_ hf;have := Zv5 (ι := ι) off (ρ p.2).cells.toList (ρ' p.2).cells.toList 0 a a' (by simpa using hc1) (fun i x y hx hy => hc2.2 i x y hx (by simpa using hy)) h;rw [← Array.foldl_toList, ← Array.foldl_toList];simpa using this
theorem PW.of_atoms {a : Array Value} (h : Zu atom a.toList = true) : PW ι a a := ⟨rfl, fun i x y hx hy => by rw [hx] at hy; injection hy with hy; subst hy; exact .atom (Zbi h i x hx)⟩
theorem Z0o (hρ : ∀ x, VR ι (ρ x) (ρ' x)) {t : TypeId} {ps : List (Nat × Operand)} {z : List Value} {r : Array Value} (hz : ZgY P t = some z) (h : P.built t (ps.map fun p => (p.1, ρ p.2)) = some r) :
  ∃ r', P.built t (ps.map fun p => (p.1, ρ' p.2)) = some r' ∧ PW ι r r' := by
 obtain ⟨i, u, hi, hu, rfl, ha⟩ := ZhH hz;unfold Program.built at h ⊢;split at h
 ·rename_i it n e hit hun
  rw [hi] at hit; injection hit with hit; subst hit
  simp only [hi, hun, hu] at h ⊢;split at h
  ·rename_i z2 ie hz2 hie
   injection hz2 with hz2; subst hz2
   try simp only [hie]
   exact ZjW _ hρ ps _ _ r (PW.of_atoms ha) h
  ·cases h
 ·rename_i it fs hit hun
  rw [hi] at hit; injection hit with hit; subst hit
  simp only [hi, hun, hu] at h ⊢;split at h
  ·rename_i z2 places hz2 hpl
   injection hz2 with hz2; subst hz2
   try simp only [hpl]
   exact ZjW _ hρ ps _ _ r (PW.of_atoms ha) h
  ·cases h
 ·cases h
theorem Zv6 (ps : Array (Nat × Operand)) : (ps.map fun (i, x) => (i, ρ' x)).toList = ps.toList.map fun p => (p.1, ρ' p.2) := by simp
theorem Z0p {o : Oper} {t : TypeId} {ps : Array (Nat × Operand)} (ho : o.op = .build t ps) (hρ : ∀ x, VR ι (ρ x) (ρ' x)) (he : Emb P ι s.h.get w) (h : ZlW P ρ t ps s = some (v, s')) :
  s' = s ∧ Res P ((execOp ρ' o).run P w) s ι w v s' := by
 unfold ZlW at h;split at h
 ·rename_i z cs hz hb
  injection h with h;injection h with h1 h2
  subst h1 h2;obtain ⟨r', hr, hpw⟩ := Z0o hρ hz hb;refine ⟨rfl, Res.same he (v' := .agg r') ?_ (.agg hpw.1 hpw.2)⟩;have := run_build (P := P) w t (ps.map fun (i, x) => (i, ρ' x)) r' (by rw [Zv6]; exact hr);simp [execOp, ho, this, Result.andThen, Sem.run]
 ·cases h
theorem ZxN {z : Array Value} (ha : Zu atom z.toList = true) (hz : 0 < z.size) (n : Nat) : PW ι (rep z.toList n).toArray ((Array.range n).map (z[· % z.size]!)) := by
 refine ⟨by simp [rep], fun i x y hx hy => ?_⟩;have hi : i < n := by have := (Array.getElem?_eq_some_iff.1 hy).1; simpa using this
 have hm : i % z.size < z.size := Nat.mod_lt _ hz;simp only [rep, List.getElem?_toArray, List.getElem?_map, List.getElem?_range hi, Option.map_some, Option.some.injEq] at hx;simp only [Array.getElem?_map, Array.getElem?_range, hi, if_true, Option.map_some, Option.some.injEq] at hy;have e1 : x = z[i % z.size] := by rw [← hx]; simp [List.getD, hm]
 have e2 : y = z[i % z.size] := by rw [← hy]; simp [hm]
 subst e1 e2;exact .atom (Zbi ha _ _ (Array.getElem?_eq_getElem hm))
theorem Zr7 {o : Oper} {t n : Nat} {ps : Array (Nat × Operand)} (ho : o.op = .buildSlice t n ps) (hρ : ∀ x, VR ι (ρ x) (ρ' x)) (he : Emb P ι s.h.get w) (hf : Fresh ι s.n s'.n) (h : ZfY P ρ t n ps s = some (v, s')) :
  Res P ((execOp ρ' o).run P w) s ι w v s' := by
 unfold ZfY at h;split at h
 ·rename_i e hu
  split at h
  ·rename_i i z hi hz
   cases hn0 : (Nat.beq n 0 && ps.isEmpty) with
   | true =>
   rw [hn0] at h;simp only [Bool.and_eq_true] at hn0;have hn := Nat.eq_of_beq_eq_true hn0.1;have hps : ps = #[] := by simpa using hn0.2
   subst hn hps;injection h with h
   injection h with h3 h4;subst h3 h4
   obtain ⟨g1, g2⟩ := Zkw he hf e (c := []) (C := #[]) ⟨by simp, fun j x y hx => by simp at hx⟩ 0 (by simp);refine ⟨.value (.slice (some ⟨w.heap.size, 0, none⟩) 0 0), _, _, _, ?_, .inl rfl, g1, g2, .slice (b := (w.heap.size, 0)) Zk (Nat.le_refl _) (Nat.le_refl _) (fun _ => .inl (Nat.le_refl _))⟩;simp [execOp, ho, Instr.buildSlice, run_underlying hu, sizeOf, typeInfo, hi, Instr.fill, newRow, newObj, Result.andThen, Sem.run];congr 2;apply Array.ext';simp
   | false =>
   rw [hn0] at h;simp only [cond_false] at h;obtain ⟨hg, h⟩ := Zl h;simp only [Bool.and_eq_true] at hg;have h1 : n * i.size ≤ 100000 := Nat.le_of_ble_eq_true hg.1.1;have h2 : 0 < n * i.size := by simpa [Nat.blt_eq] using hg.1.2
   split at h
   ·rename_i c hc
    injection h with h;injection h with h3 h4
    subst h3 h4;obtain ⟨i', u, hi', hu', rfl, ha⟩ := ZhH hz;rw [hi] at hi'; injection hi' with hi'; subst hi'
    have hzs : 0 < u.cells.size := by simpa [Nat.blt_eq] using hg.2
    obtain ⟨c', hc', hpw⟩ := ZjW (fun j => some (j * i.size, i.size)) hρ ps.toList _ _ c (ZxN ha hzs (n * i.size)) hc;have hrun := run_buildSlice (P := P) w t e n (ps.map fun (i, x) => (i, ρ' x)) c' i u hu hi hu' (by omega) (by omega) (by rw [Zv6]; exact hc');obtain ⟨g1, g2⟩ := Zkw he hf e (c := c.toList) (C := c') ⟨by simp [hpw.1], fun j x y hx hy => hpw.2 j x y (by simpa using hx) hy⟩ 0 (by simp);refine ⟨.value (.slice (some ⟨w.heap.size, 0, none⟩) n n), _, _, _, ?_, .inl rfl, g1, g2, .slice (b := (w.heap.size, 0)) Zk (Nat.le_refl _) (Nat.le_refl _) (fun _ => .inl (Nat.le_refl _))⟩;simp [execOp, ho, hrun, Result.andThen, Sem.run]
   ·cases h
  ·cases h
 ·cases h
theorem Z4f {a b : Nat} (h1 : a ≤ 1000) (h2 : b ≤ 300000) : (a : Int) * (b : Int) ≤ 281474976710656 := by rw [← Int.natCast_mul];exact Int.le_trans (Int.ofNat_le.2 (Nat.mul_le_mul h1 h2)) (by decide)
theorem Zlc {o : Oper} {t : TypeId} {l c : Operand} (ho : o.op = .makeSlice t l c) (hρ : ∀ x, VR ι (ρ x) (ρ' x)) (he : Emb P ι s.h.get w) (hf : Fresh ι s.n s'.n) (h : ZeP P ρ t l c s = some (v, s')) :
  Res P ((execOp ρ' o).run P w) s ι w v s' := by
 unfold ZeP at h;split at h
 ·rename_i e l' c' hu hl hc
  split at h
  ·rename_i i z hi hz
   obtain ⟨hg, h⟩ := Zl h;simp only [Bool.and_eq_true] at hg;obtain ⟨⟨⟨hg1, hg2⟩, hg3⟩, hg4⟩ := hg;have h1 : l' ≤ c' := Nat.le_of_ble_eq_true hg1;have h2 : c' ≤ 300000 := Nat.le_of_ble_eq_true hg2;have h3 : i.bytes ≤ 1000 := Nat.le_of_ble_eq_true hg3;injection h with h
   injection h with h4 h5;subst h4 h5
   obtain ⟨i', u, hi', hu', rfl, ha⟩ := ZhH hz;rw [hi] at hi'; injection hi' with hi'; subst hi'
   have hzs : 0 < u.cells.size := by simpa [Nat.blt_eq] using hg4
   obtain ⟨kl, hl'⟩ := Zgb hl (hρ l);obtain ⟨kc, hc'⟩ := Zgb hc (hρ c);have hrun := run_make (P := P) w t e i u hu hi hu' kl kc l' c' (by omega) (by omega) (Z4f h3 h2) (by omega);simp only [Int.toNat_natCast] at hrun;have hpw := ZxN (ι := ι) ha hzs (c' * i.size);obtain ⟨g1, g2⟩ := Zkw he hf e (c := rep u.cells.toList (c' * i.size)) (C := madeCells u.cells (c' * i.size)) ⟨by simp [rep, madeCells], fun j x y hx hy => hpw.2 j x y (by simpa using hx) hy⟩ 0 (by simp);refine ⟨.value (.slice (some ⟨w.heap.size, 0, none⟩) l' c'), _, _, _, ?_, .inl rfl, g1, g2, .slice (b := (w.heap.size, 0)) Zk h1 (Nat.le_refl _) (fun _ => .inl (Nat.le_refl _))⟩;simp [execOp, ho, hl', hc', hrun, Result.andThen, Sem.run]
  ·cases h
 ·cases h
theorem Zv7 {x' : Value} {k : IntKind} {n y : Nat} {code : BoundsCode} (hx : x' = .int k (n : Int)) (h : n ≤ y) : (Instr.sliceBound x' y code).run P w = .ok n w := by
 have : ((n : Int) ≤ (y : Int)) := by omega
 simp [Instr.sliceBound, hx, asIntOf, this, Result.andThen, Sem.run]
theorem Zg1 {lo hi : Option Operand} {n c l h c' : Nat} (hρ : ∀ x, VR ι (ρ x) (ρ' x)) (hl : ZgZ ρ 0 lo = some l) (hh : ZgZ ρ n hi = some h) (h1 : l ≤ h) (h2 : h ≤ c) (h3 : c ≤ c') (q : Bool) :
  (Instr.sliceBounds q n c' (lo.map ρ') (hi.map ρ') none).run P w = .ok (l, h, c') w := by
 have A : ∀ code, (match (hi.map ρ' : Option Value) with | some v => Instr.sliceBound v c' code | none => pure n : Sem Nat).run P w = .ok h w := fun code => by
  cases hi with
  | none => simp only [ZgZ, Option.some.injEq] at hh; subst hh; rfl
  | some x => obtain ⟨k, hk⟩ := Zgb hh (hρ x); exact Zv7 (code := code) hk (by omega)
 have B : ∀ code, (match (lo.map ρ' : Option Value) with | some v => Instr.sliceBound v h code | none => pure 0 : Sem Nat).run P w = .ok l w := fun code => by
  cases lo with
  | none => simp only [ZgZ, Option.some.injEq] at hl; subst hl; rfl
  | some x => obtain ⟨k, hk⟩ := Zgb hl (hρ x); exact Zv7 (code := code) hk h1
 cases hi with
 | none =>
  cases lo with
  | none => have a := A .index; have b := B .index; simp only [Option.map_none] at a b; cases a; cases b; rfl
  | some y => have a := A .index; have b := B .sliceB; simp only [Option.map_none, Option.map_some] at a b; cases a; simp [Instr.sliceBounds, b, Result.andThen, Sem.run]
 | some x =>
  cases lo with
  | none => have a := A (if q then .sliceAcap else .sliceAlen); have b := B .index; simp only [Option.map_none, Option.map_some] at a b; cases b; cases q <;> simp at a <;> simp [Instr.sliceBounds, a, Result.andThen, Sem.run]
  | some y => have a := A (if q then .sliceAcap else .sliceAlen); have b := B .sliceB; simp only [Option.map_some] at a b; cases q <;> simp at a <;> simp [Instr.sliceBounds, a, b, Result.andThen, Sem.run]
theorem ZqX {o : Oper} {t : TypeId} {x : Operand} {lo hi : Option Operand} (ho : o.op = .slice t x lo hi none) (hρ : ∀ x, VR ι (ρ x) (ρ' x)) (he : Emb P ι s.h.get w) (h : Zh3 P ρ t x lo hi s = some (v, s')) :
  s' = s ∧ Res P ((execOp ρ' o).run P w) s ι w v s' := by
 unfold Zh3 at h;split at h
 ·rename_i e k o' n c hu hx
  split at h
  ·rename_i ie l hh hi' hl hhh
   obtain ⟨hg, h⟩ := Zl h;simp only [Bool.and_eq_true] at hg;obtain ⟨⟨hg1, hg2⟩, hg3⟩ := hg;have h1 : l ≤ hh := Nat.le_of_ble_eq_true hg1;have h2 : hh ≤ c := Nat.le_of_ble_eq_true hg2;have h3 : 0 < ie.size := by simpa [Nat.blt_eq] using hg3
   injection h with h;injection h with h4 h5
   subst h4 h5;have hv := hx ▸ hρ x;generalize hx' : ρ' x = x' at hv;have hadd : ∀ (a : Addr) (m : Nat), a.spot = none → a.add m = ⟨a.block, a.off + m, none⟩ := fun a m hs => by
    unfold Addr.add; split
    ·rename_i h0; subst h0; cases a; simp at hs; subst hs; rfl
    ·rfl
   cases hv with
   | atom h => simp [Ev.atom] at h
   | slice hb hn hc hq =>
    rename_i b c';have hrun := Zg1 (P := P) (w := w) (c' := c') hρ hl hhh h1 h2 hc true;have hr : (execOp ρ' o).run P w = .ok (.value (.slice (if c' = l then some ⟨b.1, o', none⟩ else some ⟨b.1, o' + l * ie.size, none⟩) (hh - l) (c' - l))) w := by simp [execOp, ho, Instr.sliceAt, Instr.slice, run_underlying hu, hx', hrun, sizeOf, typeInfo, hi', Result.andThen, Sem.run, hadd]
    refine ⟨rfl, Res.same he hr ?_⟩;by_cases hcl : c' = l
    ·rw [if_pos hcl]
     have : c - l = 0 := by omega
     have h0 : hh - l = 0 := by omega
     have h00 : c' - l = 0 := by omega
     rw [this, h0, h00];exact .slice0 fun h => by cases h
    ·rw [if_neg hcl]
     refine .slice hb (by omega) (by omega) fun h0 => ?_;have hl0 : l * ie.size = 0 := by omega
     have hl1 : l = 0 := by
      rcases Nat.mul_eq_zero.1 hl0 with h | h
      ·exact h
      ·omega
     rcases hq (by omega) with h | h
     ·exact .inl (by omega)
     ·exact .inr (by omega)
   | slice0 hq0 =>
    rename_i a';have hl0 : l = 0 := by omega
    have hh0 : hh = 0 := by omega
    subst hl0 hh0;have hrun := Zg1 (P := P) (w := w) (c' := 0) hρ hl hhh h1 h2 (Nat.le_refl 0) true;have hr : (execOp ρ' o).run P w = .ok (.value (.slice a' 0 0)) w := by cases a' <;> simp [execOp, ho, Instr.sliceAt, Instr.slice, run_underlying hu, hx', hrun, sizeOf, typeInfo, hi', Result.andThen, Sem.run]
    refine ⟨rfl, Res.same he hr ?_⟩;simp only [Nat.sub_zero];exact .slice0 hq0
  ·cases h
 ·rename_i e hu hx
  split at h
  ·rename_i ie hi' hl hhh
   injection h with h;injection h with h4 h5
   subst h4 h5;have hx' : ρ' x = .slice none 0 0 := by have hv := hρ x;rw [hx] at hv;exact hv.eq_of_atom rfl
   have hrun := Zg1 (P := P) (w := w) (c' := 0) hρ hl hhh (Nat.le_refl 0) (Nat.le_refl 0) (Nat.le_refl 0) true;have hr : (execOp ρ' o).run P w = .ok (.value (.slice none 0 0)) w := by simp [execOp, ho, Instr.sliceAt, Instr.slice, run_underlying hu, hx', hrun, sizeOf, typeInfo, hi', Result.andThen, Sem.run]
   exact ⟨rfl, Res.same he hr (.atom rfl)⟩
  ·cases h
 ·rename_i n e k o' hu hx
  split at h
  ·rename_i ie l hh hi' hl hhh
   obtain ⟨hg, h⟩ := Zl h;simp only [Bool.and_eq_true] at hg;obtain ⟨⟨hg1, hg2⟩, hg3⟩ := hg;have h1 : l ≤ hh := Nat.le_of_ble_eq_true hg1;have h2 : hh ≤ n := Nat.le_of_ble_eq_true hg2;have h3 : 0 < ie.size := by simpa [Nat.blt_eq] using hg3
   injection h with h;injection h with h4 h5
   subst h4 h5;obtain ⟨b, hb, hx'⟩ := (hx ▸ hρ x).ptr_inv;have hadd : ∀ (a : Addr) (m : Nat), a.spot = none → a.add m = ⟨a.block, a.off + m, none⟩ := fun a m hs => by
    unfold Addr.add; split
    ·rename_i h0; subst h0; cases a; simp at hs; subst hs; rfl
    ·rfl
   have hrun := Zg1 (P := P) (w := w) (c' := n) hρ hl hhh h1 h2 (Nat.le_refl n) false;have hr : (execOp ρ' o).run P w = .ok (.value (.slice (some (if n = l then ⟨b.1, o', none⟩ else ⟨b.1, o' + l * ie.size, none⟩)) (hh - l) (n - l))) w := by simp [execOp, ho, Instr.sliceAt, Instr.sureAddr, run_underlying hu, hx', hrun, sizeOf, typeInfo, hi', Result.andThen, Sem.run, hadd]
   refine ⟨rfl, Res.same he hr ?_⟩;by_cases hcl : n = l
   ·rw [if_pos hcl]
    have h0 : hh - l = 0 := by omega
    have h00 : n - l = 0 := by omega
    rw [h0, h00];exact .slice0 fun h => by cases h
   ·rw [if_neg hcl]
    exact .slice hb (by omega) (by omega) fun h0 => .inl (by omega)
  ·cases h
 ·cases h
theorem ZxO {o : Oper} {t : TypeId} {x : Operand} {lo hi : Option Operand} (ho : o.op = .slice t x lo hi none) (hρ : ∀ x, VR ι (ρ x) (ρ' x)) (he : Emb P ι s.h.get w) (hob : ∀ p ∈ s'.ob, p.1 = p.2) (h : Zkn P ρ t x lo hi s = some (v, s')) :
  Res P ((execOp ρ' o).run P w) s ι w v s' := by
 simp [Zkn] at h
theorem ZxP {o : Oper} {t : TypeId} {x : Operand} {lo hi : Option Operand} {M : List Int} (ho : o.op = .slice t x lo hi none) (hρ : ∀ x, VR ι (ρ x) (ρ' x)) (he : Emb P ι s.h.get w) (hob : ∀ p ∈ s'.ob, p.1 = p.2) (h : Zko P ρ t x lo hi M s = some (v, s')) :
  s'.h = s.h ∧ s'.n = s.n ∧ Res P ((execOp ρ' o).run P w) s ι w v s := by
 simp [Zko] at h
theorem ZxQ {o : Oper} {t : TypeId} {x ix : Operand} {c : List Int} (ho : o.op = .index t x ix) (hρ : ∀ x, VR ι (ρ x) (ρ' x)) (he : Emb P ι s.h.get w) (hob : ∀ p ∈ s'.ob, p.1 = p.2) (h : Zkp P ρ t x ix c s = some (v, s')) :
  s'.h = s.h ∧ s'.n = s.n ∧ Res P ((execOp ρ' o).run P w) s ι w v s := by
 simp [Zkp] at h
end
section
variable {P : Program} {ι : Ren} {w : World} {ρ ρ' : Operand → Value} {s s' : St} {v : Value}

structure SrcF (P : Program) (t tx ty e : TypeId) (i : TypeInfo) (u y' : Value) (m : Nat) (news : List Value) (w : World) : Prop where
 len : news.length = m * i.size
 one : ∀ u ∈ news, u.oneCell' = true
 nothing : m = 0 → ∀ (base : Option Addr) (sLen sCap : Nat), sLen ≤ sCap → (Builtin.append_ #[t, tx] ty #[.slice base sLen sCap, y']).run P w = .ok (.slice base sLen sCap) w
 room : 0 < m → ∀ (b off sLen sCap : Nat) (w' : World), sLen + m ≤ sCap → (storeCells ⟨b, off + sLen * i.size, none⟩ news).run P w = .ok () w' →
  (Builtin.append_ #[t, tx] ty #[.slice (some ⟨b, off, none⟩) sLen sCap, y']).run P w = .ok (.slice (some ⟨b, off, none⟩) (sLen + m) sCap) w'
 grow : 0 < m → ∀ (base : Option Addr) (sLen sCap : Nat) (olds : List Value), (Builtin.firstCells i.size sLen (.slice base sLen sCap)).run P w.drew = .ok olds.toArray w.drew → sCap < sLen + m → sLen + m ≤ 200000 →
  Builtin.nextslicecap (sLen + m) sCap * i.bytes ≤ 281474976710656 → (Builtin.append_ #[t, tx] ty #[.slice base sLen sCap, y']).run P w =
   .ok (.slice (some ⟨w.heap.size, 0, none⟩) (sLen + m) (grownCap w (sLen + m) sCap e)) (w.drew.alloc (.cells ((olds ++ news).toArray ++ Builtin.zeroCells u.cells (grownCap w (sLen + m) sCap e - (sLen + m))) e))
theorem Z0q {t tx ty e : TypeId} {i : TypeInfo} (ht : P.underlying t = some (.slice e)) (hi : P.info? e = some i) {b off sLen sCap : Nat} {x : Value} {n : Nat} {news : List Value} (hs : Src P i.size tx x n news w) (hroom : sLen + n ≤ sCap) {w' : World}
  (hst : (storeCells ⟨b, off + sLen * i.size, none⟩ news).run P w = .ok () w') :
  (Builtin.append_ #[t, tx] ty #[.slice (some ⟨b, off, none⟩) sLen sCap, x]).run P w = .ok (.slice (some ⟨b, off, none⟩) (sLen + n) sCap) w' := by
 rcases hs.kind with ⟨e', hk⟩ | hk <;> simp [Builtin.append_, run_underlying ht, run_underlying hk, sizeOf, typeInfo, hi, hs.len, hroom, hs.cells, Addr.add_lit, hst]
theorem SrcF.of {t tx ty e : TypeId} {i : TypeInfo} {u y' : Value} {m : Nat} {news : List Value} (ht : P.underlying t = some (.slice e)) (hi : P.info? e = some i) (hz : i.zero = some u) (hs : Src P i.size tx y' m news w) : SrcF P t tx ty e i u y' m news w :=
 ⟨hs.newsLen, hs.one, fun hm base sLen sCap hle => (by subst hm;have : news = [] := List.eq_nil_of_length_eq_zero (by rw [hs.newsLen]; simp);subst this;exact run_append_nothing w t tx ty e i ht hi base sLen sCap hle y' hs),
  fun _ b off sLen sCap w' hr hst => Z0q ht hi hs hr hst,
  fun _ base sLen sCap olds hold hg h2 hfit => run_append_grow_src (P := P) w t tx ty e i u ht hi hz base sLen sCap olds hold y' m news hs hg (by omega) hfit⟩
theorem SrcF.zeros {t tn ty e : TypeId} {i : TypeInfo} {z : Value} {kq kn : IntKind} (ht : P.underlying t = some (.slice e)) (htn : P.underlying tn = some (.int kn)) (hi : P.info? e = some i) (hz : i.zero = some z) (hzs : z.cells.size = i.size) (h1 : ∀ u ∈ z.cells.toList, u.oneCell' = true)
  {k : Nat} (h0 : 0 < k) (hs : 0 < i.size) (hk5 : k ≤ 100000) (hb : i.bytes ≤ 1000) : SrcF P t tn ty e i z (.int kq k) k (Builtin.zeroCells z.cells k).toList w := by
 have h48 : k * i.bytes ≤ 281474976710656 := by have : k * i.bytes ≤ 100000 * 1000 := Nat.mul_le_mul hk5 hb;omega
 refine ⟨by rw [Array.length_toList, size_zeroCells, hzs], fun u hu => ?_, fun hm => by omega, fun _ b off sLen sCap w' hr hst => ?_, fun _ base sLen sCap olds hold hg h2 hfit => ?_⟩
 ·simp only [Builtin.zeroCells, Array.toList_map, List.mem_map] at hu
  obtain ⟨j, _, rfl⟩ := hu;have hm : j % z.cells.size < z.cells.size := Nat.mod_lt _ (by omega);rw [getElem!_pos z.cells (j % z.cells.size) hm];exact h1 _ (by simp)
 ·have hk : k ≠ 0 := by omega
  have hw : IntKind.i64.wrap (k : Int) = k := by rw [IntKind.wrap_i64]; omega
  have h48i : ¬ (281474976710656 < (k : Int) * (i.bytes : Int)) := by rw [← Int.natCast_mul];omega
  have hneg : ¬ ((k : Int) < 0) := by omega
  have hns : ¬ (k * i.size = 0) := Nat.mul_ne_zero hk (by omega);simp [Builtin.append_, run_underlying ht, run_underlying htn, sizeOf, typeInfo, zeroValue, hi, hz, asInt, asIntOf, hw, hk, hneg, hns, hr, h48i, Addr.add_lit, hst]
 ·rw [Lib.run_append_grow_zeros w t tn ty e i z kq kn ht htn hi hz base sLen sCap olds hold k h0 hs hg (by omega) h48 hfit]
  congr 3;apply Array.ext';simp
theorem Z3c (he : Emb P ι s.h.get w) {k o m : Nat} {l : List Value} (h : Zuc s k o m = some l) :
  ∃ (b : Nat × Nat) (cs : List Value), ι k = some b ∧ cs.length = m ∧ l.length = m ∧ (∀ j u, cs[j]? = some u → w.cell? ((⟨b.1, o, none⟩ : Addr).add j) = some u) ∧ ∀ (j : Nat) x y, l[j]? = some x → cs[j]? = some y → VR ι x y := by
 unfold Zuc at h;split at h
 ·rename_i c t hk
  exact Znc he (by unfold rowAt; rw [hk]; exact h)
 ·rename_i O hk
  obtain ⟨b, hb, hB⟩ := he.ro0 hk;cases hm : Nat.beq m 0 with
  | true =>
   rw [hm] at h;injection h with h
   subst h;obtain rfl := Nat.eq_of_beq_eq_true hm;exact ⟨b, [], hb, rfl, rfl, fun j u hu => by simp at hu, fun j x y hx _ => by simp at hx⟩
  | false =>
  rw [hm] at h;simp only [cond_false] at h;split at h
  ·rename_i l' hr
   obtain ⟨h1, h⟩ := Zl h;injection h with h
   subst h;unfold Z2a at hr;split at hr
   ·obtain ⟨hl, hcs⟩ := ZxM (w := w) hB hr
    refine ⟨b, l', hb, hl, hl, hcs, fun j x y hx hy => ?_⟩;rw [hx] at hy;injection hy with hy
    subst hy;exact .atom (Zaf h1 _ (List.mem_of_getElem? hx))
   ·cases hr
  ·cases h
 ·cases h
theorem ZxR (c : List Cell) : ∀ x ∈ Zm c, Zbg x = true := fun x hx => by unfold Zm at hx;obtain ⟨b, _, rfl⟩ := List.mem_map.1 hx;cases b <;> rfl
theorem Z0r (he : Emb P ι s.h.get w) {m : Nat} {t tx ty e : TypeId} {i : TypeInfo} {u y y' : Value} {l : List Value} (ht : P.underlying t = some (.slice e)) (hi : P.info? e = some i) (hz : i.zero = some u) (hzs : u.cells.size = i.size) (hb : i.bytes ≤ 1000) (ha : Zu atom u.cells.toList = true) (hv : VR ι y y') (h : ZeU P s u.cells.toList i.size tx y = some (m, l)) :
  ∃ news, SrcF P t tx ty e i u y' m news w ∧ l.length = m * i.size ∧ ∀ (j : Nat) x u, l[j]? = some x → news[j]? = some u → VR ι x u := by
 unfold ZeU at h;split at h
 ·rename_i e' hu
  injection h with h;injection h with h1 h2
  subst h1 h2;have := hv.eq_of_atom (by rfl);subst this;exact ⟨[], SrcF.of ht hi hz (Src.ofNil w hu 0), by simp, fun j x u hx _ => by simp at hx⟩
 ·rename_i e' k o n c hu
  split at h
  ·rename_i r hr
   replace h := Zl h;obtain ⟨h1, h⟩ := h;injection h with h
   injection h with h2 h3;subst h2 h3
   obtain ⟨b, cs, hb, hcl, hll, hcs, hvv⟩ := Z3c he hr;have hone : ∀ u ∈ cs, u.oneCell' = true := fun u hu => by
    obtain ⟨j, hj⟩ := List.mem_iff_getElem?.1 hu;have hjl : j < r.length := by have := (List.getElem?_eq_some_iff.1 hj).1; omega
    exact Zr5 (hvv j r[j] u (List.getElem?_eq_getElem hjl) hj) (Zaf h1 _ (List.getElem_mem hjl))
   cases hv with
   | atom h => simp [Ev.atom] at h
   | slice hb2 hn hc hq =>
    rename_i b2 c';rw [hb] at hb2; injection hb2 with hb2; subst hb2
    exact ⟨cs, SrcF.of ht hi hz (Src.ofSlice w hu _ n c' cs hcl hcs hone), hll, hvv⟩
   | slice0 _h0 =>
    rename_i a';have : cs = [] := List.eq_nil_of_length_eq_zero (by omega);subst this;cases a' with
    | none => exact ⟨[], SrcF.of ht hi hz (Src.ofNil w hu 0), hll, hvv⟩
    | some a' => exact ⟨[], SrcF.of ht hi hz (Src.ofSlice w hu _ 0 0 [] (by simp) (fun j u hu => by simp at hu) (fun u hu => by cases hu)), hll, hvv⟩
  ·cases h
 ·rename_i e' id o z n c hu
  have nil : n * i.size = 0 → ∃ news, SrcF P t tx ty e i u y' n news w ∧ ([] : List Value).length = n * i.size ∧ ∀ (j : Nat) x u, ([] : List Value)[j]? = some x → news[j]? = some u → VR ι x u := fun h0 => by
   cases hv with
   | atom h => simp [Ev.atom] at h
   | mslice hb hn hc =>
    exact ⟨[], SrcF.of ht hi hz (Src.ofSlice w hu _ n _ [] (by simp [h0]) (fun j u hu => by simp at hu) (fun u hu => by cases hu)), by simp [h0], fun j x u hx _ => by simp at hx⟩
   | slice0 _h0 =>
    rename_i a';cases a' with
    | none => exact ⟨[], SrcF.of ht hi hz (Src.ofNil w hu 0), by simp, fun j x u hx _ => by simp at hx⟩
    | some a' => exact ⟨[], SrcF.of ht hi hz (Src.ofSlice w hu _ 0 0 [] (by simp) (fun j u hu => by simp at hu) (fun u hu => by cases hu)), by simp, fun j x u hx _ => by simp at hx⟩
  cases hm0 : Nat.beq (n * i.size) 0 with
  | true =>
   rw [hm0] at h;injection h with h
   injection h with h2 h3;subst h2 h3
   exact nil (Nat.eq_of_beq_eq_true hm0)
  | false =>
   rw [hm0] at h;simp only [cond_false] at h;split at h
   ·rename_i c0 hg
    injection h with h;injection h with h2 h3
    subst h2 h3;have hne : n * i.size ≠ 0 := fun e0 => by rw [e0] at hm0; cases hm0
    cases hv with
    | atom h => simp [Ev.atom] at h
    | mslice hb hn hc =>
     obtain ⟨cs, q1, q2, q3, q4⟩ := Zv4 (q := 0) he hb hg;have q2' : (Zm c0).length = n * i.size := by unfold Zm; rw [List.length_map]; exact q2
     have hone : ∀ u ∈ cs, u.oneCell' = true := fun u hu => by
      obtain ⟨j, hj⟩ := List.mem_iff_getElem?.1 hu;have hjl : j < (Zm c0).length := by have := (List.getElem?_eq_some_iff.1 hj).1; omega
      exact Zr5 (q4 j (Zm c0)[j] u (List.getElem?_eq_getElem hjl) hj) (ZxR c0 _ (List.getElem_mem hjl))
     exact ⟨cs, SrcF.of ht hi hz (Src.ofSlice w hu _ n _ cs q1 q3 hone), q2', q4⟩
    | slice0 _h0 => exact absurd (Nat.zero_mul _) hne
   ·cases h
 ·rename_i kk kq n hu
  replace h := Zl h;obtain ⟨hg, h⟩ := h;simp only [Bool.and_eq_true] at hg;obtain ⟨⟨g1, g2⟩, g3⟩ := hg;injection h with h
  injection h with h2 h3;subst h2 h3
  have hn0 : 0 < n := Nat.le_of_ble_eq_true g1;have hs0 : 0 < i.size := Nat.le_of_ble_eq_true g2;have hn5 : n ≤ 100000 := Nat.le_of_ble_eq_true g3;have := hv.int_inv;subst this;have hone : ∀ x ∈ u.cells.toList, x.oneCell' = true := fun x hx => by have := Zaf ha x hx;cases x <;> first | rfl | (simp [Ev.atom] at this)
  have hpw := ZxN (ι := ι) ha (by omega) (n * u.cells.size);refine ⟨(Builtin.zeroCells u.cells n).toList, SrcF.zeros ht hu hi hz hzs hone hn0 hs0 hn5 hb, by simp [rep, hzs], fun j x y hx hy => ?_⟩;exact hpw.2 j x y (by simpa using hx) (by rw [← Array.getElem?_toList]; exact hy)
 ·rename_i b hu
  replace h := Zl h;obtain ⟨hg, h⟩ := h;injection h with h
  injection h with h2 h3;subst h2 h3
  have hs : i.size = 1 := Nat.eq_of_beq_eq_true hg;have := hv.eq_of_atom (by rfl);subst this;have hS : Src P i.size tx (.string b) b.size (byteCells b) w := by rw [hs]; exact Src.ofString w hu b
  refine ⟨_, SrcF.of ht hi hz hS, by rw [hs, Nat.mul_one]; show (b.data.toList.map _).length = b.data.size; rw [List.length_map, Array.length_toList], fun j x u hx hy => ?_⟩;have e : ZsD b = byteCells b := rfl;rw [← e, hx] at hy; injection hy with hy; subst hy
  simp only [ZsD, List.getElem?_map, Option.map_eq_some_iff] at hx;obtain ⟨_, _, rfl⟩ := hx;exact .atom rfl
 ·cases h
theorem Z5v {l c : List Value} (hl : l.length = c.length) (h : ∀ (j : Nat) x u, l[j]? = some x → c[j]? = some u → VR ι x u) (d : Array Value) : CR ι l (c.toArray ++ d) :=
 ⟨by simp; omega, fun j x u hx hu => h j x u hx (by
  have hj : j < c.length := by have := (List.getElem?_eq_some_iff.1 hx).1; omega
  rw [Array.getElem?_append_left (by simpa using hj)] at hu;simpa using hu)⟩
theorem Zeg {t tx ty : TypeId} {x y x' y' : Value} (hx : VR ι x x') (hy : VR ι y y') (he : Emb P ι s.h.get w) (hf : Fresh ι s.n s'.n) (h : ZdI P s t tx x y = some (v, s')) :
  ∃ v' w' ι', (Builtin.append_ #[t, tx] ty #[x', y']).run P w = .ok v' w' ∧ Step P ι s.h.get w ι' s'.h.get w' ∧ Dom ι ι' s.n s'.n ∧ VR ι' v v' := by
 unfold ZdI at h;split at h
 ·rename_i e hu
  split at h
  ·rename_i i z hi hz
   split at h
   ·rename_i m l hc
    replace h := Zl h;obtain ⟨hg, h⟩ := h;simp only [Bool.and_eq_true] at hg;obtain ⟨⟨hg1, hg2⟩, hg3⟩ := hg;have h1 : m ≤ 100000 := Nat.le_of_ble_eq_true hg1;have h2 : i.bytes ≤ 1000 := Nat.le_of_ble_eq_true hg2;have h3 : z.length = i.size := Nat.eq_of_beq_eq_true hg3;obtain ⟨i', u, hi', hu', rfl, ha⟩ := ZhH hz;rw [hi] at hi'; injection hi' with hi'; subst hi'
    have h3' : u.cells.size = i.size := by simpa using h3
    obtain ⟨news, hsrc, hll, hvv⟩ := Z0r (ty := ty) he hu hi hu' h3' h2 ha hy hc;have hnl : l.length = news.length := by rw [hll, hsrc.len]
    have nothing : ∀ {base : Option Addr} {sLen sCap : Nat}, x' = .slice base sLen sCap → sLen ≤ sCap → m = 0 → x = v → s = s' →
      ∃ v' w' ι', (Builtin.append_ #[t, tx] ty #[x', y']).run P w = .ok v' w' ∧ Step P ι s.h.get w ι' s'.h.get w' ∧ Dom ι ι' s.n s'.n ∧ VR ι' v v' := by
     intro base sLen sCap hx' hle hm e1 e2;subst e1 e2;rw [hx'];exact ⟨_, w, ι, hsrc.nothing hm base sLen sCap hle, Step.refl he, Dom.refl, hx' ▸ hx⟩
    have grow : ∀ (q : Bool) {base : Option Addr} {sLen sCap : Nat} {olds : List Value} {h0 : AH} {old : List Value}, x' = .slice base sLen sCap → (Builtin.firstCells i.size sLen (.slice base sLen sCap)).run P w.drew = .ok olds.toArray w.drew → olds.length = sLen * i.size →
      old.length = olds.length → (∀ (j : Nat) x u, old[j]? = some x → olds[j]? = some u → VR ι x u) → 0 < m → sCap < sLen + m → sLen ≤ 100000 → Step P ι s.h.get w ι h0 w → s'.n = s.n + 1 → s'.h.get = upd h0 s.n (some (.cells (old ++ l) e q)) → v = .slice (some ⟨s.n, 0, none⟩) (sLen + m) (sLen + m) →
      ∃ v' w' ι', (Builtin.append_ #[t, tx] ty #[x', y']).run P w = .ok v' w' ∧ Step P ι s.h.get w ι' s'.h.get w' ∧ Dom ι ι' s.n s'.n ∧ VR ι' v v' := by
     intro q base sLen sCap olds h0 old hx' hold hol hlo hvo hm00 hgr hsl hst hn hh hv;subst hv;have hfit : Builtin.nextslicecap (sLen + m) sCap * i.bytes ≤ 281474976710656 := growslice_fits hgr (by have : (sLen + m) * i.bytes ≤ 200000 * 1000 := Nat.mul_le_mul (by omega) h2;omega)
     have hrun := hsrc.grow hm00 base sLen sCap olds hold hgr (by omega) hfit;have hge := grownCap_ge w (sLen + m) sCap e;have hdrew : Step P ι h0 w ι h0 w.drew := Step.still hst.emb rfl rfl rfl rfl;have hcr : CR ι (old ++ l) ((olds ++ news).toArray ++ Builtin.zeroCells u.cells (grownCap w (sLen + m) sCap e - (sLen + m))) := by
      refine Z5v (by simp; omega) (fun j x u hx hu => ?_) _;by_cases hj : j < old.length
      ·rw [List.getElem?_append_left hj] at hx
       rw [List.getElem?_append_left (by omega)] at hu;exact hvo j x u hx hu
      ·rw [List.getElem?_append_right (by omega)] at hx
       rw [List.getElem?_append_right (by omega), ← hlo] at hu;exact hvv _ x u hx hu
     have hal := Step.alloc hdrew.emb (n := s.n) (Nat.lt_of_lt_of_le (by omega) hf.1) (hf.2 s.n (Nat.le_refl _) (by omega)) e hcr (grownCap w (sLen + m) sCap e) (fun i2 hi2 => by
      rw [hi] at hi2; injection hi2 with hi2; subst hi2
      simp only [Array.size_append, List.size_toArray, List.length_append, size_zeroCells, hol, hsrc.len, h3'];rw [← Nat.add_mul, ← Nat.add_mul];exact Nat.mul_le_mul_right _ (by omega))
     replace hal := hal.asQ q;rw [← hh] at hal;rw [hx'];refine ⟨_, _, _, hrun, (hst.trans hdrew).trans hal, hn ▸ Dom.one, .slice (b := (w.drew.heap.size, grownCap w (sLen + m) sCap e)) Zk (Nat.le_refl _) hge (fun _ => .inr (Nat.le_refl _))⟩
    split at h
    ·have hx' : x' = .slice none 0 0 := hx.eq_of_atom rfl
     cases hm : Nat.beq m 0 with
     | true =>
      rw [hm] at h;injection h with h
      injection h with h4 h5;exact nothing hx' (Nat.le_refl _) (Nat.eq_of_beq_eq_true hm) h4 h5
     | false =>
      rw [hm] at h;injection h with h
      injection h with h4 h5;subst h4 h5
      have hm0 : m ≠ 0 := fun e => by subst e; simp at hm
      refine grow false (olds := []) (old := []) (h0 := s.h.get) hx' (run_firstCells_none w.drew i.size 0 0 0) (by simp) rfl (fun j x u hx _ => by simp at hx) (by omega) (by omega) (by omega) (Step.refl he) rfl ?_ (by simp);show (s.h.set s.n (some (.cells l e))).get = _;rw [Tr.get_set, List.nil_append]
    ·rename_i k o n c
     cases hm : Nat.beq m 0 with
     | true =>
      rw [hm] at h;injection h with h
      injection h with h4 h5;have hm0 := Nat.eq_of_beq_eq_true hm
      cases hx with
      | atom h => simp [Ev.atom] at h
      | slice hb hn hc hq => exact nothing rfl (by omega) hm0 h4 h5
      | slice0 => exact nothing rfl (Nat.le_refl _) hm0 h4 h5
     | false =>
      rw [hm] at h;have hm0 : m ≠ 0 := fun e => by subst e; simp at hm
      simp only [cond_false] at h;cases hr : Nat.ble (n + m) c with
      | true =>
       rw [hr] at h;have hrm : n + m ≤ c := Nat.le_of_ble_eq_true hr;simp only [cond_true] at h;split at h
       ·rename_i s1 hw
        injection h with h;injection h with h4 h5
        subst h4 h5;cases hx with
        | atom h => simp [Ev.atom] at h
        | slice hb hn hc hq =>
         obtain ⟨b2, w', hb2, hrun, hstep, hsn, _, _⟩ := ZnH he (c := news.toArray) hw (by simpa using hnl) (fun j x u hx hu => hvv j x u hx (by simpa using hu));rw [hb] at hb2; injection hb2 with hb2; subst hb2
         exact ⟨_, w', ι, hsrc.room (by omega) _ _ _ _ _ (by omega) (by simpa using hrun), hstep, hsn ▸ Dom.refl, .slice hb hrm hc hq⟩
        | slice0 => omega
       ·cases h
      | false =>
       rw [hr] at h;have hrm : ¬ (n + m ≤ c) := fun e => by rw [Nat.ble_eq_true_of_le e] at hr; cases hr
       simp only [cond_false] at h;replace h := Zl h;obtain ⟨hg, h⟩ := h;simp only [Bool.and_eq_true] at hg;have ho : o = 0 := Nat.eq_of_beq_eq_true hg.1;have hn5 : n ≤ 100000 := Nat.le_of_ble_eq_true hg.2;split at h
       ·rename_i cs e' q0 hk
        replace h := Zl h;obtain ⟨hee, h⟩ := h;have hee' : e = e' := Nat.eq_of_beq_eq_true hee;subst hee';split at h
        ·rename_i old hold
         injection h with h;injection h with h4 h5
         obtain ⟨rfl, hlen⟩ := Ze2 hold;obtain ⟨bk, hbk, hdis⟩ := he.obj k cs e _ hk;have hgrow0 : s'.n = s.n + 1 ∧ s'.h.get = upd (upd s.h.get k none) s.n (some (.cells (cs.take (n * i.size) ++ l) e q0)) := by subst h5;refine ⟨rfl, ?_⟩;show ((s.h.set k none).set s.n _).get = _;rw [Tr.get_set, Tr.get_set]
         cases hx with
         | atom h => simp [Ev.atom] at h
         | slice0 _h0 =>
          rename_i ap;cases ap with
          | none => exact grow q0 (olds := []) (old := cs.take (0 * i.size)) rfl (run_firstCells_none w.drew i.size 0 0 0) (by simp) (by simp) (fun j x u hx _ => by simp at hx) (by omega) (by omega) (by omega) (Step.kill he k) hgrow0.1 hgrow0.2 h4.symm
          | some ap => exact grow q0 (olds := []) (old := cs.take (0 * i.size)) rfl (by simp [Builtin.firstCells, loadCells, loadCellsFrom, Sem.run]) (by simp) (by simp) (fun j x u hx _ => by simp at hx) (by omega) (by omega) (by omega) (Step.kill he k) hgrow0.1 hgrow0.2 h4.symm
         | slice hb hn hc hq =>
          rename_i b c';subst ho;rw [hbk] at hb; injection hb with hb; subst hb
          obtain ⟨z1, z2, z3⟩ | ⟨hqc, C, hB, hC, hQ⟩ := hdis
          ·subst z2
           have hz0 : n * i.size = 0 := by simp only [List.length_nil] at hlen; omega
           have hcc : c' < n + m := by rcases hq rfl with h | h <;> omega
           exact grow q0 (olds := []) (old := List.take (n * i.size) []) rfl (by
            have : i.size = 0 ∨ n = 0 := by rcases Nat.mul_eq_zero.1 hz0 with h | h; exact .inr h; exact .inl h
            rcases this with h | h
            ·rw [h]; simp [Builtin.firstCells, loadCells, loadCellsFrom, Sem.run]
            ·subst h; simp [Builtin.firstCells, loadCells, loadCellsFrom, Sem.run]) (by simp [hz0]) (by simp) (fun j x u hx _ => by simp at hx) (by omega) hcc hn5 (Step.kill he k) hgrow0.1 hgrow0.2 h4.symm
          have h0 := hC.1;by_cases hin : n + m ≤ c'
          ·-- there is room
           have hcap : c' ≤ bk.2 := by
            rcases hq rfl with h | h
            ·omega
            ·exact h
           have hfit : (n + m) * i.size ≤ C.size := Nat.le_trans (Nat.mul_le_mul_right _ (by omega)) (hQ i hi);rw [Nat.add_mul] at hfit;have hnews := hsrc.len;obtain ⟨fr, hBf, hUf⟩ := hB.unf;have hrun := Zi4 P bk.1 (0 + n * i.size) e news 0 C w hBf hUf (by omega) hsrc.one;simp only [Nat.add_zero] at hrun;obtain ⟨q1, q2, q3⟩ := Zv3 (C' := (C.toList.take (0 + n * i.size) ++ news ++ C.toList.drop (0 + n * i.size + news.length)).toArray) hB (by simp [List.length_take, List.length_drop]; omega);have e1 : (cs.take (n * i.size)).length = n * i.size := by rw [List.length_take]; omega
           have e2 : (C.toList.take (0 + n * i.size)).length = n * i.size := by rw [List.length_take]; simp; omega
           have hcr : CR ι (cs.take (n * i.size) ++ l) (C.toList.take (0 + n * i.size) ++ news ++ C.toList.drop (0 + n * i.size + news.length)).toArray := by
            refine ⟨by simp [List.length_take, List.length_drop]; omega, fun j x u hx hu => ?_⟩;simp only [List.getElem?_toArray, List.append_assoc] at hu;by_cases hj : j < n * i.size
            ·rw [List.getElem?_append_left (by omega), List.getElem?_take_of_lt hj] at hx
             rw [List.getElem?_append_left (by omega), List.getElem?_take_of_lt (by omega)] at hu;exact hC.2 j x u hx (by simpa using hu)
            ·have hjl : j < (cs.take (n * i.size) ++ l).length := (List.getElem?_eq_some_iff.1 hx).1
             rw [List.length_append] at hjl;rw [List.getElem?_append_right (by omega), e1] at hx;rw [List.getElem?_append_right (by omega), e2, List.getElem?_append_left (by omega)] at hu;exact hvv _ x u hx hu
           have hopen := Step.opened he hk hbk hqc;have hst := hopen.trans (Step.store hopen.emb (Zk : upd s.h.get k (some (.cells cs e)) k = _) hbk hcr (by simp [List.length_take, List.length_drop]; omega) hB q1 q2 q3 rfl rfl rfl);have hre := Step.rename hst.emb (n := s.n) (k0 := k) (b := bk) (Nat.lt_of_lt_of_le (by omega) hf.1) (hf.2 s.n (Nat.le_refl _) (by omega)) hbk (by rw [Zk]; rfl);rw [Zk] at hre;replace hre := hre.asQ q0;have hfin : upd (upd (upd (upd s.h.get k (some (.cells cs e))) k (some (.cells (cs.take (n * i.size) ++ l) e))) k none) s.n (some (.cells (cs.take (n * i.size) ++ l) e q0)) = s'.h.get := by
            rw [hgrow0.2]
            funext j
            simp only [upd];split
            ·rfl
            ·split <;> rfl
           rw [hfin] at hre;refine ⟨_, _, _, hsrc.room (by omega) _ _ _ _ _ hin hrun, hst.trans hre, hgrow0.1 ▸ Dom.one, ?_⟩;rw [← h4];exact .slice (b := bk) Zk (Nat.le_refl _) hin (fun _ => .inr hcap)
          ·-- there is none
           have hcs : ∀ j u, (C.toList.take (n * i.size))[j]? = some u → w.drew.cell? ((⟨bk.1, 0, none⟩ : Addr).add j) = some u := fun j u hj => by
            have hjl : j < n * i.size := by have := (List.getElem?_eq_some_iff.1 hj).1; simp at this; omega
            rw [List.getElem?_take_of_lt hjl] at hj;have := Z1z (w := w.drew) (o := 0) (j := j) (show Cel w.drew.heap[bk.1]? _ _ from hB);rw [this, Nat.zero_add];simpa using hj
           have hol : (C.toList.take (n * i.size)).length = n * i.size := by rw [List.length_take]; simp; omega
           refine grow q0 (olds := C.toList.take (n * i.size)) (old := cs.take (n * i.size)) rfl (run_firstCells_some w.drew i.size n _ n c' _ hol hcs) hol (by rw [hol, List.length_take]; omega) (fun j x u hx hu => ?_) (by omega) (by omega) hn5 (Step.kill he k) hgrow0.1 hgrow0.2 h4.symm;have hjl : j < n * i.size := by have := (List.getElem?_eq_some_iff.1 hx).1; rw [List.length_take] at this; omega
           rw [List.getElem?_take_of_lt hjl] at hx hu;exact hC.2 j x u hx (by simpa using hu)
        ·cases h
       ·cases h
    ·cases h
   ·cases h
  ·cases h
 ·cases h

/-! ### The others -/
theorem Z0s {t : TypeId} {x y x' y' : Value} {q : Bool} (hx : VR ι x x') (hy : VR ι y y') (h : ZsE (P.underlying t) x y = some q) : (Op.equal t x' y').run P w = .ok q w := by
 have iso : ∀ {a : Option Addr} {z : Value}, VR ι (.pointer a) z → ∃ a', z = .pointer a' ∧ a'.isNone = a.isNone := fun {a z} h => by
  cases h with
  | atom h => exact ⟨_, rfl, rfl⟩
  | ptr h => exact ⟨_, rfl, rfl⟩
  | mptr h => exact ⟨_, rfl, rfl⟩
 have isn : ∀ {n c : Nat} {z : Value}, VR ι (.slice none n c) z → z = .slice none n c := fun {n c z} h => by
  cases h with
  | atom h => rfl
 have isl : ∀ {a : Addr} {n c : Nat} {z : Value}, (ZlU && Nat.beq c 0) = false → VR ι (.slice (some a) n c) z → ∃ a' n' c', z = .slice (some a') n' c' := fun {a n c z} hc h => by
  cases h with
  | atom h => simp [Ev.atom] at h
  | slice h => exact ⟨_, _, _, rfl⟩
  | mslice h => exact ⟨_, _, _, rfl⟩
  | slice0 h =>
   rename_i a';cases a' with
   | some a' => exact ⟨_, _, _, rfl⟩
   | none => rw [h rfl] at hc; cases hc
 have key : ∀ d : Nat, (Op.equalIn (d + 1) t x' y').run P w = .ok q w := fun d => by
  unfold ZsE at h;split at h
  ·rename_i e b hu
   injection h with h; subst h
   have hx' := hx.eq_of_atom rfl;obtain ⟨b', hy', hb⟩ := iso hy;subst hx' hy';simp [Op.equalIn, run_underlying hu, hb]
  ·rename_i e a hne hu
   injection h with h; subst h
   have hy' := hy.eq_of_atom rfl;obtain ⟨b', hx', hb⟩ := iso hx;subst hx' hy';cases b' with
   | none => cases a with
    | none => exact absurd rfl hne
    | some a => simp at hb
   | some b' => simp [Op.equalIn, run_underlying hu]
  ·rename_i e n c n' c' hu
   injection h with h; subst h
   have hx' := isn hx;have hy' := isn hy;subst hx' hy';simp [Op.equalIn, run_underlying hu]
  ·rename_i e n c b n' c' hu
   cases hc : (ZlU && Nat.beq c' 0) with
   | true => rw [hc] at h; cases h
   | false =>
    rw [hc] at h;injection h with h; subst h
    have hx' := isn hx;obtain ⟨b', _, _, hy'⟩ := isl hc hy;subst hx' hy';simp [Op.equalIn, run_underlying hu]
  ·rename_i e a n c n' c' hu
   cases hc : (ZlU && Nat.beq c 0) with
   | true => rw [hc] at h; cases h
   | false =>
    rw [hc] at h;injection h with h; subst h
    have hy' := isn hy;obtain ⟨a', _, _, hx'⟩ := isl hc hx;subst hx' hy';simp [Op.equalIn, run_underlying hu]
  ·rename_i hu
   injection h with h; subst h
   have hx' := hx.eq_of_atom rfl;subst hx';cases hy with
   | atom h => simp [Op.equalIn, run_underlying hu]
   | func _ _ _ _ => simp [Op.equalIn, run_underlying hu]
  ·rename_i hu
   injection h with h; subst h
   have hy' := hy.eq_of_atom rfl;subst hy';cases hx with
   | atom h => simp [Op.equalIn, run_underlying hu]
   | func _ _ _ _ => simp [Op.equalIn, run_underlying hu]
  ·cases h
 exact key 9999
end
end Ev
end Go.Proofs.YthfohmhipifiaaaGreat
