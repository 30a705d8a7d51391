/- Part 1. -/
import Derived.Test.YthfohmhipifiaaaGreatRows
import Derived.WalkKit
import Derived.ProofKit
import Derived.Laws.CopyRow
import Derived.Laws.Rows
import Derived.Deep.AppendSrc
import Derived.Laws.MakeOwn
import Derived.Laws.LoneSync
import Derived.Great.BuildSlice
set_option linter.unusedSimpArgs false
set_option linter.unusedVariables false
/- Contents that never change, as numbers. -/
namespace Go.Proofs.YthfohmhipifiaaaGreat
namespace Ev
inductive Cell where
 | i (n : Int)
 | b (q : Bool)
 | k (kk : IntKind) (n : Int)
 | s (x : ByteArray)
 | any
 | m (id o n c : Nat)
def ZwH (z : Int) : Nat := if 0 ≤ z then 2 * z.toNat else 2 * (-z).toNat + 1
theorem ZwI {a b : Int} (h : ZwH a = ZwH b) : a = b := by
 unfold ZwH at h
 split at h <;> split at h <;> omega
def Z1K : IntKind → Nat
 | .i8 => 0
 | .i16 => 1
 | .i32 => 2
 | .i64 => 3
 | .u8 => 4
 | .u16 => 5
 | .u32 => 6
 | .u64 => 7
theorem Z1L {a b : IntKind} (h : Z1K a = Z1K b) : a = b := by
 cases a <;> cases b <;> first | rfl | cases h
def pr (a b : Nat) : Nat := 2 ^ a * (2 * b + 1)
theorem ZsL : ∀ {a b r s : Nat}, pr a r = pr b s → a = b ∧ r = s
 | 0, 0, r, s, h => by
  simp only [pr, Nat.pow_zero, Nat.one_mul] at h
  exact ⟨rfl, by omega⟩
 | 0, b + 1, r, s, h => by
  have e : pr (b + 1) s = 2 * (2 ^ b * (2 * s + 1)) := by unfold pr; rw [Nat.pow_succ, Nat.mul_comm (2 ^ b) 2, Nat.mul_assoc]
  rw [e] at h
  simp only [pr, Nat.pow_zero, Nat.one_mul] at h
  omega
 | a + 1, 0, r, s, h => by
  have e : pr (a + 1) r = 2 * (2 ^ a * (2 * r + 1)) := by unfold pr; rw [Nat.pow_succ, Nat.mul_comm (2 ^ a) 2, Nat.mul_assoc]
  rw [e] at h
  simp only [pr, Nat.pow_zero, Nat.one_mul] at h
  omega
 | a + 1, b + 1, r, s, h => by
  have e : ∀ a r, pr (a + 1) r = 2 * pr a r := fun a r => by unfold pr; rw [Nat.pow_succ, Nat.mul_comm (2 ^ a) 2, Nat.mul_assoc]
  rw [e, e] at h
  obtain ⟨h1, h2⟩ := ZsL (a := a) (b := b) (r := r) (s := s) (by omega)
  exact ⟨by rw [h1], h2⟩
theorem Z0S (a b : Nat) : 0 < pr a b := Nat.mul_pos (Nat.pow_pos (by decide)) (by omega)
def Znl : List Nat → Nat
 | [] => 0
 | a :: l => pr a (Znl l)
theorem ZrH : ∀ {l m : List Nat}, Znl l = Znl m → l = m
 | [], [], _ => rfl
 | [], b :: m, h => by have := Z0S b (Znl m); simp only [Znl] at h; omega
 | a :: l, [], h => by have := Z0S a (Znl l); simp only [Znl] at h; omega
 | a :: l, b :: m, h => by
  obtain ⟨h1, h2⟩ := ZsL (a := a) (b := b) h
  rw [h1, ZrH h2]
def ZzZ : Cell → List Nat
 | .i n => [0, ZwH n]
 | .b q => [1, cond q 1 0]
 | .k kk n => [2, Z1K kk, ZwH n]
 | .s x => 3 :: x.data.toList.map UInt8.toNat
 | .any => [4]
 | .m id o n c => [5, id, o, n, c]
theorem ZnR : ∀ {l m : List UInt8}, l.map UInt8.toNat = m.map UInt8.toNat → l = m
 | [], [], _ => rfl
 | [], b :: m, h => by cases h
 | a :: l, [], h => by cases h
 | a :: l, b :: m, h => by
  simp only [List.map_cons, List.cons.injEq] at h
  rw [UInt8.toNat_inj.1 h.1, ZnR h.2]
theorem Z1M {a b : Cell} (h : ZzZ a = ZzZ b) : a = b := by
 cases a <;> cases b <;> simp only [ZzZ, List.cons.injEq, and_true, reduceCtorEq, false_and, and_false] at h
 case i.i x y => rw [ZwI h.2]
 case b.b x y => cases x <;> cases y <;> first | rfl | (simp at h)
 case k.k x y z w => rw [Z1L h.2.1, ZwI h.2.2]
 case s.s x y =>
  have h1 := ZnR h.2
  have h2 : x.data = y.data := Array.ext' h1
  have h3 : x = y := by cases x; cases y; simp only at h2; rw [h2]
  rw [h3]
 case any.any => rfl
 case m.m a1 a2 a3 a4 b1 b2 b3 b4 => obtain ⟨_, h1, h2, h3, h4⟩ := h; rw [h1, h2, h3, h4]
 all_goals (first | (exact absurd h.1 (by decide)) | (exact absurd h (by decide)))
theorem ZzA : ∃ f : List Cell → Nat, ∀ a b, f a = f b → a = b := by
 refine ⟨fun l => Znl (l.map fun c => Znl (ZzZ c)), fun a b h => ?_⟩
 have h1 := ZrH h
 clear h
 induction a generalizing b with
 | nil => cases b with
  | nil => rfl
  | cons y b => cases h1
 | cons x a ih => cases b with
  | nil => cases h1
  | cons y b =>
   simp only [List.map_cons, List.cons.injEq] at h1
   rw [Z1M (ZrH h1.1), ih b h1.2]
noncomputable section
def code : List Cell → Nat := Classical.choose ZzA
theorem Z1N {a b : List Cell} (h : code a = code b) : a = b := Classical.choose_spec ZzA a b h
def decode (n : Nat) : Option (List Cell) := @dite _ (∃ l, code l = n) (Classical.propDecidable _) (fun h => some (Classical.choose h)) (fun _ => none)
end
theorem Zdw (l : List Cell) : decode (code l) = some l := by
 unfold decode
 have h : ∃ m, code m = code l := ⟨l, rfl⟩
 rw [dif_pos h]
 exact congrArg some (Z1N (Classical.choose_spec h))
def Zai (b base id : Nat) : Nat := 1000000000 + 2 * pr b (pr base id)
theorem ZrI {b base id b' base' id' : Nat} (h : Zai b base id = Zai b' base' id') : b = b' ∧ base = base' ∧ id = id' := by
 unfold Zai at h
 obtain ⟨h1, h2⟩ := ZsL (a := b) (b := b') (r := pr base id) (s := pr base' id') (by omega)
 obtain ⟨h3, h4⟩ := ZsL h2
 exact ⟨h1, h3, h4⟩
theorem Zf5 (b base id : Nat) : 1000000000 ≤ Zai b base id ∧ Zai b base id % 2 = 0 := by
 unfold Zai
 omega
inductive Tr (α : Type) where
 | nil
 | node (v : Option α) (l r : Tr α)
namespace Tr
variable {α : Type}
section
variable (t : Tr α)
noncomputable def val : Option α := Tr.rec (motive := fun _ => Option α) none (fun v _ _ _ _ => v) t
noncomputable def lt : Tr α := Tr.rec (motive := fun _ => Tr α) .nil (fun _ l _ _ _ => l) t
noncomputable def rt : Tr α := Tr.rec (motive := fun _ => Tr α) .nil (fun _ _ r _ _ => r) t
noncomputable def get : Nat → Option α :=
 Tr.rec (motive := fun _ => Nat → Option α) (fun _ => none)
  (fun v _ _ gl gr n => Bool.rec (motive := fun _ => Option α) (Bool.rec (motive := fun _ => Option α) (gr (Nat.div (Nat.sub n 1) 2)) (gl (Nat.div (Nat.sub n 1) 2)) (Nat.beq (Nat.mod n 2) 1)) v (Nat.beq n 0)) t
end
noncomputable def setF (f : Nat) : Tr α → Nat → Option α → Tr α :=
 Nat.rec (motive := fun _ => Tr α → Nat → Option α → Tr α) (fun t _ v => .node v t.lt t.rt)
  (fun _ ih t n v => Bool.rec (motive := fun _ => Tr α) (Bool.rec (motive := fun _ => Tr α) (.node t.val t.lt (ih t.rt (Nat.div (Nat.sub n 1) 2) v)) (.node t.val (ih t.lt (Nat.div (Nat.sub n 1) 2) v) t.rt) (Nat.beq (Nat.mod n 2) 1)) (.node v t.lt t.rt) (Nat.beq n 0)) f
noncomputable def set (t : Tr α) (n : Nat) (v : Option α) : Tr α := setF n t n v
theorem get_nil (n : Nat) : (Tr.nil : Tr α).get n = none := rfl
section
variable (v : Option α) (l r : Tr α)
theorem get_node (n : Nat) : (Tr.node v l r).get n = bif Nat.beq n 0 then v else bif Nat.beq (n % 2) 1 then l.get ((n - 1) / 2) else r.get ((n - 1) / 2) := by
 have e : Nat.beq (n % 2) 1 = Nat.beq (Nat.mod n 2) 1 := rfl
 show (Bool.rec (motive := fun _ => Option α) (Bool.rec (motive := fun _ => Option α) (r.get ((n - 1) / 2)) (l.get ((n - 1) / 2)) (Nat.beq (Nat.mod n 2) 1)) v (Nat.beq n 0) : Option α) = _
 rw [e]
 generalize Nat.beq n 0 = x
 generalize Nat.beq (Nat.mod n 2) 1 = y
 cases x <;> cases y <;> rfl
theorem setF_zero (t : Tr α) (n : Nat) (v : Option α) : setF 0 t n v = .node v t.lt t.rt := rfl
theorem setF_succ (f : Nat) (t : Tr α) (n : Nat) (v : Option α) : setF (f + 1) t n v = bif Nat.beq n 0 then .node v t.lt t.rt
  else bif Nat.beq (n % 2) 1 then .node t.val (setF f t.lt ((n - 1) / 2) v) t.rt
  else .node t.val t.lt (setF f t.rt ((n - 1) / 2) v) := by
 have e : Nat.beq (n % 2) 1 = Nat.beq (Nat.mod n 2) 1 := rfl
 show (Bool.rec (motive := fun _ => Tr α) (Bool.rec (motive := fun _ => Tr α) (.node t.val t.lt (setF f t.rt ((n - 1) / 2) v)) (.node t.val (setF f t.lt ((n - 1) / 2) v) t.rt) (Nat.beq (Nat.mod n 2) 1)) (.node v t.lt t.rt) (Nat.beq n 0) : Tr α) = _
 rw [e]
 generalize Nat.beq n 0 = x
 generalize Nat.beq (Nat.mod n 2) 1 = y
 cases x <;> cases y <;> rfl
theorem lt_nil : (Tr.nil : Tr α).lt = .nil := rfl
theorem rt_nil : (Tr.nil : Tr α).rt = .nil := rfl
theorem val_nil : (Tr.nil : Tr α).val = none := rfl
theorem lt_node : (Tr.node v l r).lt = l := rfl
theorem rt_node : (Tr.node v l r).rt = r := rfl
theorem val_node : (Tr.node v l r).val = v := rfl
end
end Tr

def tabs : List (Nat × List Cell) := [
 ]
def Zmx : Bool := true
inductive AObj where
 | cells (c : List Value) (t : TypeId) (q : Bool := false)
 | ro (O : Obj) (m : Bool := false)
def isC : Option AObj → Bool
 | some (.cells c _ q) => match q with
  | false => true
  | true => !c.isEmpty
 | some (.ro _ m) => m
 | _ => false
def sol : Option AObj → Bool
 | some (.cells c _ q) => match q with
  | false => true
  | true => !c.isEmpty
 | some (.ro _ _) => true
 | none => false

def isQ : Option AObj → Bool
 | some (.cells _ _ q) => q
 | _ => false
section
variable (o : Option AObj) (b : Nat × Nat)
def Zag : Bool := isC o || (isQ o && !Nat.beq b.2 0)
def Za3 : Bool := sol o || (isQ o && !Nat.beq b.2 0)
end
inductive Told where
 | st (c : List Value)
 | ap (m : Nat) (l c : List Value)
 | ap0
 | mk (l cp : Nat) (c : List Value)
 | sl (lo hi : Nat)
 | ms (lo hi n : Nat) (cs : List Cell)
 | at (v : Int) (c : List Value)
 | call (pre : List (Nat × AObj)) (v : Value) (post : List (Nat × Option AObj)) (dn : Nat)
 | dv
 | api (m : Nat) (l c : List Value)
 | cut (h : Nat) (c : List Value)
 | sh (n : Nat)
 | bs (ns : List Int)
 | lk (r : Option Value)
 | mp (l : List MapEntry)
 | stf (k : Nat) (cs : List Cell) (c : List Value)
 | apz (m : Nat) (l c : List Value) (cs : List Cell)
 | apn (m : Nat) (l c0 c : List Value)
structure Orc where
 b : List (Option Bool)
 v : List (Option Int)
 x : List (Option Nat)
 l : List (Option (List Cell))
 w : List (Option Told)
noncomputable section
structure St where
 h : Tr AObj
 n : Nat
 wr : List Nat
 orc : Orc
 ob : List (Bool × Bool)
def St.add (s : St) (c : List Value) (t : TypeId) : St := match s with | ⟨h, n, wr, orc, ob⟩ => ⟨h.set n (some (.cells c t)), n + 1, wr, orc, ob⟩
section
variable (s : St) (k : Nat) (c : List Value) (t : TypeId)
def St.putK (q : Bool := false) : St := match s with | ⟨h, n, wr, orc, ob⟩ => ⟨h.set k (some (.cells c t q)), n, k :: wr, orc, ob⟩
def St.turn (q : Bool := false) : St := ⟨(s.h.set k none).set s.n (some (.cells c t q)), s.n + 1, k :: s.wr, s.orc, s.ob⟩
end
def cutP (q : Bool) (c : Nat) (p : Prop) : Prop := match q with
 | false => p
 | true => 0 < c ∧ p
section
variable (s : St)
def St.addM (O : Obj) : St := match s with | ⟨h, n, wr, orc, ob⟩ => ⟨h.set n (some (.ro O true)), n + 1, wr, orc, ob⟩
def St.putM (k : Nat) (O : Obj) : St := match s with | ⟨h, n, wr, orc, ob⟩ => ⟨h.set k (some (.ro O true)), n, k :: wr, orc, ob⟩
def St.keep {β : Type} (s : St) (k : St → β) : β := match s with | ⟨h, n, wr, orc, ob⟩ => k ⟨h, n, wr, orc, ob⟩
theorem St.keep_eq {β : Type} (s : St) (k : St → β) : s.keep k = k s := by cases s; rfl
def St.tst (t : Bool) : Bool × St :=
 match s.orc.b with
 | [] => (t, s)
 | none :: r => (t, ⟨s.h, s.n, s.wr, ⟨r, s.orc.v, s.orc.x, s.orc.l, s.orc.w⟩, s.ob⟩)
 | some b :: r => (b, ⟨s.h, s.n, s.wr, ⟨r, s.orc.v, s.orc.x, s.orc.l, s.orc.w⟩, (t, b) :: s.ob⟩)
def St.vst (x : Int) : Int × St :=
 match s.orc.v with
 | [] => (x, s)
 | none :: r => (x, ⟨s.h, s.n, s.wr, ⟨s.orc.b, r, s.orc.x, s.orc.l, s.orc.w⟩, s.ob⟩)
 | some y :: r => (y, ⟨s.h, s.n, s.wr, ⟨s.orc.b, r, s.orc.x, s.orc.l, s.orc.w⟩, (x == y, true) :: s.ob⟩)

def St.nextX : Option Nat × St :=
 match s.orc.x with
 | [] => (none, s)
 | a :: r => (a, ⟨s.h, s.n, s.wr, ⟨s.orc.b, s.orc.v, r, s.orc.l, s.orc.w⟩, s.ob⟩)
def St.nextL : Option (List Cell) × St :=
 match s.orc.l with
 | [] => (none, s)
 | a :: r => (a, ⟨s.h, s.n, s.wr, ⟨s.orc.b, s.orc.v, s.orc.x, r, s.orc.w⟩, s.ob⟩)
def St.nextW : Option Told × St :=
 match s.orc.w with
 | [] => (none, s)
 | a :: r => (a, ⟨s.h, s.n, s.wr, ⟨s.orc.b, s.orc.v, s.orc.x, s.orc.l, r⟩, s.ob⟩)
def St.told (q : Bool) : St := ⟨s.h, s.n, s.wr, s.orc, (q, true) :: s.ob⟩
noncomputable def dP (p : Prop) : Bool := @decide p (Classical.propDecidable p)

def atom : Value → Bool
 | .bool _ | .int .. | .float .. | .complex .. | .string _ | .pointer none | .map none | .chan none | .nilFunc | .nilIface => true
 | .slice none n c => Nat.beq n 0 && Nat.beq c 0
 | .func (.func _) a b => a.isEmpty && b.isEmpty
 | .iface _ (.agg cs) => cs.isEmpty
 | _ => false
def Z5 {α : Type} (p : α → Bool) : List α → Bool
 | [] => true
 | x :: l => p x && Z5 p l
def Zbv : Value → Bool
 | .agg cs => Z5 atom cs.toList
 | v => atom v
def free : Value → Bool
 | .tuple vs => Z5 Zbv vs.toList
 | v => Zbv v
def opnd (T : Tr Value) : Operand → Value
 | .tmp t => (T.get t).getD undef
 | .const v => bif free v then v else undef
 | .global g => .chan (some g)
 | .func f => .func (.func f) #[] #[]
def Zjo : Operand → Bool
 | .const v => free v
 | _ => true
def Zbw : Value → Bool
 | .agg _ | .tuple _ => false
 | _ => true

def ZlX {α : Type} (P : Program) : Sem α → Option α
 | .pure a => some a
 | .program k => ZlX P (k P)
 | .mark _ k => ZlX P k
 | _ => none

def Zjp (P : Program) (t : TypeId) : Option (Bool × Nat) :=
 match P.underlying t, P.info? t with
 | some (.struct _), some i | some (.array _ _), some i => some (true, i.size)
 | some _, some i => some (false, i.size)
 | _, _ => none
def ZO {α : Type} : Nat → List α → Option (List α)
 | 0, _ => some []
 | _ + 1, [] => none
 | n + 1, x :: l => match ZO n l with | some r => some (x :: r) | none => none
def rowAt (k o m : Nat) : Option (List Value) :=
 match s.h.get k with
 | some (.cells c _ q) => match q with
  | false => ZO m (c.drop o)
  | true => bif Nat.beq m 0 then none else ZO m (c.drop o)
 | _ => none
def Z0a (O : Obj) (o m : Nat) : Option (List Value) :=
 match O with
 | .cells C _ _ => ZO m (C.toList.drop o)
 | _ => none
def ZoP (k o m : Nat) : Option (List Value) :=
 match s.h.get k with
 | some (.cells c _) => ZO m (c.drop o)
 | some (.ro O) => bif Nat.beq m 0 then some [] else match Z0a O o m with
  | some l => bif Z5 atom l then some l else none
  | none => none
 | _ => none
end
section
variable (P : Program)
def Zk1 (s : St) (t : TypeId) (k o : Nat) : Option Value :=
 match Zjp P t with
 | some (true, m) => match rowAt s k o m with | some l => some (.agg l.toArray) | none => none
 | some (false, _) => match rowAt s k o 1 with | some [v] => some v | _ => none
 | none => none
def Zgr (c : List Value) (o : Nat) (l : List Value) : List Value := c.take o ++ l ++ c.drop (o + l.length)
def Zdg (s : St) (k o : Nat) (l : List Value) : Option St :=
 match s.h.get k with
 | some (.cells c t q) => bif (Nat.ble (o + l.length) c.length && Z5 Zbw l) && (!q || Nat.blt 0 l.length) then some (s.putK k (Zgr c o l) t q) else none
 | _ => none
def Zgs (t : TypeId) (cs : Array Value) (o : Nat) : Option Value :=
 match Zjp P t with
 | some (true, m) => some (.agg (cs.extract o (o + m)))
 | some (false, _) => cs[o]?
 | none => none
def ZgT (t : TypeId) : Option (List Value) :=
 match P.info? t with
 | some i => match i.zero with
  | some z => bif Z5 atom z.cells.toList then some z.cells.toList else none
  | none => none
 | none => none
abbrev Out := Option (Value × St)
def at0 (k : Nat) : Value := .pointer (some ⟨k, 0, none⟩)
def ZdC (ρ : Operand → Value) (o : Oper) (s : St) : Out :=
 bif Z5 (fun x => free (ρ x)) o.op.operands.toList then
  match ZlX P (execOp ρ o) with
  | some (.value v) => bif free v then some (v, s) else none
  | _ => none
 else none
def Zki : Value → Option Nat
 | .int _ (.ofNat n) => some n
 | _ => none
def Zgh (ρ : Operand → Value) (d : Nat) : Option Operand → Option Nat
 | none => some d
 | some x => Zki (ρ x)
def rep (z : List Value) (n : Nat) : List Value := (List.range n).map fun j => z.getD (j % z.length) undef
def ZdO : Cell → Value
 | .i n => .int .i64 n
 | .b q => .bool q
 | .k kk n => .int kk n
 | .s x => .string x
 | .any => .chan (some 0)
 | .m id o n c => .slice (some ⟨id, o, some 0⟩) n c
def Zw (l : List Cell) : List Value := l.map ZdO
def Zay (id o m : Nat) : Option (List Cell) :=
 match decode id with
 | some c => ZO m (c.drop o)
 | none => none
def Z0b (ns : List Int) : ByteArray := ns.foldl (fun r n => r.push (UInt8.ofNat n.toNat)) ByteArray.empty
def Zgt (b : ByteArray) : List Value := b.data.toList.map fun x => .int .u8 x.toNat
def Zfg (s : St) (z : List Value) (size : Nat) (tx : TypeId) (x : Value) : Option (Nat × List Value) :=
 match P.underlying tx, x with
 | some (.slice _), .slice none 0 0 => some (0, [])
 | some (.slice _), .slice (some ⟨k, o, none⟩) n _ => match ZoP s k o (n * size) with
  | some l => bif Z5 Zbw l then some (n, l) else none
  | none => none
 | some (.slice _), .slice (some ⟨id, o, some _⟩) n _ => bif Nat.beq (n * size) 0 then some (n, []) else match Zay id o (n * size) with
  | some c => some (n, Zw c)
  | none => none
 | some (.int _), .int _ (.ofNat n) => bif Nat.blt 0 n && Nat.blt 0 size && Nat.ble n 100000 then some (n, rep z (n * z.length)) else none
 | some .string, .string b => bif Nat.beq size 1 then some (b.size, Zgt b) else none
 | _, _ => none
def Zdq (s : St) (ts tx : TypeId) (x y : Value) : Out :=
 match P.underlying ts with
 | some (.slice e) => match P.info? e, ZgT P e with
  | some i, some z => match Zfg P s z i.size tx y with
   | some (m, l) => bif Nat.ble m 100000 && Nat.ble i.bytes 1000 && Nat.beq z.length i.size then match x with
    | .slice none 0 0 => bif Nat.beq m 0 then some (x, s) else some (.slice (some ⟨s.n, 0, none⟩) m m, s.add l e)
    | .slice (some ⟨k, o, none⟩) n c =>
     bif Nat.beq m 0 then some (x, s)
     else bif Nat.ble (n + m) c then match Zdg s k (o + n * i.size) l with
      | some s' => some (.slice (some ⟨k, o, none⟩) (n + m) c, s')
      | none => none
     else bif Nat.beq o 0 && Nat.ble n 100000 then match s.h.get k with
      | some (.cells cs e' q) => bif Nat.beq e e' then match ZO (n * i.size) cs with
       | some old => some (.slice (some ⟨s.n, 0, none⟩) (n + m) (n + m), s.turn k (old ++ l) e q)
       | none => none
       else none
      | _ => none
     else none
    | _ => none
    else none
   | none => none
  | _, _ => none
 | _ => none
def Zgu (ρ : Operand → Value) (t n : Nat) (ps : Array (Nat × Operand)) (s : St) : Out :=
 match P.underlying t with
 | some (.slice e) => match P.info? e, ZgT P e with
  | some i, some z => bif Nat.beq n 0 && ps.isEmpty then some (.slice (some ⟨s.n, 0, none⟩) 0 0, s.add [] e)
   else bif Nat.ble (n * i.size) 100000 && Nat.blt 0 (n * i.size) && Nat.blt 0 z.length then
    match Instr.fill (fun j => some (j * i.size, i.size)) (rep z (n * i.size)).toArray (ps.toList.map fun p => (p.1, ρ p.2)) with
    | some c => some (.slice (some ⟨s.n, 0, none⟩) n n, s.add c.toList e)
    | none => none
   else none
  | _, _ => none
 | _ => none
end
section
variable (P : Program) (ρ : Operand → Value) (t : TypeId)
def Zmy (ps : Array (Nat × Operand)) (s : St) : Out :=
 match ZgT P t, P.built t (ps.toList.map fun p => (p.1, ρ p.2)) with
 | some _, some cs => some (.agg cs, s)
 | _, _ => none
def ZiO (a x : Operand) (s : St) : Out :=
 match ρ a, P.info? t with
 | .pointer (some ⟨k, o, none⟩), some i =>
  bif Nat.beq (ρ x).cells.size i.size then match Zdg s k o (ρ x).cells.toList with
   | some s' => some (undef, s')
   | none => none
  else none
 | _, _ => none
def ZhC (a x : Operand) (c' : List Value) (s : St) : Out :=
 match ρ a, P.info? t with
 | .pointer (some ⟨k, o, none⟩), some i =>
  bif Nat.beq (ρ x).cells.size i.size && Z5 Zbw (ρ x).cells.toList then match s.h.get k with
   | some (.cells c t q) => bif !q || Nat.blt 0 (ρ x).cells.toList.length then some (undef, (s.putK k c' t q).told (dP (o + (ρ x).cells.toList.length ≤ c.length ∧ Zgr c o (ρ x).cells.toList = c'))) else none
   | _ => none
  else none
 | _, _ => none
def ZoQ (k id : Nat) : Nat → Value → Value
 | d + 1, .agg cs => .agg ((cs.toList.map (ZoQ k id d)).toArray)
 | d + 1, .tuple cs => .tuple ((cs.toList.map (ZoQ k id d)).toArray)
 | _, .slice (some ⟨j, 0, none⟩) n m => bif Nat.beq j k then .slice (some ⟨id, 0, some 0⟩) n m else .slice (some ⟨j, 0, none⟩) n m
 | _, v => v
def nlV : Nat → Value → Value
 | d + 1, .agg cs => .agg ((cs.toList.map (nlV d)).toArray)
 | d + 1, .tuple cs => .tuple ((cs.toList.map (nlV d)).toArray)
 | _, .slice none 0 0 => .slice (some ⟨code [], 0, some 0⟩) 0 0
 | _, v => v
def Zk2 (a x : Operand) (k : Nat) (cs : List Cell) (c' : List Value) (s : St) : Out :=
 match s.h.get k with
 | some (.cells cl _) => ZhC P (fun y => ZoQ k (code cs) 2 (ρ y)) t a x c' ((⟨s.h.set k none, s.n, k :: s.wr, s.orc, s.ob⟩ : St).told (dP (cl = Zw cs)))
 | _ => none
end
def ZwJ (P : Program) (s : St) (z : List Value) (size : Nat) (tx : TypeId) (x : Value) : Option (Nat → List Value → Prop) :=
 match P.underlying tx, x with
 | some (.slice _), .slice (some ⟨k, o, none⟩) n _ => match s.h.get k with
  | some (.cells c _) => some fun m l => m = n ∧ ZO (n * size) (c.drop o) = some l ∧ Z5 Zbw l = true
  | some (.ro O) => some fun m l => m = n ∧ ((n * size = 0 ∧ l = []) ∨ (n * size ≠ 0 ∧ Z0a O o (n * size) = some l ∧ Z5 atom l = true))
  | _ => none
 | some (.slice _), .slice (some ⟨id, o, some _⟩) n _ => some fun m l => m = n ∧ ((n * size = 0 ∧ l = []) ∨ ∃ c, n * size ≠ 0 ∧ Zay id o (n * size) = some c ∧ l = Zw c)
 | some (.int _), .int _ v => some fun m l => v = Int.ofNat m ∧ 0 < m ∧ m ≤ 100000 ∧ 0 < size ∧ l = rep z (m * z.length)
 | some .string, .string b => bif Nat.beq size 1 then some (fun m l => m = b.size ∧ l = Zgt b) else none
 | _, _ => none
section
variable (P : Program) (s : St) (ts tx : TypeId) (x y : Value)
def ZgU (m : Nat) (l c : List Value) : Out :=
 match P.underlying ts with
 | some (.slice e) => match P.info? e, ZgT P e with
  | some i, some z => match ZwJ P s z i.size tx y with
   | some p => bif Nat.ble i.bytes 1000 && Nat.beq z.length i.size then match x with
    | .slice none 0 0 => some (.slice (some ⟨s.n, 0, none⟩) m m, (s.add c e).told (dP (p m l ∧ 0 < m ∧ m ≤ 100000 ∧ l = c)))
    | .slice (some ⟨k, o, none⟩) n cp => bif Nat.beq o 0 then match s.h.get k with
     | some (.cells cs e' q) => bif Nat.beq e e' then some (.slice (some ⟨s.n, 0, none⟩) (n + m) (n + m), (s.turn k c e q).told (dP (p m l ∧ 0 < m ∧ m ≤ 100000 ∧ cp < n + m ∧ n ≤ 100000 ∧ n * i.size ≤ cs.length ∧ cs.take (n * i.size) ++ l = c))) else none
     | _ => none
     else none
    | _ => none
    else none
   | none => none
  | _, _ => none
 | _ => none
def Zk3 (m : Nat) (l c : List Value) : Out :=
 match P.underlying ts with
 | some (.slice e) => match P.info? e, ZgT P e with
  | some i, some z => match ZwJ P s z i.size tx y with
   | some p => bif Nat.ble i.bytes 1000 && Nat.beq z.length i.size then match x with
    | .slice (some ⟨k, o, none⟩) n cp => match s.h.get k with
     | some (.cells cs e') => some (.slice (some ⟨k, o, none⟩) (n + m) cp, (s.putK k c e').told (dP ((p m l ∧ Z5 Zbw l = true) ∧ 0 < m ∧ m ≤ 100000 ∧ n + m ≤ cp ∧ (o + n * i.size + l.length ≤ cs.length ∧ Zgr cs (o + n * i.size) l = c))))
     | _ => none
    | _ => none
    else none
   | none => none
  | _, _ => none
 | _ => none
def Zk4 : Out :=
 match P.underlying ts with
 | some (.slice e) => match P.info? e, ZgT P e with
  | some i, some z => match ZwJ P s z i.size tx y with
   | some p => bif Nat.ble i.bytes 1000 && Nat.beq z.length i.size then match x with
    | .slice none 0 0 => some (x, s.told (dP (p 0 [])))
    | .slice (some ⟨_, _, none⟩) _ _ => some (x, s.told (dP (p 0 [])))
    | _ => none
    else none
   | none => none
  | _, _ => none
 | _ => none
def Zmz (m : Nat) (l c : List Value) (cs : List Cell) : Out :=
 match ZgU P s ts tx x y m l c with
 | some (.slice (some ⟨j, 0, none⟩) n1 n2, s1) => bif Nat.beq j s.n then match s1.h.get s.n with
  | some (.cells cl _) => some (.slice (some ⟨code cs, 0, some 0⟩) m m, (⟨s1.h.set s.n none, s1.n, s1.wr, s1.orc, s1.ob⟩ : St).told (dP (n1 = m ∧ n2 = m ∧ cl = Zw cs)))
  | _ => none
  else none
 | _ => none
def Zm0 (m : Nat) (l c0 c : List Value) : Out :=
 match ZgU P s ts tx x y m l c0 with
 | some (v, s1) => match s1.h.get s.n with
  | some (.cells cl e q) => some (v, (⟨s1.h.set s.n (some (.cells c e q)), s1.n, s1.wr, s1.orc, s1.ob⟩ : St).told (dP (cl.map (nlV 0) = c)))
  | _ => none
 | none => none
end
section
variable (P : Program) (ρ : Operand → Value) (t : TypeId)
def Zhs (x : Operand) (f : Nat) (s : St) : Out :=
 match P.underlying t, ρ x with
 | some (.struct fs), .pointer (some ⟨k, o, none⟩) => match fs[f]? with
  | some f => match P.info? f.type with
   | some i => bif Nat.beq i.size 0 then none else some (.pointer (some ⟨k, o + f.offset, none⟩), s)
   | none => none
  | none => none
 | some (.struct fs), .pointer (some ⟨id, o, some z⟩) => match fs[f]? with
  | some f => match P.info? f.type with
   | some i => bif Nat.beq i.size 0 then none else some (.pointer (some ⟨id, o + f.offset, some z⟩), s)
   | none => none
  | none => none
 | _, _ => none
def Zm1 (x : Operand) (f : Nat) (s : St) : Out :=
 match P.underlying t, ρ x with
 | some (.struct fs), .agg cs => match fs[f]? with
  | some f => match Zgs P f.type cs f.offset with | some v => some (v, s) | none => none
  | none => none
 | _, _ => none
def Zm2 (x ix : Operand) (s : St) : Out :=
 match P.underlying t, ρ x, Zki (ρ ix) with
 | some (.array len e), .agg cs, some i => match P.info? e with
  | some ie => bif Nat.blt i len then match Zgs P e cs (i * ie.size) with | some v => some (v, s) | none => none else none
  | none => none
 | _, _, _ => none
def ZdS (x ix : Operand) (s : St) : Out :=
 match P.underlying t, ρ x, Zki (ρ ix) with
 | some (.slice e), .slice (some ⟨k, o, none⟩) n _, some i => match P.info? e with
  | some ie => bif Nat.blt i n then some (.pointer (some ⟨k, o + i * ie.size, none⟩), s) else none
  | none => none
 | some (.array n e), .pointer (some ⟨k, o, none⟩), some i => match P.info? e with
  | some ie => bif Nat.blt i n then some (.pointer (some ⟨k, o + i * ie.size, none⟩), s) else none
  | none => none
 | some (.slice e), .slice (some ⟨id, o, some z⟩) n _, some i => match P.info? e with
  | some ie => bif Nat.blt i n then some (.pointer (some ⟨id, o + i * ie.size, some z⟩), s) else none
  | none => none
 | _, _, _ => none
def Zdh (v : Value) (n : Nat) : Bool :=
 match v with
 | .int _ b => b == Int.ofNat n
 | _ => false
def Zgv (x ix : Operand) (i : Nat) (s : St) : Out :=
 match P.underlying t, ρ x with
 | some (.slice e), .slice (some ⟨k, o, none⟩) n _ => match P.info? e with
  | some ie => some (.pointer (some ⟨k, o + i * ie.size, none⟩), (s.told (Zdh (ρ ix) i)).told (Nat.blt i n))
  | none => none
 | some (.array n e), .pointer (some ⟨k, o, none⟩) => match P.info? e with
  | some ie => some (.pointer (some ⟨k, o + i * ie.size, none⟩), (s.told (Zdh (ρ ix) i)).told (Nat.blt i n))
  | none => none
 | some (.slice e), .slice (some ⟨id, o, some z⟩) n _ => match P.info? e with
  | some ie => some (.pointer (some ⟨id, o + i * ie.size, some z⟩), (s.told (Zdh (ρ ix) i)).told (Nat.blt i n))
  | none => none
 | _, _ => none
def ZcI (ρ : Operand → Value) (d : Nat) (x : Option Operand) (n : Nat) : Bool :=
 match x with
 | none => dP (d = n)
 | some x => Zdh (ρ x) n
def Zk5 (x : Operand) (lo hi : Option Operand) (l h : Nat) (s : St) : Out :=
 match P.underlying t, ρ x with
 | some (.slice e), .slice (some ⟨k, o, none⟩) n c => match P.info? e with
  | some ie => bif Nat.blt 0 ie.size then some (.slice (some ⟨k, o + l * ie.size, none⟩) (h - l) (c - l), ((s.told (ZcI ρ 0 lo l)).told (ZcI ρ n hi h)).told (dP (l ≤ h ∧ h ≤ c))) else none
  | none => none
 | some (.slice e), .slice none 0 0 => match P.info? e with
  | some _ => some (.slice none 0 0, ((s.told (ZcI ρ 0 lo l)).told (ZcI ρ 0 hi h)).told (dP (l = 0 ∧ h = 0)))
  | none => none
 | _, _ => none
def Zk6 (x : Operand) (lo hi : Option Operand) (l h m : Nat) (cs : List Cell) (s : St) : Out :=
 match P.underlying t, ρ x with
 | some (.slice e), .slice (some ⟨id, o, some _⟩) n c => match P.info? e with
  | some ie => some (.slice (some ⟨code cs, 0, some 0⟩) m m, ((s.told (ZcI ρ 0 lo l)).told (ZcI ρ n hi h)).told (dP (l ≤ h ∧ h ≤ c ∧ Zay id (o + l * ie.size) cs.length = some cs ∧ (h - l) * ie.size = cs.length ∧ m = h - l)))
  | none => none
 | _, _ => none
def ZoR (x : Operand) (lo hi : Option Operand) (h : Nat) (c' : List Value) (s : St) : Out :=
 match P.underlying t, ρ x with
 | some (.slice e), .slice (some ⟨k, o, none⟩) n c => match P.info? e, s.h.get k with
  | some ie, some (.cells cs e' q) => bif Nat.beq e e' && Nat.beq o 0 then some (.slice (some ⟨s.n, 0, none⟩) h h, (((s.turn k c' e q).told (ZcI ρ 0 lo 0)).told (ZcI ρ n hi h)).told (dP (cutP q c (h ≤ c ∧ 0 < ie.size ∧ c * ie.size ≤ cs.length ∧ cs.take (h * ie.size) = c')))) else none
  | _, _ => none
 | _, _ => none
def ZdD : List Value → List Cell → Bool
 | [], [] => true
 | .int .i64 a :: r, .i b :: l => (a == b) && ZdD r l
 | .bool a :: r, .b b :: l => (a == b) && ZdD r l
 | .int k a :: r, .k k' b :: l => (decide (k = k') && (a == b)) && ZdD r l
 | .string a :: r, .s b :: l => dP (a = b) && ZdD r l
 | v :: r, .any :: l => dP (v.oneCell' = true) && ZdD r l
 | v :: r, .m id o n c :: l => dP (v = .slice (some ⟨id, o, some 0⟩) n c) && ZdD r l
 | _, _ => false
def Ze8 (r : Option (List Value)) (l : List Cell) : Bool :=
 match r with
 | some c => ZdD c l
 | none => false
def Znm (s : St) (k o m : Nat) : Option (List Value) :=
 match s.h.get k with
 | some (.cells c _ q) => match q with
  | false => ZO m (c.drop o)
  | true => bif Nat.beq m 0 then none else ZO m (c.drop o)
 | _ => none
def Zm3 (a : Operand) (l : List Cell) (s : St) : Out :=
 match ρ a with
 | .pointer (some ⟨k, o, none⟩) => match Zjp P t with
  | some (true, m) => some (.agg (Zw l).toArray, s.told (Ze8 (Znm s k o m) l))
  | some (false, _) => match l with
   | [x] => some (ZdO x, s.told (Ze8 (Znm s k o 1) l))
   | _ => none
  | none => none
 | .pointer (some ⟨id, o, some _⟩) => match Zjp P t with
  | some (true, m) => some (.agg (Zw l).toArray, s.told (dP (Zay id o m = some l)))
  | some (false, _) => match l with
   | [x] => some (ZdO x, s.told (dP (Zay id o 1 = some l)))
   | _ => none
  | none => none
 | _ => none
def ZfU (x : Operand) (lo hi : Option Operand) (s : St) : Out :=
 match P.underlying t, ρ x with
 | some (.slice e), .slice (some ⟨k, o, none⟩) n c => match P.info? e, Zgh ρ 0 lo, Zgh ρ n hi with
  | some ie, some l, some h => bif Nat.ble l h && Nat.ble h c && Nat.blt 0 ie.size then some (.slice (some ⟨k, o + l * ie.size, none⟩) (h - l) (c - l), s) else none
  | _, _, _ => none
 | some (.slice e), .slice none 0 0 => match P.info? e, Zgh ρ 0 lo, Zgh ρ 0 hi with
  | some _, some 0, some 0 => some (.slice none 0 0, s)
  | _, _, _ => none
 | some (.array n e), .pointer (some ⟨k, o, none⟩) => match P.info? e, Zgh ρ 0 lo, Zgh ρ n hi with
  | some ie, some l, some h => bif Nat.ble l h && Nat.ble h n && Nat.blt 0 ie.size then some (.slice (some ⟨k, o + l * ie.size, none⟩) (h - l) (n - l), s) else none
  | _, _, _ => none
 | _, _ => none
def Zk7 (x : Operand) (lo hi : Option Operand) (s : St) : Out :=
 match P.underlying t, ρ x, hi with
 | some .string, .string b, some y => match Zgh ρ 0 lo, Zki (ρ y) with
  | some l, some h => bif Nat.ble l h then (match s.tst (Nat.ble h b.size) with
   | (true, s1) => some (.string (b.extract l h), s1)
   | (false, _) => none) else none
  | _, _ => none
 | _, _, _ => none
def opZ (ρ : Operand → Value) (d : Int) : Option Operand → Option Int
 | none => some d
 | some y => match ρ y with
  | .int _ z => some z
  | _ => none
noncomputable def Zk8 (x : Operand) (lo hi : Option Operand) (M : List Int) (s : St) : Out :=
 match P.underlying t, ρ x with
 | some .string, .string b => match opZ ρ 0 lo, opZ ρ (b.size : Int) hi with
  | some l, some h => some (.string (Z0b M), s.told (dP (0 ≤ l ∧ l ≤ h ∧ h ≤ (b.size : Int) ∧ b.extract l.toNat h.toNat = Z0b M)))
  | _, _ => none
 | _, _ => none
noncomputable def Zk9 (x ix : Operand) (c : List Int) (s : St) : Out :=
 match P.underlying t, ρ x, ρ ix, c with
 | some .string, .string b, .int _ z, [n] => some (.int .u8 n, s.told (dP (∃ y, 0 ≤ z ∧ b[z.toNat]? = some y ∧ n = (y.toNat : Int))))
 | _, _, _, _ => none
end
def ZsM : Option TypeDesc → Value → Value → Option Bool
 | some (.pointer _), .pointer none, .pointer b => some b.isNone
 | some (.pointer _), .pointer _, .pointer none => some false
 | some (.slice _), .slice none _ _, .slice none _ _ => some true
 | some (.slice _), .slice none _ _, .slice (some _) _ c => bif Zmx && Nat.beq c 0 then none else some false
 | some (.slice _), .slice (some _) _ c, .slice none _ _ => bif Zmx && Nat.beq c 0 then none else some false
 | some (.func ..), .nilFunc, .func .. => some false
 | some (.func ..), .func .., .nilFunc => some false
 | _, _, _ => none
def u8T : TypeId := 5
def ZiP : Option AObj → Bool
 | some (.cells _ t) => !Nat.beq t u8T
 | _ => false
section
variable (P : Program) (h : Tr AObj) (d : Option TypeDesc) (x y : Value)
def Z0c : Option Bool :=
 match d, x, y with
 | some (.pointer el), .pointer (some ⟨k, _, none⟩), .pointer (some ⟨k', _, none⟩) => match P.info? el with
  | some i => bif !Nat.beq i.size 0 && (!Nat.beq k k' && (ZiP (h.get k) && ZiP (h.get k'))) then some false else none
  | none => none
 | _, _, _ => none
def Zue (P : Program) (d : Option TypeDesc) (x y : Value) : Bool :=
 match d, x, y with
 | some (.pointer el), .pointer (some ⟨k, o, none⟩), .pointer (some ⟨k', o', none⟩) => match P.info? el with
  | some _ => Nat.beq k k' && Nat.beq o o'
  | none => false
 | _, _, _ => false
def ZoS : Option Bool :=
 match ZsM d x y with
 | some q => some q
 | none => bif Zue P d x y then some true else Z0c P h d x y
end
def Z0T : Value → List Nat
 | .pointer (some ⟨k, _, none⟩) => [k]
 | _ => []
def ZwK (P : Program) (g : TypeId → Value → Value → Option Bool) (xs ys : Array Value) : List Field → Option Bool
 | [] => some true
 | f :: fs => bif f.name == "_" then none else match Zgs P f.type xs f.offset, Zgs P f.type ys f.offset, ZwK P g xs ys fs with
  | some a, some b, some r => match g f.type a b with | some q => some (q && r) | none => none
  | _, _, _ => none
def ZwL (P : Program) (g : Value → Value → Option Bool) (e : TypeId) (sz : Nat) (xs ys : Array Value) : Nat → Nat → Option Bool
 | 0, _ => some true
 | n + 1, i => match Zgs P e xs (i * sz), Zgs P e ys (i * sz), ZwL P g e sz xs ys n (i + 1) with
  | some a, some b, some r => match g a b with | some q => some (q && r) | none => none
  | _, _, _ => none
def eqV (P : Program) : Nat → TypeId → Value → Value → Option Bool
 | 0, _, _, _ => none
 | d + 1, t, x, y => match P.underlying t, x, y with
  | some (.int _), .int k a, .int k' b => if k = k' then some (a == b) else none
  | some .bool, .bool a, .bool b => some (a == b)
  | some (.struct fs), .agg xs, .agg ys => bif P.stoodInHeld t then none else ZwK P (eqV P d) xs ys fs.toList
  | some (.array n e), .agg xs, .agg ys => match P.info? e with | some i => ZwL P (eqV P d e) e i.size xs ys n 0 | none => none
  | _, _, _ => none
def Znn (P : Program) (t : TypeId) (x y : Value) : Option Bool :=
 match x, y with
 | .agg _, .agg _ => bif P.eqGuardType P.depth t then none else eqV P 8 t x y
 | _, _ => none
def Zjg (P : Program) (ρ : Operand → Value) (o : Oper) (op : BinOp) (t : TypeId) (x y : Operand) (s : St) : Out :=
 match Znn P t (ρ x) (ρ y), op with
 | some q, .eql => some (.bool q, s)
 | some q, .neq => some (.bool (!q), s)
 | _, _ => match ZdC P ρ o s with
 | some r => some r
 | none => match ZoS P s.h (P.underlying t) (ρ x) (ρ y), op with
  | some q, .eql => some (.bool q, s)
  | some q, .neq => some (.bool (!q), s)
  | _, _ => none
section
variable (ρ : Operand → Value)
def ZoT (x y : Operand) (s : St) : Out :=
 match ρ x, ρ y with
 | .int k a, .int k' b => some (.int k (Int.tmod a b), s.told (dP (k = k' ∧ b ≠ 0)))
 | _, _ => none
def Zq0 (op : BinOp) (x y : Operand) (n : Nat) (s : St) : Out :=
 match ρ x, ρ y, op with
 | .int k a, .int _ b, .shl => some (.int k (k.wrap (a * 2 ^ n)), s.told (dP (b = Int.ofNat n ∧ n ≤ k.bits)))
 | .int k a, .int _ b, .shr => some (.int k (a / 2 ^ n), s.told (dP (b = Int.ofNat n ∧ n ≤ k.bits)))
 | _, _, _ => none
def ZsN (x y : Operand) (s : St) : Out :=
 match ρ x, ρ y with
 | .string a, .string b => some (.string (a ++ b), s.told (dP (((a.size + b.size : Nat) : Int) ≤ IntKind.i64.max)))
 | _, _ => none
end
section
variable (P : Program) (ρ : Operand → Value) (t : TypeId) (l c : Operand)
def ZeW (s : St) : Out :=
 match P.underlying t, Zki (ρ l), Zki (ρ c) with
 | some (.slice e), some l, some c => match P.info? e, ZgT P e with
  | some i, some z => bif Nat.ble l c && Nat.ble c 300000 && Nat.ble i.bytes 1000 && Nat.blt 0 z.length then
    some (.slice (some ⟨s.n, 0, none⟩) l c, s.add (rep z (c * i.size)) e)
   else none
  | _, _ => none
 | _, _, _ => none
def Zm4 (n cp : Nat) (cs : List Value) (s : St) : Out :=
 match P.underlying t with
 | some (.slice e) => match P.info? e, ZgT P e with
  | some i, some z => bif Nat.ble i.bytes 1000 && Nat.blt 0 z.length then
    some (.slice (some ⟨s.n, 0, none⟩) n cp, (((s.add cs e).told (Zdh (ρ l) n)).told (Zdh (ρ c) cp)).told (dP (n ≤ cp ∧ cp ≤ 300000 ∧ rep z (cp * i.size) = cs)))
   else none
  | _, _ => none
 | _ => none
end
def Zm5 : List Value → Option (List Int)
 | [] => some []
 | .int .u8 n :: l => match Zm5 l with | some r => some (n :: r) | none => none
 | _ => none
section
variable (P : Program) (t : TypeId)
def sz1 : Bool :=
 match P.info? t with
 | some i => Nat.beq i.size 1
 | none => false
def ZkA (P : Program) (a b : TypeId) (z : ByteArray) (r : Option Told) (s : St) : Out :=
 match P.underlying a, P.underlying b with
 | some .string, some (.slice e) => match P.underlying e with
  | some (.int .u8) => bif Nat.beq e u8T && sz1 P e then match r with
   | none => some (.slice (some ⟨s.n, 0, none⟩) z.size z.size, s.add (Zgt z) e)
   | some (.mk l _ c) => some (.slice (some ⟨s.n, 0, none⟩) l l, (s.add c e).told (dP (z.size = l ∧ Zgt z = c)))
   | some _ => none
   else none
  | _ => none
 | _, _ => none
def Z1O (u : TypeId) : Bool := Nat.beq t u || (match P.underlying t with
 | some (.struct fs) => !P.stoodInHeld t && (match fs[0]? with
  | some f => Nat.beq f.offset 0 && Nat.beq f.type u
  | none => false)
 | _ => false)
def Z0U (n : Nat) : Bool := match P.info? t with
 | some j => Nat.blt 0 j.size && Nat.ble j.size n
 | none => false
end
section
variable (P : Program) (ρ : Operand → Value) (a b : TypeId) (x : Operand)
def ZhX (s : St) : Out :=
 match P.underlying a, P.underlying b, ρ x with
 | some (.slice e), some .string, .slice (some ⟨k, o, none⟩) n _ => match P.underlying e, rowAt s k o n with
  | some (.int .u8), some l => match Zm5 l with
   | some ns => some (.string (ns.foldl (fun r n => r.push (UInt8.ofNat n.toNat)) ByteArray.empty), s)
   | none => none
  | _, _ => none
 | some (.pointer t), some .unsafePointer, .pointer (some ⟨k, o, none⟩) => match P.info? t, rowAt s k o 1 with
  | some i, some [_] => bif Nat.beq i.size 0 then none else some (.pointer (some ⟨k, o, none⟩), s)
  | _, _ => none
 | some .unsafePointer, some (.pointer u), .pointer (some ⟨k, 0, none⟩) => match P.info? u, s.h.get k with
  | some i, some (.cells c t) => bif Nat.blt 0 i.size && (Z1O P t u && Z0U P t c.length) then some (.pointer (some ⟨k, 0, none⟩), s) else none
  | _, _ => none
 | _, _, _ => none
def Zie (ns : List Int) (s : St) : Out :=
 match P.underlying a, P.underlying b, ρ x with
 | some (.slice e), some .string, .slice (some ⟨k, o, none⟩) n _ => match P.underlying e with
  | some (.int .u8) => some (.string (ns.foldl (fun r n => r.push (UInt8.ofNat n.toNat)) ByteArray.empty), s.told (dP (ZoP s k o n = some (ns.map (Value.int .u8)))))
  | _ => none
 | some (.slice e), some .string, .slice (some ⟨id, o, some _⟩) n _ => match P.underlying e with
  | some (.int .u8) => some (.string (ns.foldl (fun r n => r.push (UInt8.ofNat n.toNat)) ByteArray.empty), s.told (dP (Zay id o n = some (ns.map (Cell.k .u8)))))
  | _ => none
 | _, _, _ => none
end
section
variable (kk : IntKind) (e : Nat) (args : Array Value)
def Zej (s : St) : Out :=
 match args.toList with
 | .pointer (some ⟨k, o, none⟩) :: r => match rowAt s k o 1 with
  | some [.int ck v] => if ck = kk then match e, r with
   | 0, [] => some (.int kk v, s)
   | 1, [.int xk x] => if xk = kk then (match Zdg s k o [.int kk x] with | some s' => some (.tuple #[], s') | none => none) else none
   | 2, [.int xk d] => if xk = kk then (match Zdg s k o [.int kk (kk.wrap (v + d))] with | some s' => some (.int kk (kk.wrap (v + d)), s') | none => none) else none
   | 3, [.int xk x, .int yk y] => if xk = kk ∧ yk = kk then (match s.tst (v == x) with
    | (true, s1) => match Zdg s1 k o [.int kk y] with | some s' => some (.bool true, s') | none => none
    | (false, s1) => some (.bool false, s1)) else none
   | _, _ => none
   else none
  | _ => none
 | _ => none
def Zjq (v : Int) (c' : List Value) (s : St) : Out :=
 match args.toList with
 | .pointer (some ⟨k, o, none⟩) :: r => match s.h.get k with
  | some (.cells c t) => match e, r with
   | 0, [] => some (.int kk v, s.told (dP (ZO 1 (c.drop o) = some [.int kk v])))
   | 1, [.int xk x] => if xk = kk then some (.tuple #[], (s.putK k c' t).told (dP (ZO 1 (c.drop o) = some [.int kk v] ∧ o + 1 ≤ c.length ∧ Zgr c o [.int kk x] = c'))) else none
   | 2, [.int xk d] => if xk = kk then some (.int kk (kk.wrap (v + d)), (s.putK k c' t).told (dP (ZO 1 (c.drop o) = some [.int kk v] ∧ o + 1 ≤ c.length ∧ Zgr c o [.int kk (kk.wrap (v + d))] = c'))) else none
   | 3, [.int xk x, .int yk y] => if xk = kk ∧ yk = kk then (match (s.told (dP (ZO 1 (c.drop o) = some [.int kk v]))).tst (v == x) with
    | (true, s1) => some (.bool true, (s1.putK k c' t).told (dP (o + 1 ≤ c.length ∧ Zgr c o [.int kk y] = c')))
    | (false, s1) => some (.bool false, s1)) else none
   | _, _ => none
  | _ => none
 | _ => none
end
def ZoU (n : Nat) (args : Array Value) (s : St) : Out :=
 match n, args.toList with
 | 0, [] => some (.tuple #[], s)
 | 1, [.pointer (some ⟨_, _, none⟩)] => some (.tuple #[], s)
 | _, _ => none
/-! Maps, their keys numbers. -/
def Zw7 (q : IntKind) (k : Value) (es : List MapEntry) : Option (Option Value) :=
 match Instr.findNow (.int q) k es 0 with
 | some (some r) => some (some r.2)
 | some none => some none
 | none => none
def Z0d (q : IntKind) (k x : Value) (es : List MapEntry) : Option (List MapEntry) :=
 match Instr.findNow (.int q) k es 0 with
 | some none => some (es ++ [⟨k, x, 0⟩])
 | some (some r) => some (es.modify r.1 fun e => ⟨k, x, e.born⟩)
 | none => none
section
variable (P : Program)
def ZwM (t : TypeId) : Bool :=
 match P.underlying t with
 | some (.int _) | some .bool | some .string => true
 | _ => false
def Zno (P : Program) (cs : Array Value) : List Field → Bool
 | [] => true
 | f :: fs => (f.name == "_" || (ZwM P f.type && (Zgs P f.type cs f.offset).isSome)) && Zno P cs fs
def ZkB (P : Program) (kt : TypeId) (k : Value) : List MapEntry → Nat → Option (Option (Nat × Value))
 | [], _ => some none
 | e :: es, i => bif Zbv e.key then match Znn P kt k e.key with
  | some true => some (some (i, e.val))
  | some false => ZkB P kt k es (i + 1)
  | none => none
  else none
def Zcu (kt : TypeId) (k : Value) (es : List MapEntry) : Option (Option (Nat × Value)) :=
 match P.underlying kt with
 | some (.int q) => Instr.findNow (.int q) k es 0
 | some .string => Instr.findNow .string k es 0
 | some (.struct fs) => match k with
  | .agg cs => bif Zno P cs fs.toList then ZkB P kt k es 0 else none
  | _ => none
 | _ => none
def putM (kt : TypeId) (k x : Value) (es : List MapEntry) : Option (List MapEntry) :=
 match Zcu P kt k es with
 | some none => some (es ++ [⟨k, x, 0⟩])
 | some (some r) => bif Instr.sameBits 10000 (((es[r.1]?).map (·.key)).getD k) k then some (es.modify r.1 fun e => ⟨k, x, e.born⟩) else none
 | none => none
def Zw8 (t : TypeId) : Option Value :=
 match P.info? t with
 | some i => match i.zero with
  | some z => bif Zbv z then some z else none
  | none => none
 | none => none
end
def ZgV (z : Value) (ok : Bool) (r : Option Value) : Value :=
 match ok with
 | true => .tuple #[r.getD z, .bool r.isSome]
 | false => r.getD z
def ZkC : Option Value → Bool
 | some v => Zbv v
 | none => true
def Zgw (s : St) : Value → Option (List MapEntry)
 | .map none => some []
 | .map (some k) => match s.h.get k with
  | some (.ro (.map es _) true) => some es.toList
  | _ => none
 | _ => none
section
variable (P : Program) (ρ : Operand → Value) (t : TypeId)
def Zf6 (x ix : Operand) (ok : Bool) (s : St) : Out :=
 match P.underlying t with
 | some (.map kt et) => match Zw8 P et, Zgw s (ρ x) with
  | some z, some es => bif Zbv (ρ ix) then match Zcu P kt (ρ ix) es with
   | some r => bif ZkC (r.map (·.2)) then some (ZgV z ok (r.map (·.2)), s) else none
   | none => none
   else none
  | _, _ => none
 | _ => none
def Zjr (x ix : Operand) (ok : Bool) (r : Option Value) (s : St) : Out :=
 match P.underlying t with
 | some (.map kt et) => match P.underlying kt, Zw8 P et, Zgw s (ρ x) with
  | some (.int q), some z, some es => bif atom (ρ ix) && ZkC r then some (ZgV z ok r, s.told (dP (Zw7 q (ρ ix) es = some r))) else none
  | some (.struct _), some z, some es => bif Zbv (ρ ix) && ZkC r then some (ZgV z ok r, s.told (dP ((Zcu P kt (ρ ix) es).map (Option.map Prod.snd) = some r))) else none
  | some .string, some z, some es => bif Zbv (ρ ix) && ZkC r then some (ZgV z ok r, s.told (dP ((Zcu P kt (ρ ix) es).map (Option.map Prod.snd) = some r))) else none
  | _, _, _ => none
 | _ => none
def Zf7 (m k x : Operand) (s : St) : Out :=
 match P.underlying t, ρ m with
 | some (.map kt _), .map (some b) => match Zgw s (.map (some b)) with
  | some es => bif Zbv (ρ k) && Zbv (ρ x) then match putM P kt (ρ k) (ρ x) es with
   | some l => some (undef, s.putM b (.map l.toArray 0))
   | none => none
   else none
  | none => none
 | _, _ => none
def Zjs (m k x : Operand) (l : List MapEntry) (s : St) : Out :=
 match P.underlying t, ρ m with
 | some (.map kt _), .map (some b) => match P.underlying kt, Zgw s (.map (some b)) with
  | some (.int q), some es => bif atom (ρ k) && Zbv (ρ x) then some (undef, (s.putM b (.map l.toArray 0)).told (dP (Z0d q (ρ k) (ρ x) es = some l))) else none
  | some (.struct _), some es => bif Zbv (ρ k) && Zbv (ρ x) then some (undef, (s.putM b (.map l.toArray 0)).told (dP (putM P kt (ρ k) (ρ x) es = some l))) else none
  | some .string, some es => bif Zbv (ρ k) && Zbv (ρ x) then some (undef, (s.putM b (.map l.toArray 0)).told (dP (putM P kt (ρ k) (ρ x) es = some l))) else none
  | _, _ => none
 | _, _ => none
def Zm6 (x : Operand) (s : St) : Out :=
 match P.underlying t, ρ x with
 | some .string, .string b => some (.pointer (some ⟨s.n, 0, none⟩), s.addM (.stringIter b 0))
 | _, _ => none
def ZoV (ρ : Operand → Value) (it : Operand) (q : Bool) (s : St) : Out :=
 match q, ρ it with
 | true, .pointer (some ⟨k, 0, none⟩) => match s.h.get k with
  | some (.ro (.stringIter b p) true) => if p < b.size then some (.tuple #[.bool true, goInt p, .int .i32 (Utf8.decode b p).1], s.putM k (.stringIter b (p + (Utf8.decode b p).2))) else some (.tuple #[.bool false], s)
  | _ => none
 | _, _ => none
def Zjt (r : Option Operand) (s : St) : Out :=
 match r with
 | none => some (.map (some s.n), s.addM (.map #[] 0))
 | some x => match P.underlying t, ρ x with
  | some (.map _ _), .int _ _ => some (.map (some s.n), s.addM (.map #[] 0))
  | _, _ => none
end
section
variable (P : Program) (s : St) (t : TypeId) (x : Value)
def ZkD (k : Value) : Out :=
 match P.underlying t, x with
 | some (.map kt _), .map (some b) => match Zgw s (.map (some b)) with
  | some es => bif Zbv k then match Zcu P kt k es with
   | some (some r) => some (.tuple #[], s.putM b (.map (es.eraseIdx r.1).toArray 0))
   | some none => some (.tuple #[], s.putM b (.map es.toArray 0))
   | none => none
   else none
  | none => none
 | _, _ => none
def Zm7 : Out :=
 match P.underlying t, x with
 | some (.map _ _), .map none => some (.tuple #[], s)
 | some (.map _ _), .map (some b) => match Zgw s (.map (some b)) with
  | some _ => some (.tuple #[], s.putM b (.map #[] 0))
  | none => none
 | _, _ => none
end
def callee (ρ : Operand → Value) (c : Call) : Option (FuncId × Array Value) :=
 match c.callee with
 | .value f => match ρ f with
  | .func (.func f) a b => some (f, a ++ c.args.map ρ ++ b)
  | _ => none
 | _ => none
section
variable (P : Program) (ρ : Operand → Value)
def Zju (o : Oper) (c : Call) (b : Builtin) (s : St) : Out :=
 match b with
 | .append => match c.argTypes.toList, c.args.toList with
  | [t, tx], [x, y] => match s.nextW with
   | (some (.ap m l c), s1) => ZgU P s1 t tx (ρ x) (ρ y) m l c
   | (some (.api m l c), s1) => Zk3 P s1 t tx (ρ x) (ρ y) m l c
   | (some .ap0, s1) => Zk4 P s1 t tx (ρ x) (ρ y)
   | (some (.apz m l c cs), s1) => Zmz P s1 t tx (ρ x) (ρ y) m l c cs
   | (some (.apn m l c0 c), s1) => Zm0 P s1 t tx (ρ x) (ρ y) m l c0 c
   | (some _, _) => none
   | (none, s1) => Zdq P s1 t tx (ρ x) (ρ y)
  | _, _ => none
 | .len => match c.argTypes.toList, c.args.toList with
  | [t], [x] => match P.underlying t, ρ x with
   | some (.slice _), .slice (some _) n _ => some (goInt n, s)
   | some (.map _ _), .map (some b) => match Zgw s (.map (some b)) with
    | some es => some (goInt es.length, s)
    | none => none
   | _, _ => ZdC P ρ o s
  | _, _ => none
 | .delete => match c.argTypes.toList, c.args.toList with
  | [t, _], [x, k] => ZkD P s t (ρ x) (ρ k)
  | _, _ => none
 | .clear => match c.argTypes.toList, c.args.toList with
  | [t], [x] => Zm7 P s t (ρ x)
  | _, _ => none
 | _ => ZdC P ρ o s
def Z0e (o : Oper) (t : TypeId) (x : Operand) (lo hi : Option Operand) (s : St) : Out :=
 match s.nextW with
 | (some (.sl l h), s1) => Zk5 P ρ t x lo hi l h s1
 | (some (.ms l h m cs), s1) => Zk6 P ρ t x lo hi l h m cs s1
 | (some (.cut h c), s1) => ZoR P ρ t x lo hi h c s1
 | (some (.bs M), s1) => Zk8 P ρ t x lo hi M s1
 | (some _, _) => none
 | (none, s1) => match ZfU P ρ t x lo hi s1 with | some r => some r | none => match Zk7 P ρ t x lo hi s1 with | some r => some r | none => ZdC P ρ o s1
def ev1 (o : Oper) (s : St) : Out :=
 match o.op with
 | .move x | .assign x => some (ρ x, s)
 | .pick c a b => match ρ c with
  | .bool t => match t with
   | true => some (ρ a, s)
   | false => some (ρ b, s)
  | _ => none
 | .alloc t => match ZgT P t with | some z => some (at0 s.n, s.add z t) | none => none
 | .box t x => some (at0 s.n, s.add (ρ x).cells.toList t)
 | .build t ps => Zmy P ρ t ps s
 | .buildSlice t n ps => Zgu P ρ t n ps s
 | .load t a => match s.nextL with
  | (some l, s1) => Zm3 P ρ t a l s1
  | (none, s1) => match ρ a with
   | .pointer (some ⟨k, o, none⟩) => match Zk1 P s1 t k o with | some v => some (v, s1) | none => none
   | _ => none
 | .store t a x => match s.nextW with
  | (some (.st c), s1) => ZhC P ρ t a x c s1
  | (some (.stf k cs c), s1) => Zk2 P ρ t a x k cs c s1
  | (some _, _) => none
  | (none, s1) => ZiO P ρ t a x s1
 | .nilCheck x => match ρ x with
  | .pointer (some a) => some (.pointer (some a), s)
  | .func (.func f) a b => some (.func (.func f) a b, s)
  | _ => none
 | .fieldAddr t x f => Zhs P ρ t x f s
 | .field t x f => Zm1 P ρ t x f s
 | .index t x ix => match ρ x with
  | .string _ => match s.nextW with
   | (some (.bs c), s1) => Zk9 P ρ t x ix c s1
   | (some _, _) => none
   | (none, s1) => ZdC P ρ o s1
  | _ => match Zm2 P ρ t x ix s with | some r => some r | none => ZdC P ρ o s
 | .indexAddr t x ix => match s.nextX with
  | (some n, s1) => Zgv P ρ t x ix n s1
  | (none, s1) => ZdS P ρ t x ix s1
 | .extract x i => match ρ x with | .tuple vs => (match (vs[i]? : Option Value) with | some v => some (v, s) | none => none) | _ => none
 | .slice t x lo hi mx => match mx with
  | none => Z0e P ρ o t x lo hi s
  | some _ => none
 | .binOp .rem t x y _ => match s.nextW with
  | (some .dv, s1) => ZoT ρ x y s1
  | (some _, _) => none
  | (none, s1) => Zjg P ρ o .rem t x y s1
 | .binOp .shl t x y _ => match s.nextW with
  | (some (.sh n), s1) => Zq0 ρ .shl x y n s1
  | (some _, _) => none
  | (none, s1) => Zjg P ρ o .shl t x y s1
 | .binOp .shr t x y _ => match s.nextW with
  | (some (.sh n), s1) => Zq0 ρ .shr x y n s1
  | (some _, _) => none
  | (none, s1) => Zjg P ρ o .shr t x y s1
 | .binOp .add t x y _ => match ρ x with
  | .string _ => ZsN ρ x y s
  | _ => Zjg P ρ o .add t x y s
 | .binOp op t x y _ => Zjg P ρ o op t x y s
 | .makeSlice t l c => match s.nextW with
  | (some (.mk n cp cs), s1) => Zm4 P ρ t l c n cp cs s1
  | (some _, _) => none
  | (none, s1) => ZeW P ρ t l c s1
 | .makeFunc fn a b => some (.func fn (a.map ρ) (b.map ρ), s)
 | .makeMap t r => Zjt P ρ t r s
 | .range t x => Zm6 P ρ t x s
 | .next it q => ZoV ρ it q s
 | .lookup t x ix ok => match s.nextW with
  | (some (.lk r), s1) => Zjr P ρ t x ix ok r s1
  | (some _, _) => none
  | (none, s1) => Zf6 P ρ t x ix ok s1
 | .mapUpdate t m k x => match s.nextW with
  | (some (.mp l), s1) => Zjs P ρ t m k x l s1
  | (some _, _) => none
  | (none, s1) => Zf7 P ρ t m k x s1
 | .unOp .. => ZdC P ρ o s
 | .makeInterface .. => ZdC P ρ o s
 | .convert a b x => match ρ x with
  | .slice (some _) _ _ => match s.nextW with
   | (some (.bs ns), s1) => Zie P ρ a b x ns s1
   | (some _, _) => none
   | (none, s1) => ZhX P ρ a b x s1
  | .string z => match s.nextW with
   | (r, s1) => match ZkA P a b z r s1 with
    | some r => some r
    | none => ZdC P ρ o s1
  | _ => match ZhX P ρ a b x s with | some r => some r | none => ZdC P ρ o s
 | .call c => match c.callee with
  | .builtin b => Zju P ρ o c b s
  | _ => none
 | _ => none
def ZwN (o : Oper) (v : Value) (s : St) : Value × St :=
 match o.op, v with
 | .binOp .., .bool t | .unOp .., .bool t | .load .., .bool t | .field .., .bool t | .index .., .bool t => match s.tst t with | (b, s') => (.bool b, s')
 | .binOp .., .int k x | .unOp .., .int k x | .convert .., .int k x => match s.vst x with | (y, s') => (.int k y, s')
 | _, _ => (v, s)
def Zm8 (o : Oper) : Option Call :=
 match o.op with
 | .call c => match c.callee with
  | .value _ => some c
  | .invoke _ _ => some c
  | _ => none
 | _ => none
def Zuf (c : Call) : Option (FuncId × Array Value) :=
 match c.callee with
 | .invoke r name => match ρ r with
  | .iface t v => bif Zbv v then match ZlX P (method (P.types.size + Made.depth) t v name) with
   | some (f, x) => bif Zbv x then some (f, #[x] ++ c.args.map ρ) else none
   | none => none
   else none
  | _ => none
 | _ => callee ρ c

end
def ZgW (ops : Array Oper) (T : Tr Value) (o : Oper) (s : St) : Option (Bool × St) :=
 match o.guard with
 | none => some (true, s)
 | some (j, want) => match (ops[j]?).bind (·.dst) with
  | some d => match T.get d with
   | some (.bool b) => some (b == want, s)
   | some (.tuple _) => some (false, s)
   | _ => none
  | none => none
def Zgx (T : Tr Value) (dst : Option Tmp) (v : Value) : Tr Value := match dst with | some d => T.set d (some v) | none => T
inductive Ex where | normal | exit (id : Nat) | ret
def ZgX : Nat → List Value → Tr Value → Tr Value
 | _, [], T => T
 | i, v :: l, T => ZgX (i + 1) l (T.set i (some v))
def Zdr (P : Program) (T : Tr Value) (s : St) : List ResultVar → Option (List Value)
 | [] => some []
 | .tmp t :: l => match Zdr P T s l with | some r => some ((T.get t).getD undef :: r) | none => none
 | .cell a t :: l => match (T.get a).getD undef with
  | .pointer (some ⟨k, o, none⟩) => match Zk1 P s t k o, Zdr P T s l with
   | some v, some r => some (v :: r)
   | _, _ => none
  | _ => none
def Zjh (nt : Nat) : Option Tmp → Bool
 | none => true
 | some d => Nat.blt d nt
/-! ### A region that draws its order: each operation is run on what it ZhY alone, and those that may change places must not meet -/
inductive Ext where
 | at (k : IntKind) (e : Nat)
 | mark (n : Nat)
 | fn (g : List Value → Option Value)
 | hp (g : Array Value → St → Out)
 | tc (S : Array Value → List (Nat × AObj) → Value → List (Nat × Option AObj) → Nat → Nat → Prop)
def AObj.sameAs (o : Option AObj) (p : AObj) : Bool :=
 match o, p with
 | some (.cells c t), .cells c' t' => bif Nat.beq t t' then dP (c = c') else false
 | some (.cells c t true), .cells c' t' true => bif Nat.beq t t' then dP (c = c') else false
 | some (.ro O), .ro O' => dP (O = O')
 | some (.ro O true), .ro O' true => dP (O = O')
 | _, _ => false
def ZaL {α : Type} (k : Nat) : List (Nat × α) → Option α
 | [] => none
 | x :: l => bif Nat.beq x.1 k then some x.2 else ZaL k l
def behind (pre : List (Nat × AObj)) (post : List (Nat × Option AObj)) (k : Nat) : Option AObj :=
 match ZaL k post with
 | some o => o
 | none => ZaL k pre
def ZsO (pre : List (Nat × AObj)) (n n' : Nat) : List (Nat × Option AObj) → Bool
 | [] => true
 | x :: l => ((ZaL x.1 pre).isSome || (x.2.isSome && (Nat.ble n x.1 && Nat.blt x.1 n'))) && ZsO pre n n' l
def Zq1 (h : Tr AObj) : List (Nat × Option AObj) → Tr AObj
 | [] => h
 | x :: l => (Zq1 h l).set x.1 x.2
def Zq2 (s : St) : List (Nat × AObj) → List (Bool × Bool)
 | [] => s.ob
 | x :: l => (AObj.sameAs (s.h.get x.1) x.2, true) :: Zq2 s l
def Zc9 : Value → Bool
 | .iface _ (.agg cs) => !cs.isEmpty && Z5 atom cs.toList
 | _ => false
section
variable (S : Array Value → List (Nat × AObj) → Value → List (Nat × Option AObj) → Nat → Nat → Prop) (args : Array Value) (pre : List (Nat × AObj)) (v : Value) (post : List (Nat × Option AObj)) (dn : Nat) (s : St)
def Znp : Out :=
 bif ZsO pre s.n (s.n + dn) post && Z5 (fun x => Nat.blt x.1 s.n) pre then
  some (v, ⟨Zq1 s.h post, s.n + dn, post.map (·.1) ++ s.wr, s.orc, (dP (S args pre v post s.n dn), true) :: Zq2 s pre⟩)
 else none
def ZwO : Out :=
 match Zc9 v with
 | true => none
 | false => Znp S args pre v post dn s
end
def Z0f (g : List Value → Option Value) (args : Array Value) (s : St) : Out :=
 bif Z5 free args.toList then match g args.toList with
  | some v => bif free v then some (v, s) else none
  | none => none
 else none
def isBig (ext : FuncId → Option Ext) (ρ : Operand → Value) (o : Oper) : Bool :=
 match Zm8 o with
 | some c => match callee ρ c with
  | some (f, _) => (match ext f with | none => true | some (.hp _) => true | some (.tc _) => true | _ => false)
  | none => true
 | none => false
structure Rec where
 small : Bool
 w : Bool
 t : List Nat
 n0 : Nat
 n1 : Nat
 q : List Nat
structure Ent where
 o : Oper
 m : Nat
 r : Rec
 T : Tr Value
 s : St
 v : Value
 s' : St
def Zj7 : Value → List Nat
 | .pointer (some ⟨k, _, none⟩) => [k]
 | .slice (some ⟨k, _, none⟩) _ _ => [k]
 | .map (some k) => [k]
 | _ => []
def Z3h : Value → Bool
 | .map _ => true
 | _ => false
def ZhY (s : St) (ρ : Operand → Value) (o : Oper) : Bool × List Nat :=
 match o.op with
 | .slice _ x _ _ _ => match s.orc.w with
  | some (.cut _ _) :: _ => (true, Zj7 (ρ x))
  | _ => (false, [])
 | .convert _ _ x => (false, Zj7 (ρ x))
 | .load _ a => (false, Zj7 (ρ a))
 | .binOp _ _ x y _ => (false, Z0T (ρ x) ++ Z0T (ρ y))
 | .lookup _ x _ _ => (false, Zj7 (ρ x))
 | .mapUpdate _ m _ _ => (true, Zj7 (ρ m))
 | .store _ a _ => (true, Zj7 (ρ a))
 | .call c => match c.callee with
  | .builtin .append => match c.args.toList with
   | [x, _] => (true, Zj7 (ρ x))
   | _ => (true, [])
  | .builtin .clear => match c.args.toList with
   | x :: _ => (true, Zj7 (ρ x))
   | [] => (true, [])
  | .builtin .delete => match c.args.toList with
   | x :: _ => (true, Zj7 (ρ x))
   | [] => (true, [])
  | .builtin .len => match c.args.toList with
   | x :: _ => (false, bif Z3h (ρ x) then Zj7 (ρ x) else [])
   | [] => (false, [])
  | .builtin _ => (false, [])
  | _ => match c.args.toList with
   | x :: _ => (true, Zj7 (ρ x))
   | [] => (true, [])
 | _ => (false, [])
def Zm9 (ρ : Operand → Value) (o : Oper) : List Nat :=
 match o.op with
 | .call c => match c.callee with
  | .builtin .append => match c.args.toList with
   | [_, y] => Zj7 (ρ y)
   | _ => []
  | _ => []
 | _ => []
def Zl0 (h : Tr AObj) : List Nat → Tr AObj
 | [] => .nil
 | k :: l => (Zl0 h l).set k (h.get k)
def Zf8 (r : Tr AObj) : List Nat → Tr AObj → Tr AObj
 | [], h => h
 | k :: l, h => (Zf8 r l h).set k (r.get k)
def ZoW (k : Nat) : List Nat → Bool
 | [] => false
 | x :: l => Nat.beq k x || ZoW k l
def Zif (a b : List Nat) : Bool := Z5 (fun k => !ZoW k b) a
def ZmA (n0 n1 : Nat) (l : List Nat) : Bool := Z5 (fun k => !(Nat.ble n0 k && Nat.blt k n1)) l
def ZkE (n : Nat) : List Nat → List Nat
 | [] => []
 | k :: l => bif Nat.blt k n then k :: ZkE n l else ZkE n l
def ZsP (a b : Rec) : Bool :=
 match a.small, b.small with
 | true, true => (!(a.w || b.w) || Zif a.t b.t) && ZmA a.n0 a.n1 b.t && ((!b.w || Zif a.q b.t) && (!a.w || Zif a.t b.q) && ZmA a.n0 a.n1 b.q)
 | true, false => !a.w && (Nat.beq a.n0 a.n1 || (ZoW a.n0 b.q && Nat.ble a.n1 (a.n0 + 1) && ZmA a.n0 a.n1 b.t)) && Zif a.t b.t && Zif a.q b.t
 | false, true => !b.w && Zif a.t b.t && ZmA a.n0 a.n1 b.t && (Zif a.t b.q && ZmA a.n0 a.n1 b.q)
 | false, false => false
def Zds (done : List Ent) : List Edge → Nat
 | [] => 0
 | e :: l => bif Region.binds .any e then (2 ^ e.on ||| (match done[e.on]? with | some d => d.m | none => 0)) ||| Zds done l else Zds done l
def Zig : List Operand → List Tmp
 | [] => []
 | .tmp t :: l => t :: Zig l
 | _ :: l => Zig l
def Zq3 (T : Tr Value) : List Tmp → Tr Value
 | [] => .nil
 | t :: l => (Zq3 T l).set t (T.get t)
def ZmB (i : Nat) : List Edge → Bool
 | [] => true
 | e :: l => (!Region.binds .any e || Nat.blt e.on i) && ZmB i l
def Zku (ops : Array Oper) (o : Oper) (r : Rec) (m : Nat) : Nat → List Ent → Bool
 | _, [] => true
 | j, d :: l => (m.testBit j || (Oper.apart ops d.o o && ZsP d.r r)) && Zku ops o r m (j + 1) l
def ZwP (m : Nat) : Nat → List Ent → List Nat
 | _, [] => []
 | j, d :: l => bif d.r.small && !m.testBit j && Nat.blt d.r.n0 d.r.n1 then d.r.n0 :: ZwP m (j + 1) l else ZwP m (j + 1) l
def Zj8 (s : St) : Rec := ⟨true, false, [], s.n, s.n, []⟩
mutual
def Zbl (P : Program) (ext : FuncId → Option Ext) (nt : Nat) : Nat → Code → Tr Value → St → Option (Ex × Tr Value × St)
 | 0, _, _, _ => none
 | fu + 1, c, T, s => match c with
  | .skip => some (.normal, T, s)
  | .label _ => some (.normal, T, s)
  | .scope c => Zbl P ext nt fu c T s
  | .ret => some (.ret, T, s)
  | .exit id => some (.exit id, T, s)
  | .seq a b => match Zbl P ext nt fu a T s with
   | some (.normal, T', s') => Zbl P ext nt fu b T' s'
   | some (.exit i, T', s') => some (.exit i, T', s')
   | some (.ret, T', s') => some (.ret, T', s')
   | none => none
  | .cond x a b => match opnd T x with
   | .bool t => match t with
    | true => Zbl P ext nt fu a T s
    | false => Zbl P ext nt fu b T s
   | _ => none
  | .block id a => match Zbl P ext nt fu a T s with
   | some (.exit i, T', s') => bif Nat.beq i id then some (.normal, T', s') else some (.exit i, T', s')
   | some (.normal, T', s') => some (.normal, T', s')
   | some (.ret, T', s') => some (.ret, T', s')
   | none => none
  | .loop a => match Zbl P ext nt fu a T s with
   | some (.normal, T', s') => Zbl P ext nt fu (.loop a) T' s'
   | some (.exit i, T', s') => some (.exit i, T', s')
   | some (.ret, T', s') => some (.ret, T', s')
   | none => none
  | .region _ ops draw => bif draw then match Ze9 P ext nt fu ops [] ops.toList T s with
    | some (_, T', s') => some (.normal, T', s')
    | none => none
   else match Zih P ext nt fu ops ops.toList T s with
   | some (T', s') => some (.normal, T', s')
   | none => none
  | _ => none
termination_by structural fu _ _ _ => fu
def Zih (P : Program) (ext : FuncId → Option Ext) (nt : Nat) : Nat → Array Oper → List Oper → Tr Value → St → Option (Tr Value × St)
 | 0, _, _, _, _ => none
 | _ + 1, _, [], T, s => some (T, s)
 | fu + 1, ops, o :: l, T, s =>
  bif Zjh nt o.dst && Z5 Zjo o.op.operands.toList then
   match ZgW ops T o s with
   | some (true, s1) => match Zii P ext fu (opnd T) o s1 with
    | some (v, s') => s'.keep fun s' => Zih P ext nt fu ops l (Zgx T o.dst v) s'
    | none => none
   | some (false, s1) => Zih P ext nt fu ops l (Zgx T o.dst undef) s1
   | none => none
  else none
termination_by structural fu _ _ _ _ => fu
def Ze9 (P : Program) (ext : FuncId → Option Ext) (nt : Nat) : Nat → Array Oper → List Ent → List Oper → Tr Value → St → Option (List Ent × Tr Value × St)
 | 0, _, _, _, _, _ => none
 | _ + 1, _, done, [], T, s => some (done, T, s)
 | fu + 1, ops, done, o :: l, T, s =>
  bif Zjh nt o.dst && Z5 Zjo o.op.operands.toList && ZmB done.length o.after.toList then
   match ZgW ops T o s with
   | some (true, s1) => match Zkj P ext fu (ZwP (Zds done o.after.toList) 0 done) (opnd (Zq3 T (Zig o.op.operands.toList))) o s1 with
    | some (v, s', r) => s'.keep fun s' => bif Zku ops o r (Zds done o.after.toList) 0 done then Ze9 P ext nt fu ops (done ++ [⟨o, Zds done o.after.toList, r, T, s1, v, s'⟩]) l (Zgx T o.dst v) s' else none
    | none => none
   | some (false, s1) => bif Zku ops o (Zj8 s1) (Zds done o.after.toList) 0 done then Ze9 P ext nt fu ops (done ++ [⟨o, Zds done o.after.toList, Zj8 s1, T, s1, undef, s1⟩]) l (Zgx T o.dst undef) s1 else none
   | none => none
  else none
termination_by structural fu _ _ _ _ _ => fu
def Zkj (P : Program) (ext : FuncId → Option Ext) : Nat → List Nat → (Operand → Value) → Oper → St → Option (Value × St × Rec)
 | 0, _, _, _, _ => none
 | fu + 1, xs, ρ, o, s =>
  match isBig ext ρ o with
  | true => match Zii P ext fu ρ o ⟨Zf8 .nil xs s.h, s.n, [], s.orc, s.ob⟩ with
   | some (v, s') => bif Z5 (fun k => Nat.blt k s'.n) s'.wr && (Z5 (fun k => Nat.blt k s.n) xs && Zif xs s'.wr) then some (v, ⟨Zf8 s.h xs s'.h, s'.n, s'.wr ++ s.wr, s'.orc, s'.ob⟩, ⟨false, true, ZkE s.n s'.wr, s.n, s'.n, xs⟩) else none
   | none => none
  | false => match ZhY s ρ o with
   | (w, t) => bif Z5 (fun k => Nat.blt k s.n) t && Z5 (fun k => Nat.blt k s.n) (Zm9 ρ o) then match Zii P ext fu ρ o ⟨Zl0 s.h (t ++ Zm9 ρ o), s.n, [], s.orc, s.ob⟩ with
     | some (v, s') => bif Z5 (fun k => w && ZoW k t) s'.wr && Nat.ble s'.n (s.n + 1) then some (v, ⟨(bif w then Zf8 s'.h t s.h else s.h).set s.n (bif Nat.beq s'.n s.n then s.h.get s.n else s'.h.get s.n), s'.n, s'.wr ++ s.wr, s'.orc, s'.ob⟩, ⟨true, w, t, s.n, s'.n, Zm9 ρ o⟩) else none
     | none => none
    else none
termination_by structural fu _ _ _ _ => fu
def Zii (P : Program) (ext : FuncId → Option Ext) : Nat → (Operand → Value) → Oper → St → Out
 | 0, _, _, _ => none
 | fu + 1, ρ, o, s => match Zm8 o with
  | some c => match Zuf P ρ c with
   | some (f, args) => match ext f with
    | some (.at k e) => match s.nextW with
     | (some (.at v c), s1) => Zjq k e args v c s1
     | (some _, _) => none
     | (none, s1) => Zej k e args s1
    | some (.mark n) => ZoU n args s
    | some (.hp g) => g args s
    | some (.tc S) => match s.nextW with
     | (some (.call pre v post dn), s1) => ZwO S args pre v post dn s1
     | _ => none
    | some (.fn g) => Z0f g args s
    | none => Zij P ext fu f args s
   | none => none
  | none => match ev1 P ρ o s with
   | some (v, s1) => some (ZwN o v s1)
   | none => none
termination_by structural fu _ _ _ => fu
def Zij (P : Program) (ext : FuncId → Option Ext) : Nat → FuncId → Array Value → St → Out
 | 0, _, _, _ => none
 | fu + 1, f, args, s => match P.funcs[f]? with
  | some fn => match fn.body with
   | some c => bif Nat.ble args.size fn.ntmps then match Zbl P ext fn.ntmps fu c (ZgX 0 args.toList .nil) s with
    | some (.exit _, _, _) => none
    | some (_, T, s') => match Zdr P T s' fn.results.toList with
     | some [v] => some (v, s')
     | some vs => some (.tuple vs.toArray, s')
     | none => none
    | none => none
    else none
   | none => none
  | none => none
termination_by structural fu _ _ _ => fu
end
end
end Ev
end Go.Proofs.YthfohmhipifiaaaGreat
namespace Go.Proofs.YthfohmhipifiaaaGreat
open Go.RowKit
namespace Ev

theorem Zik {a b : Nat} (h : a ≠ b) : Nat.beq a b = false := by
 cases hb : Nat.beq a b
 ·rfl
 ·exact absurd (Nat.eq_of_beq_eq_true hb) h
theorem ZkF {a b : Nat} (h : a = b) : Nat.beq a b = true := by subst h; exact Nat.beq_refl a
theorem Tr.get_setF {α : Type} (v : Option α) : ∀ (f : Nat) (t : Tr α) (n m : Nat), n ≤ f → (Tr.setF f t n v).get m = if m = n then v else t.get m := by
 have hnode : ∀ (t : Tr α) (m : Nat), m ≠ 0 → t.get m = bif Nat.beq (m % 2) 1 then t.lt.get ((m - 1) / 2) else t.rt.get ((m - 1) / 2) := by
  intro t m hm
  cases t with
  | nil => simp [Tr.get_nil, Tr.lt_nil, Tr.rt_nil]
  | node u l r =>
   have : Nat.beq m 0 = false := Zik hm
   simp [Tr.get_node, Tr.lt_node, Tr.rt_node, this]
 have hval : ∀ (t : Tr α), t.get 0 = t.val := by
  intro t
  cases t <;> simp [Tr.get_nil, Tr.get_node, Tr.val_nil, Tr.val_node, Nat.beq]
 intro f
 induction f with
 | zero =>
  intro t n m hn
  obtain rfl : n = 0 := by omega
  rw [Tr.setF_zero]
  by_cases hm : m = 0
  ·subst hm; simp [Tr.get_node, Nat.beq]
  ·rw [if_neg hm, hnode _ m hm, hnode t m hm]
   simp [Tr.lt_node, Tr.rt_node]
 | succ f ih =>
  intro t n m hn
  rw [Tr.setF_succ]
  by_cases h0 : n = 0
  ·subst h0
   by_cases hm : m = 0
   ·subst hm; simp [Tr.get_node, Nat.beq]
   ·rw [if_neg hm, hnode t m hm]
    simp only [Nat.beq, cond_true]
    rw [hnode _ m hm]
    simp [Tr.lt_node, Tr.rt_node]
  ·have hb : Nat.beq n 0 = false := Zik h0
   simp only [hb, cond_false]
   have hle : (n - 1) / 2 ≤ f := by omega
   by_cases ho : n % 2 = 1
   ·have hb1 : Nat.beq (n % 2) 1 = true := ZkF ho
    simp only [hb1, cond_true]
    by_cases hm : m = 0
    ·subst hm
     rw [if_neg (fun e => h0 e.symm), hval, hval]
     simp [Tr.val_node]
    ·rw [hnode _ m hm, hnode t m hm]
     by_cases hmo : m % 2 = 1
     ·have hb2 : Nat.beq (m % 2) 1 = true := ZkF hmo
      simp only [hb2, cond_true, Tr.lt_node]
      rw [ih _ _ _ hle]
      by_cases he : m = n
      ·subst he; simp
      ·rw [if_neg he, if_neg (by omega)]
     ·have hb2 : Nat.beq (m % 2) 1 = false := Zik hmo
      simp only [hb2, cond_false, Tr.rt_node]
      rw [if_neg (by intro e; subst e; exact hmo ho)]
   ·have hb1 : Nat.beq (n % 2) 1 = false := Zik ho
    simp only [hb1, cond_false]
    by_cases hm : m = 0
    ·subst hm
     rw [if_neg (fun e => h0 e.symm), hval, hval]
     simp [Tr.val_node]
    ·rw [hnode _ m hm, hnode t m hm]
     by_cases hmo : m % 2 = 1
     ·have hb2 : Nat.beq (m % 2) 1 = true := ZkF hmo
      simp only [hb2, cond_true, Tr.lt_node]
      rw [if_neg (by intro e; subst e; exact ho hmo)]
     ·have hb2 : Nat.beq (m % 2) 1 = false := Zik hmo
      simp only [hb2, cond_false, Tr.rt_node]
      rw [ih _ _ _ hle]
      by_cases he : m = n
      ·subst he; simp
      ·rw [if_neg he, if_neg (by omega)]

def upd {β : Type} (h : Nat → Option β) (n : Nat) (v : Option β) : Nat → Option β := fun m => if m = n then v else h m
theorem Tr.get_set {α : Type} (t : Tr α) (n : Nat) (v : Option α) : (t.set n v).get = upd t.get n v :=
 funext fun m => Tr.get_setF v n t n m (Nat.le_refl _)
theorem Zo {β : Type} {h : Nat → Option β} {n : Nat} {v : Option β} : upd h n v n = v := by simp [upd]
theorem Zh {β : Type} {h : Nat → Option β} {n m : Nat} {v : Option β} (hm : m ≠ n) : upd h n v m = h m := by simp [upd, hm]

abbrev Ren := Nat → Option (Nat × Nat)
inductive VR (ι : Ren) : Value → Value → Prop
 | atom {v} (h : atom v = true) : VR ι v v
 | glob {g v'} (h : v'.oneCell' = true) : VR ι (.chan (some g)) v'
 | ptr {k b o} (h : ι k = some b) : VR ι (.pointer (some ⟨k, o, none⟩)) (.pointer (some ⟨b.1, o, none⟩))
 | map {k b} (h : ι k = some b) : VR ι (.map (some k)) (.map (some b.1))
 | slice {k b o n c c'} (h : ι k = some b) (hn : n ≤ c) (hc : c ≤ c') (hq : o = 0 → c' ≤ c ∨ c' ≤ b.2) : VR ι (.slice (some ⟨k, o, none⟩) n c) (.slice (some ⟨b.1, o, none⟩) n c')
 | slice0 {A : Addr} {a' : Option Addr} (h : a'.isNone = true → Zmx = true) : VR ι (.slice (some A) 0 0) (.slice a' 0 0)
 | mptr {b base id o z q} (h : ι (Zai b base id) = some q) : VR ι (.pointer (some ⟨id, o, some z⟩)) (.pointer (some ⟨b, base + o, none⟩))
 | mslice {b base id o z n c c' q} (h : ι (Zai b base id) = some q) (hn : n ≤ c) (hc : c ≤ c') : VR ι (.slice (some ⟨id, o, some z⟩) n c) (.slice (some ⟨b, base + o, none⟩) n c')
 | func {fn} {a a' b b' : Array Value} (hs : a.size = a'.size) (ht : b.size = b'.size) (h : ∀ (i : Nat) x y, a[i]? = some x → a'[i]? = some y → VR ι x y) (h2 : ∀ (i : Nat) x y, b[i]? = some x → b'[i]? = some y → VR ι x y) :
   VR ι (.func fn a b) (.func fn a' b')
 | agg {a a' : Array Value} (hs : a.size = a'.size) (h : ∀ (i : Nat) x y, a[i]? = some x → a'[i]? = some y → VR ι x y) : VR ι (.agg a) (.agg a')
 | tuple {a a' : Array Value} (hs : a.size = a'.size) (h : ∀ (i : Nat) x y, a[i]? = some x → a'[i]? = some y → VR ι x y) : VR ι (.tuple a) (.tuple a')

def VRs (ι : Ren) (a a' : Array Value) : Prop := a.size = a'.size ∧ ∀ (i : Nat) x y, a[i]? = some x → a'[i]? = some y → VR ι x y

theorem VR.ext {ι ι' : Ren} (hi : ∀ k b, ι k = some b → ι' k = some b) {v v' : Value} (h : VR ι v v') : VR ι' v v' := by
 induction h with
 | atom h => exact .atom h
 | glob h => exact .glob h
 | ptr h => exact .ptr (hi _ _ h)
 | map h => exact .map (hi _ _ h)
 | slice h hn hc hq => exact .slice (hi _ _ h) hn hc hq
 | slice0 h => exact .slice0 h
 | mptr h => exact .mptr (hi _ _ h)
 | mslice h hn hc => exact .mslice (hi _ _ h) hn hc
 | func hs ht _ _ ih1 ih2 => exact .func hs ht ih1 ih2
 | agg hs _ ih => exact .agg hs ih
 | tuple hs _ ih => exact .tuple hs ih
theorem VRs.ext {ι ι' : Ren} (hi : ∀ k b, ι k = some b → ι' k = some b) {v v' : Array Value} (h : VRs ι v v') : VRs ι' v v' := ⟨h.1, fun i x y hx hy => (h.2 i x y hx hy).ext hi⟩

theorem ZaG {α : Type} {p : α → Bool} : ∀ {l : List α}, Z5 p l = true → ∀ x ∈ l, p x = true
 | [], _, x, hx => by cases hx
 | y :: l, h, x, hx => by
  simp only [Z5, Bool.and_eq_true] at h
  rcases List.mem_cons.1 hx with rfl | hx
  ·exact h.1
  ·exact ZaG h.2 x hx
theorem ZbH {α : Type} {p : α → Bool} {a : Array α} (h : Z5 p a.toList = true) (i : Nat) (x : α) (hx : a[i]? = some x) : p x = true :=
 ZaG h x (by
  obtain ⟨hi, rfl⟩ := Array.getElem?_eq_some_iff.1 hx
  simp)
theorem VR.eq_of_atom {ι : Ren} {v v' : Value} (ha : Ev.atom v = true) (h : VR ι v v') : v' = v := by
 cases h with
 | atom => rfl
 | glob => simp [Ev.atom] at ha
 | ptr h => simp [Ev.atom] at ha
 | map h => simp [Ev.atom] at ha
 | slice h => simp [Ev.atom] at ha
 | slice0 => simp [Ev.atom] at ha
 | mptr h => simp [Ev.atom] at ha
 | mslice h => simp [Ev.atom] at ha
 | func hs ht h h2 =>
  rename_i fn a a' b b'
  cases fn <;> simp [Ev.atom] at ha
  obtain ⟨rfl, rfl⟩ := ha
  have e1 : a' = #[] := Array.eq_empty_of_size_eq_zero (by simpa using hs.symm)
  have e2 : b' = #[] := Array.eq_empty_of_size_eq_zero (by simpa using ht.symm)
  rw [e1, e2]
 | agg => simp [Ev.atom] at ha
 | tuple => simp [Ev.atom] at ha
theorem ZrJ {a a' : Array Value} (hs : a.size = a'.size) (h : ∀ (i : Nat) x y, a[i]? = some x → a'[i]? = some y → y = x) : a' = a := by
 apply Array.ext hs.symm
 intro i h1 h2
 exact h i _ _ (Array.getElem?_eq_getElem h2) (Array.getElem?_eq_getElem h1)
theorem VR.eq_of_free1 {ι : Ren} {v v' : Value} (ha : Zbv v = true) (h : VR ι v v') : v' = v := by
 cases v with
 | agg cs =>
  cases h with
  | atom h => rfl
  | agg hs h => rw [ZrJ hs fun i x y hx hy => (h i x y hx hy).eq_of_atom (ZbH ha i x hx)]
 | _ => exact h.eq_of_atom ha
theorem VR.eq_of_free {ι : Ren} {v v' : Value} (ha : free v = true) (h : VR ι v v') : v' = v := by
 cases v with
 | tuple cs =>
  cases h with
  | atom h => rfl
  | tuple hs h => rw [ZrJ hs fun i x y hx hy => (h i x y hx hy).eq_of_free1 (ZbH ha i x hx)]
 | _ => exact h.eq_of_free1 ha
theorem VR.of_free1 {ι : Ren} {v : Value} (ha : Zbv v = true) : VR ι v v := by
 cases v with
 | agg cs => exact .agg rfl fun i x y hx hy => by rw [hx] at hy; injection hy with hy; subst hy; exact .atom (ZbH ha i x hx)
 | _ => exact .atom ha
theorem VR.of_free {ι : Ren} {v : Value} (ha : free v = true) : VR ι v v := by
 cases v with
 | tuple cs => exact .tuple rfl fun i x y hx hy => by rw [hx] at hy; injection hy with hy; subst hy; exact VR.of_free1 (ZbH ha i x hx)
 | _ => exact VR.of_free1 ha

def CR (ι : Ren) (c : List Value) (C : Array Value) : Prop := c.length ≤ C.size ∧ ∀ (i : Nat) x y, c[i]? = some x → C[i]? = some y → VR ι x y
theorem CR.ext {ι ι' : Ren} (hi : ∀ k b, ι k = some b → ι' k = some b) {c : List Value} {C : Array Value} (h : CR ι c C) : CR ι' c C := ⟨h.1, fun i x y hx hy => (h.2 i x y hx hy).ext hi⟩

def kvs (es : List MapEntry) : List (Value × Value) := es.map fun e => (e.key, e.val)
def RoAt (m : Bool) (O : Obj) (x : Option Obj) : Prop :=
 match m with
 | false => x = some O
 | true => (∃ es c es' c', O = .map es c ∧ x = some (.map es' c') ∧ kvs es.toList = kvs es'.toList) ∨ ∃ b p, O = .stringIter b p ∧ x = some O
theorem RoAt.on {m : Bool} {O : Obj} {x y : Option Obj} (e : x = y) (h : RoAt m O y) : RoAt m O x := e ▸ h
abbrev AH := Nat → Option AObj
def Unf (n : Nat) (fr : Nat × Nat) : Prop := fr = (0, 0) ∨ n ≤ fr.1
def Cel (x : Option Obj) (C : Array Value) (t : TypeId) : Prop := ∃ fr, x = some (.cells C t fr) ∧ (fr = (0, 0) ∨ (C.size ≤ fr.1 ∧ t = u8T))
theorem Cel.unf {x : Option Obj} {C : Array Value} {t : TypeId} (h : Cel x C t) : ∃ fr, x = some (.cells C t fr) ∧ Unf C.size fr := by
 obtain ⟨fr, h1, h2⟩ := h
 exact ⟨fr, h1, h2.imp id And.left⟩
theorem Cel.zero {x : Option Obj} {C : Array Value} {t : TypeId} (h : Cel x C t) (ht : t ≠ u8T) : x = some (.cells C t (0, 0)) := by
 obtain ⟨fr, h1, h2 | h2⟩ := h
 ·subst h2; exact h1
 ·exact absurd h2.2 ht
theorem Cel.on {x y : Option Obj} {C : Array Value} {t : TypeId} (e : x = y) (h : Cel y C t) : Cel x C t := e ▸ h
theorem Cel.of {x : Option Obj} {C : Array Value} {t : TypeId} (h : x = some (.cells C t (0, 0))) : Cel x C t := ⟨_, h, .inl rfl⟩
theorem Cel.same {x : Option Obj} {C C' : Array Value} {t t' : TypeId} (h : Cel x C t) (h' : Cel x C' t') : C = C' ∧ t = t' := by
 obtain ⟨fr, h1, _⟩ := h
 obtain ⟨fr', h2, _⟩ := h'
 rw [h1] at h2
 injection h2 with h2
 injection h2 with h2 h3
 exact ⟨h2, h3⟩
def TabC (c : List Cell) (C : Array Value) : Prop :=
 match c with
 | [] => ∃ y, C[0]? = some y ∧ (y = .nilIface ∨ ∃ te pe, y = .iface te pe)
 | c => C = (Zw c).toArray
def FzC (ι : Ren) (w : World) (b base id : Nat) : Prop :=
 ∃ c C t fr, decode id = some c ∧ w.heap[b]? = some (.cells C t fr) ∧ (0 < c.length → base + c.length ≤ C.size) ∧ (∀ (i : Nat) x y, (Zw c)[i]? = some x → C[base + i]? = some y → VR ι x y) ∧ ∀ x ∈ tabs, x.1 = b → TabC x.2 C
theorem FzC.ext {ι ι' : Ren} (hi : ∀ k b, ι k = some b → ι' k = some b) {w w' : World} {b base id : Nat} (hw : w'.heap[b]? = w.heap[b]?) (h : FzC ι w b base id) : FzC ι' w' b base id := by
 obtain ⟨c, C, t, fr, h1, h2, h3, h4, h5⟩ := h
 exact ⟨c, C, t, fr, h1, hw.trans h2, h3, fun i x y hx hy => (h4 i x y hx hy).ext hi, h5⟩
theorem Z1P {ι ι2 : Ren} (hmk : ∀ b base id q, ι (Zai b base id) = some q → ι2 (Zai b base id) = some q) {z : Cell} {y : Value} (h : VR ι (ZdO z) y) : VR ι2 (ZdO z) y := by
 cases z with
 | any => cases h with
  | atom h => exact (Bool.false_ne_true h).elim
  | glob h => exact .glob h
 | m id o n c => cases h with
  | atom h => exact (Bool.false_ne_true h).elim
  | slice0 h => exact .slice0 h
  | mslice h hn hc => exact .mslice (hmk _ _ _ _ h) hn hc
 | _ => rw [h.eq_of_atom rfl]; exact .atom rfl
theorem FzC.on {ι ι2 : Ren} (hmk : ∀ b base id q, ι (Zai b base id) = some q → ι2 (Zai b base id) = some q) {w : World} {b base id : Nat} (h : FzC ι w b base id) : FzC ι2 w b base id := by
 obtain ⟨c, C, t, fr, h1, h2, h3, h4, h5⟩ := h
 refine ⟨c, C, t, fr, h1, h2, h3, fun i x y hx hy => ?_, h5⟩
 have hv := h4 i x y hx hy
 unfold Zw at hx
 rw [List.getElem?_map] at hx
 cases hb : c[i]? with
 | none => rw [hb] at hx; cases hx
 | some z =>
  rw [hb] at hx
  injection hx with hx
  subst hx
  exact Z1P hmk hv
def ZsQ (ι : Ren) (h : AH) (w : World) : Prop :=
 ∀ b base id q, ι (Zai b base id) = some q → q.1 = b ∧ (FzC ι w b base id ∧ ∀ o c, Zay id o c.length = some c → ι (Zai b (base + o) (code c)) = some q) ∧ ∀ k d, Zag (h k) d = true → ι k = some d → d.1 ≠ b
theorem Z2B {b base id n : Nat} (h : n < 1000000000) : Zai b base id ≠ n := by
 have := Zf5 b base id
 omega
section
variable {P : Program}
structure Emb (P : Program) (ι : Ren) (h : AH) (w : World) : Prop where
 obj : ∀ k c t q, h k = some (.cells c t q) → ∃ b, ι k = some b ∧ ((q = true ∧ c = [] ∧ b.2 = 0) ∨ (Zag (some (.cells c t q)) b = true ∧ ∃ C, Cel w.heap[b.1]? C t ∧ CR ι c C ∧ ∀ i, P.info? t = some i → b.2 * i.size ≤ C.size))
 ro : ∀ {m} k O, h k = some (.ro O m) → ∃ b, ι k = some b ∧ RoAt m O w.heap[b.1]?
 inj : ∀ k k' b b', Zag (h k) b = true → Za3 (h k') b' = true → ι k = some b → ι k' = some b' → b.1 = b'.1 → k = k'
 lt : ∀ k b, ι k = some b → b.1 < w.heap.size
 mks : ZsQ ι h w
 tb : ∀ x ∈ tabs, ∃ q, ι (Zai x.1 0 (code x.2)) = some q
theorem Emb.tabs {ι ι' : Ren} {h : AH} {w : World} (e : Emb P ι h w) (hx : ∀ k b, ι k = some b → ι' k = some b) : ∀ x ∈ Ev.tabs, ∃ q, ι' (Zai x.1 0 (code x.2)) = some q := fun x hx2 => (e.tb x hx2).imp fun q hq => hx _ _ hq
theorem Emb.marks {ι ι' : Ren} {h h' : AH} {w w' : World} (e : Emb P ι h w) (hx : ∀ k b, ι k = some b → ι' k = some b)
  (hf : ∀ b, b < w.heap.size → (∀ k c, Zag (h k) c = true → ι k = some c → c.1 ≠ b) → w'.heap[b]? = w.heap[b]?)
  (hb : ∀ b base id q, ι' (Zai b base id) = some q → ι (Zai b base id) = some q)
  (hC : ∀ k d, Zag (h' k) d = true → ι' k = some d → w.heap.size ≤ d.1 ∨ ∃ k' d', Zag (h k') d' = true ∧ ι k' = some d' ∧ d'.1 = d.1) : ZsQ ι' h' w' := fun b base id q hq => by
 have h0 := hb b base id q hq
 obtain ⟨h1, h2, h3⟩ := e.mks b base id q h0
 have hlt : b < w.heap.size := by have := e.lt _ _ h0; rw [h1] at this; exact this
 refine ⟨h1, ⟨h2.1.ext hx (hf b hlt h3), fun o c hc => hx _ _ (h2.2 o c hc)⟩, fun k d hk hd => ?_⟩
 rcases hC k d hk hd with h4 | ⟨k', d', h4, h5, h6⟩
 ·omega
 ·rw [← h6]; exact h3 k' d' h4 h5
theorem ZkG {ι : Ren} {n : Nat} {v : Option (Nat × Nat)} (hn : n < 1000000000) : ∀ b base id q, upd ι n v (Zai b base id) = some q → ι (Zai b base id) = some q := fun b base id q h => by
 rwa [Zh (Z2B hn)] at h
def ZcP (k : Nat) : Prop := 1000000000 ≤ k ∧ k % 2 = 0
structure Step (P : Program) (ι : Ren) (h : AH) (w : World) (ι' : Ren) (h' : AH) (w' : World) : Prop where
 ext : ∀ k b, ι k = some b → ι' k = some b
 emb : Emb P ι' h' w'
 os : w'.os = w.os
 tape : w'.tape = w.tape
 output : w'.output = w.output
 size : w.heap.size ≤ w'.heap.size
 frame : ∀ b, b < w.heap.size → (∀ k c, Zag (h k) c = true → ι k = some c → c.1 ≠ b) → w'.heap[b]? = w.heap[b]?
 new : ∀ k b, ι k = none → ι' k = some b → Za3 (h' k) b = true ∨ ZcP k → w.heap.size ≤ b.1 ∨ ∃ j c, Zag (h j) c = true ∧ ι j = some c ∧ c.1 = b.1
 alive : ∀ k b, Za3 (h' k) b = true → ι k = some b → Za3 (h k) b = true
 kind : ∀ k b, Zag (h' k) b = true → ι k = some b → Zag (h k) b = true
theorem Emb.ro0 {ι : Ren} {h : AH} {w : World} (e : Emb P ι h w) {k : Nat} {O : Obj} (hk : h k = some (.ro O)) : ∃ b, ι k = some b ∧ w.heap[b.1]? = some O := e.ro k O hk
theorem ZfV {o : Option AObj} {b : Nat × Nat} (h : isC o = true) : Zag o b = true := by unfold Zag; rw [h]; rfl
theorem ZmC {o : Option AObj} {b : Nat × Nat} (h : sol o = true) : Za3 o b = true := by unfold Za3; rw [h]; rfl
theorem Zug {o : Option AObj} (h : isC o = true) : sol o := by
 cases o with
 | none => cases h
 | some o =>
  cases o with
  | cells c t q => exact h
  | ro O m => rfl
theorem Zd8 {o : Option AObj} {b : Nat × Nat} (h : Zag o b = true) : Za3 o b = true := by
 unfold Zag at h
 unfold Za3
 rcases Bool.or_eq_true _ _ ▸ h with h | h
 ·rw [Zug h]; rfl
 ·rw [h, Bool.or_true]
theorem ZbF {o : Option AObj} {b : Nat × Nat} (h : Zag o b = true) : o.isSome := by
 cases o with
 | none => cases h
 | some o => rfl
theorem ZcJ {o : Option AObj} {b : Nat × Nat} (h : Za3 o b = true) : o.isSome := by
 cases o with
 | none => cases h
 | some o => rfl
theorem Emb.objF {P : Program} {ι : Ren} {h : AH} {w : World} (e : Emb P ι h w) (k : Nat) (c : List Value) (t : TypeId) (hk : h k = some (.cells c t)) : ∃ b C, ι k = some b ∧ Cel w.heap[b.1]? C t ∧ CR ι c C ∧ ∀ i, P.info? t = some i → b.2 * i.size ≤ C.size := by
 obtain ⟨b, hb, ⟨hq, _⟩ | ⟨_, C, h1, h2, h3⟩⟩ := e.obj k c t false hk
 ·cases hq
 ·exact ⟨b, C, hb, h1, h2, h3⟩
theorem Z1Q {o : Option AObj} (h : isC o = true) : o.isSome := by
 cases o with
 | none => cases h
 | some o => rfl
def far : Nat := 1000000000
def Fresh (ι : Ren) (n n' : Nat) : Prop := n' ≤ far ∧ ∀ k, n ≤ k → k < n' → ι k = none
def Dom (ι ι' : Ren) (n n' : Nat) : Prop := ∀ k, ι' k ≠ none → ι k ≠ none ∨ (n ≤ k ∧ k < n') ∨ far ≤ k

theorem Emb.live {ι : Ren} {h : AH} {w : World} (e : Emb P ι h w) {k : Nat} (hk : (h k).isSome) : ∃ b, ι k = some b := by
 cases ho : h k with
 | none => rw [ho] at hk; cases hk
 | some o =>
  cases o with
  | cells c t q => obtain ⟨b, hb, _⟩ := e.obj k c t q ho; exact ⟨b, hb⟩
  | ro O => obtain ⟨b, hb, _⟩ := e.ro k O ho; exact ⟨b, hb⟩
theorem Step.refl {ι : Ren} {h : AH} {w : World} (e : Emb P ι h w) : Step P ι h w ι h w :=
 ⟨fun _ _ h => h, e, rfl, rfl, rfl, Nat.le_refl _, fun _ _ _ => rfl, fun k b h1 h2 _ => (by rw [h1] at h2; cases h2), fun _ _ h1 _ => h1, fun _ _ h1 _ => h1⟩
theorem Step.trans {ι ι1 ι2 : Ren} {h h1 h2 : AH} {w w1 w2 : World} (a : Step P ι h w ι1 h1 w1) (b : Step P ι1 h1 w1 ι2 h2 w2) : Step P ι h w ι2 h2 w2 where
 ext k c hk := b.ext k c (a.ext k c hk)
 emb := b.emb
 os := b.os.trans a.os
 tape := b.tape.trans a.tape
 output := b.output.trans a.output
 size := Nat.le_trans a.size b.size
 frame c hc hno := by
  rw [b.frame c (Nat.lt_of_lt_of_le hc a.size) ?_, a.frame c hc hno]
  intro k d hk he
  cases hi : ι k with
  | some c' =>
   have e1 := a.ext k c' hi
   rw [e1] at he
   injection he with he
   subst he
   exact hno k _ (a.kind k _ hk hi) hi
  | none =>
   rcases a.new k d hi he (.inl (Zd8 hk)) with h' | ⟨j, c', hj, hj2, hj3⟩
   ·omega
   ·rw [← hj3]; exact hno j c' hj hj2
 new k c hk hc hs := by
  cases hi : ι1 k with
  | some c' =>
   have e1 := b.ext k c' hi
   rw [e1] at hc
   injection hc with hc
   subst hc
   exact a.new k _ hk hi (hs.imp (fun h => b.alive k _ h hi) id)
  | none =>
   rcases b.new k c hi hc hs with h' | ⟨j, d, hj, hj2, hj3⟩
   ·exact .inl (Nat.le_trans a.size h')
   ·rw [← hj3]
    cases hij : ι j with
    | some c' =>
     have e1 := a.ext j c' hij
     rw [e1] at hj2
     injection hj2 with hj2
     subst hj2
     exact .inr ⟨j, _, a.kind j _ hj hij, hij, rfl⟩
    | none => exact a.new j d hij hj2 (.inl (Zd8 hj))
 alive k c hk hi := a.alive k c (b.alive k c hk (a.ext k c hi)) hi
 kind k c hk hi := a.kind k c (b.kind k c hk (a.ext k c hi)) hi
theorem Fresh.mono {ι : Ren} {n n' m m' : Nat} (h : Fresh ι n n') (h1 : n ≤ m) (h2 : m' ≤ n') : Fresh ι m m' := ⟨Nat.le_trans h2 h.1, fun k a b => h.2 k (Nat.le_trans h1 a) (Nat.lt_of_lt_of_le b h2)⟩
theorem Dom.refl {ι : Ren} {n n' : Nat} : Dom ι ι n n' := fun _ h => .inl h
theorem Dom.trans {ι ι1 ι2 : Ren} {n n1 n2 : Nat} (a : Dom ι ι1 n n1) (b : Dom ι1 ι2 n1 n2) (h1 : n ≤ n1) (h2 : n1 ≤ n2) : Dom ι ι2 n n2 := fun k hk => by
 rcases b k hk with h | ⟨h3, h4⟩ | h5
 ·rcases a k h with h | ⟨h3, h4⟩ | h5
  ·exact .inl h
  ·exact .inr (.inl ⟨h3, by omega⟩)
  ·exact .inr (.inr h5)
 ·exact .inr (.inl ⟨by omega, h4⟩)
 ·exact .inr (.inr h5)
theorem Fresh.after {ι ι1 : Ren} {n n1 n2 : Nat} (h : Fresh ι n n2) (a : Dom ι ι1 n n1) (h1 : n ≤ n1) : Fresh ι1 n1 n2 := ⟨h.1, fun k hk hk2 => by
 cases hi : ι1 k with
 | none => rfl
 | some c =>
  rcases a k (by rw [hi]; simp) with h' | ⟨_, h4⟩ | h5
  ·exact absurd (h.2 k (by omega) hk2) h'
  ·omega
  ·have := h.1; omega⟩

theorem Step.still {ι : Ren} {h : AH} {w w' : World} (e : Emb P ι h w) (hh : w'.heap = w.heap) (ho : w'.os = w.os) (ht : w'.tape = w.tape) (hp : w'.output = w.output) : Step P ι h w ι h w' :=
 ⟨fun _ _ h => h, ⟨fun k c t q hk => by rw [hh]; exact e.obj k c t q hk, fun k O hk => by rw [hh]; exact e.ro k O hk, e.inj, fun k b hk => by rw [hh]; exact e.lt k b hk, e.marks (fun _ _ h => h) (fun _ _ _ => by rw [hh]) (fun _ _ _ _ h => h) (fun k d hk hd => .inr ⟨k, d, hk, hd, rfl⟩), e.tb⟩, ho, ht, hp, by rw [hh]; exact Nat.le_refl _, fun _ _ _ => by rw [hh], fun k b h1 h2 _ => (by rw [h1] at h2; cases h2), fun _ _ h1 _ => h1, fun _ _ h1 _ => h1⟩
theorem ZmD {h : AH} {k0 k : Nat} (h1 : (upd h k0 none k).isSome) : k ≠ k0 ∧ (h k).isSome := by
 by_cases hk0 : k = k0
 ·subst hk0; rw [Zo] at h1; cases h1
 ·exact ⟨hk0, by rwa [Zh hk0] at h1⟩
theorem ZiQ {h : AH} {k0 k : Nat} {b : Nat × Nat} (h1 : Za3 (upd h k0 none k) b = true) : k ≠ k0 ∧ Za3 (h k) b = true := by
 by_cases hk0 : k = k0
 ·subst hk0; rw [Zo] at h1; cases h1
 ·exact ⟨hk0, by rwa [Zh hk0] at h1⟩
theorem ZeA {h : AH} {k0 k : Nat} {b : Nat × Nat} (h1 : Zag (upd h k0 none k) b = true) : k ≠ k0 ∧ Zag (h k) b = true := by
 by_cases hk0 : k = k0
 ·subst hk0; rw [Zo] at h1; cases h1
 ·exact ⟨hk0, by rwa [Zh hk0] at h1⟩
theorem Step.kill {ι : Ren} {h : AH} {w : World} (e : Emb P ι h w) (k0 : Nat) : Step P ι h w ι (upd h k0 none) w :=
 ⟨fun _ _ h => h, ⟨fun k c t q hk => by
   have hk0 := (ZmD (h := h) (k0 := k0) (k := k) (by rw [hk]; rfl)).1
   rw [Zh hk0] at hk
   exact e.obj k c t q hk,
  fun k O hk => by
   have hk0 := (ZmD (h := h) (k0 := k0) (k := k) (by rw [hk]; rfl)).1
   rw [Zh hk0] at hk
   exact e.ro k O hk,
  fun k k' b b' h1 h2 => e.inj k k' b b' (ZeA h1).2 (ZiQ h2).2, e.lt, e.marks (fun _ _ h => h) (fun _ _ _ => rfl) (fun _ _ _ _ h => h) (fun k d hk hd => .inr ⟨k, d, (ZeA hk).2, hd, rfl⟩), e.tb⟩,
  rfl, rfl, rfl, Nat.le_refl _, fun _ _ _ => rfl, fun k b h1 h2 _ => (by rw [h1] at h2; cases h2), fun k _ h1 _ => (ZiQ h1).2, fun k _ h1 _ => (ZeA h1).2⟩
theorem Zrk {ι : Ren} {h : AH} {w : World} (e : Emb P ι h w) {n q : Nat} (hnf : n < 1000000000) {o : AObj} {O : Obj} (hx : ∀ k b, ι k = some b → upd ι n (some (w.heap.size, q)) k = some b) : ZsQ (upd ι n (some (w.heap.size, q))) (upd h n (some o)) (w.alloc O) :=
 e.marks hx (fun b hb _ => Below.heap_alloc w _ b hb) (ZkG hnf) fun k d hk hd => by
  by_cases hk0 : k = n
  ·subst hk0; rw [Zo] at hd; injection hd with hd; subst hd; exact .inl (Nat.le_refl _)
  ·rw [Zh hk0] at hk hd; exact .inr ⟨k, d, hk, hd, rfl⟩
theorem Step.alloc {ι : Ren} {h : AH} {w : World} (e : Emb P ι h w) {n : Nat} (hnf : n < 1000000000) (hn : ι n = none) {c : List Value} {C : Array Value} (t : TypeId) (hc : CR ι c C) (q : Nat) (hq : ∀ i, P.info? t = some i → q * i.size ≤ C.size) :
  Step P ι h w (upd ι n (some (w.heap.size, q))) (upd h n (some (.cells c t))) (w.alloc (.cells C t)) := by
 have hx : ∀ k b, ι k = some b → upd ι n (some (w.heap.size, q)) k = some b := fun k b hk => by
  rw [Zh]; · exact hk
  ·intro e; subst e; rw [hn] at hk; cases hk
 have hnew : (w.alloc (.cells C t)).heap[w.heap.size]? = some (.cells C t (0, 0)) := heap_alloc_new w _
 refine ⟨hx, ⟨fun k c' t' q' hk => ?_, fun k O hk => ?_, fun k k' b b' h1 h2 h3 h4 h5 => ?_, fun k b hk => ?_, Zrk e hnf hx, e.tabs hx⟩, rfl, rfl, rfl, by simp, fun b hb _ => Below.heap_alloc w _ b hb, fun k b h1 h2 _ => ?_, fun k b0 h1 h2 => ?_, fun k b0 h1 h2 => ?_⟩
 ·by_cases hk0 : k = n
  ·subst hk0
   rw [Zo] at hk
   injection hk with hk
   injection hk with h1 h2 h3
   subst h1 h2 h3
   exact ⟨_, Zo, .inr ⟨rfl, C, .of hnew, hc.ext hx, hq⟩⟩
  ·rw [Zh hk0] at hk
   obtain ⟨b, hb, hz | ⟨hz, C', hB, hC, hQ⟩⟩ := e.obj k c' t' q' hk
   ·exact ⟨b, hx k b hb, .inl hz⟩
   ·exact ⟨b, hx k b hb, .inr ⟨hz, C', hB.on (Below.heap_alloc w _ b.1 (e.lt k b hb)), hC.ext hx, hQ⟩⟩
 ·by_cases hk0 : k = n
  ·subst hk0; rw [Zo] at hk; injection hk with hk; cases hk
  ·rw [Zh hk0] at hk
   obtain ⟨b, hb, hB⟩ := e.ro k O hk
   exact ⟨b, hx k b hb, hB.on (Below.heap_alloc w _ b.1 (e.lt k b hb))⟩
 ·by_cases hk0 : k = n <;> by_cases hk1 : k' = n
  ·rw [hk0, hk1]
  ·subst hk0
   rw [Zo] at h3; injection h3 with h3; subst h3
   rw [Zh hk1] at h4
   have := e.lt k' _ h4
   simp only at h5
   omega
  ·subst hk1
   rw [Zo] at h4; injection h4 with h4; subst h4
   rw [Zh hk0] at h3
   have := e.lt k _ h3
   simp only at h5
   omega
  ·rw [Zh hk0] at h1 h3
   rw [Zh hk1] at h2 h4
   exact e.inj k k' b b' h1 h2 h3 h4 h5
 ·by_cases hk0 : k = n
  ·subst hk0; rw [Zo] at hk; injection hk with hk; subst hk; simp
  ·rw [Zh hk0] at hk
   have := e.lt k b hk
   simp; omega
 ·by_cases hk0 : k = n
  ·subst hk0; rw [Zo] at h2; injection h2 with h2; subst h2; exact .inl (Nat.le_refl _)
  ·rw [Zh hk0, h1] at h2; cases h2
 ·by_cases hk0 : k = n
  ·subst hk0; rw [hn] at h2; cases h2
  ·rwa [Zh hk0] at h1
 ·by_cases hk0 : k = n
  ·subst hk0; rw [hn] at h2; cases h2
  ·rwa [Zh hk0] at h1
theorem Step.allocG {ι : Ren} {h : AH} {w w' : World} (e : Emb P ι h w) {n : Nat} (hnf : n < 1000000000) (hn : ι n = none) {c : List Value} {C : Array Value} (t : TypeId) (hc : CR ι c C) (q : Nat) (hq : ∀ i, P.info? t = some i → q * i.size ≤ C.size)
  (hold : ∀ b, b < w.heap.size → w'.heap[b]? = w.heap[b]?) (hnew : Cel w'.heap[w.heap.size]? C t) (hsz : w'.heap.size = w.heap.size + 1) (hos : w'.os = w.os) (htp : w'.tape = w.tape) (hop : w'.output = w.output) :
  Step P ι h w (upd ι n (some (w.heap.size, q))) (upd h n (some (.cells c t))) w' := by
 have hx : ∀ k b, ι k = some b → upd ι n (some (w.heap.size, q)) k = some b := fun k b hk => by
  rw [Zh]; · exact hk
  ·intro e; subst e; rw [hn] at hk; cases hk
 refine ⟨hx, ⟨fun k c' t' q' hk => ?_, fun k O hk => ?_, fun k k' b b' h1 h2 h3 h4 h5 => ?_, fun k b hk => ?_, e.marks hx (fun b hb _ => hold b hb) (ZkG hnf) (fun k d hk hd => by
  by_cases hk0 : k = n
  ·subst hk0; rw [Zo] at hd; injection hd with hd; subst hd; exact .inl (Nat.le_refl _)
  ·rw [Zh hk0] at hk hd; exact .inr ⟨k, d, hk, hd, rfl⟩), e.tabs hx⟩, hos, htp, hop, by omega, fun b hb _ => hold b hb, fun k b h1 h2 _ => ?_, fun k b0 h1 h2 => ?_, fun k b0 h1 h2 => ?_⟩
 ·by_cases hk0 : k = n
  ·subst hk0
   rw [Zo] at hk
   injection hk with hk
   injection hk with h1 h2 h3
   subst h1 h2 h3
   exact ⟨_, Zo, .inr ⟨rfl, C, hnew, hc.ext hx, hq⟩⟩
  ·rw [Zh hk0] at hk
   obtain ⟨b, hb, hz | ⟨hz, C', hB, hC, hQ⟩⟩ := e.obj k c' t' q' hk
   ·exact ⟨b, hx k b hb, .inl hz⟩
   ·exact ⟨b, hx k b hb, .inr ⟨hz, C', hB.on (hold b.1 (e.lt k b hb)), hC.ext hx, hQ⟩⟩
 ·by_cases hk0 : k = n
  ·subst hk0; rw [Zo] at hk; injection hk with hk; cases hk
  ·rw [Zh hk0] at hk
   obtain ⟨b, hb, hB⟩ := e.ro k O hk
   exact ⟨b, hx k b hb, hB.on (hold b.1 (e.lt k b hb))⟩
 ·by_cases hk0 : k = n <;> by_cases hk1 : k' = n
  ·rw [hk0, hk1]
  ·subst hk0
   rw [Zo] at h3; injection h3 with h3; subst h3
   rw [Zh hk1] at h4
   have := e.lt k' _ h4
   simp only at h5
   omega
  ·subst hk1
   rw [Zo] at h4; injection h4 with h4; subst h4
   rw [Zh hk0] at h3
   have := e.lt k _ h3
   simp only at h5
   omega
  ·rw [Zh hk0] at h1 h3
   rw [Zh hk1] at h2 h4
   exact e.inj k k' b b' h1 h2 h3 h4 h5
 ·by_cases hk0 : k = n
  ·subst hk0; rw [Zo] at hk; injection hk with hk; subst hk; show w.heap.size < _; omega
  ·rw [Zh hk0] at hk
   have := e.lt k b hk
   omega
 ·by_cases hk0 : k = n
  ·subst hk0; rw [Zo] at h2; injection h2 with h2; subst h2; exact .inl (Nat.le_refl _)
  ·rw [Zh hk0, h1] at h2; cases h2
 ·by_cases hk0 : k = n
  ·subst hk0; rw [hn] at h2; cases h2
  ·rwa [Zh hk0] at h1
 ·by_cases hk0 : k = n
  ·subst hk0; rw [hn] at h2; cases h2
  ·rwa [Zh hk0] at h1
theorem Step.store {ι : Ren} {h : AH} {w w' : World} (e : Emb P ι h w) {k0 : Nat} {b : Nat × Nat} {c c' : List Value} {C C' : Array Value} {t : TypeId} {q : Bool} (hk : h k0 = some (.cells c t q)) (hb : ι k0 = some b) (hc : CR ι c' C')
  (hCs : C'.size = C.size) (hB0 : Cel w.heap[b.1]? C t)
  (hB : Cel w'.heap[b.1]? C' t) (hO : ∀ i, i ≠ b.1 → w'.heap[i]? = w.heap[i]?) (hs : w'.heap.size = w.heap.size) (ho : w'.os = w.os) (ht : w'.tape = w.tape) (hp : w'.output = w.output) (hq : isC (some (.cells c t q)) = true := by rfl) (hq' : isC (some (.cells c' t q)) = true := by rfl) :
  Step P ι h w ι (upd h k0 (some (.cells c' t q))) w' := by
 have hlC : isC (h k0) = true := by rw [hk]; exact hq
 have hlive : sol (h k0) := Zug hlC
 have iso : ∀ k b, Za3 (upd h k0 (some (.cells c' t q)) k) b = true → Za3 (h k) b = true := fun k b hk1 => by
  by_cases hk0 : k = k0
  ·subst hk0; exact ZmC hlive
  ·rwa [Zh hk0] at hk1
 have isoC : ∀ k b, Zag (upd h k0 (some (.cells c' t q)) k) b = true → Zag (h k) b = true := fun k b hk1 => by
  by_cases hk0 : k = k0
  ·subst hk0; exact ZfV hlC
  ·rwa [Zh hk0] at hk1
 refine ⟨fun _ _ h => h, ⟨fun k c1 t1 q1 hk1 => ?_, fun k O hk1 => ?_, fun k k' b b' h1 h2 => e.inj k k' b b' (isoC k _ h1) (iso k' _ h2), fun k b hk => by rw [hs]; exact e.lt k b hk, e.marks (fun _ _ h => h) (fun i _ hno => hO i fun e1 => hno k0 b (ZfV hlC) hb e1.symm) (fun _ _ _ _ h => h) (fun k d hk hd => .inr ⟨k, d, isoC k d hk, hd, rfl⟩), e.tb⟩, ho, ht, hp, by rw [hs]; exact Nat.le_refl _, fun i _ hno => hO i fun e1 => hno k0 b (ZfV hlC) hb e1.symm, fun k b h1 h2 _ => (by rw [h1] at h2; cases h2), fun k b0 h1 _ => iso k b0 h1, fun k b0 h1 _ => isoC k b0 h1⟩
 ·by_cases hk0 : k = k0
  ·subst hk0
   rw [Zo] at hk1
   injection hk1 with hk1
   injection hk1 with h1 h2 h3
   subst h1 h2 h3
   obtain ⟨b1, hb1, ⟨hz, hz2, _⟩ | ⟨_, C1, hB1, _, hQ⟩⟩ := e.obj k c t q hk
   ·subst hz hz2; cases hq
   rw [hb] at hb1; injection hb1 with hb1; subst hb1
   obtain ⟨hB1, _⟩ := hB0.same hB1; subst hB1
   exact ⟨b, hb, .inr ⟨ZfV hq', C', hB, hc, fun i hi => by rw [hCs]; exact hQ i hi⟩⟩
  ·rw [Zh hk0] at hk1
   obtain ⟨b1, hb1, hz | ⟨hz, C1, hB1, hC1, hQ⟩⟩ := e.obj k c1 t1 q1 hk1
   ·exact ⟨b1, hb1, .inl hz⟩
   refine ⟨b1, hb1, .inr ⟨hz, C1, hB1.on (hO b1.1 fun e1 => hk0 (e.inj k k0 b1 b (by rw [hk1]; exact hz) (ZmC hlive) hb1 hb e1)), hC1, hQ⟩⟩
 ·by_cases hk0 : k = k0
  ·subst hk0; rw [Zo] at hk1; injection hk1 with hk1; cases hk1
  ·rw [Zh hk0] at hk1
   obtain ⟨b1, hb1, hB1⟩ := e.ro k O hk1
   exact ⟨b1, hb1, hB1.on (hO b1.1 fun e1 => hk0 (e.inj k0 k b b1 (ZfV hlC) (by rw [hk1]; rfl) hb hb1 e1.symm).symm)⟩
theorem Step.opened {ι : Ren} {h : AH} {w : World} (e : Emb P ι h w) {k0 : Nat} {b0 : Nat × Nat} {c : List Value} {t : TypeId} {q : Bool} (hk : h k0 = some (.cells c t q)) (hb0 : ι k0 = some b0) (hq : Zag (some (.cells c t q)) b0 = true) : Step P ι h w ι (upd h k0 (some (.cells c t))) w := by
 have hlC : Zag (h k0) b0 = true := by rw [hk]; exact hq
 have iso : ∀ k b, Za3 (upd h k0 (some (.cells c t)) k) b = true → ι k = some b → Za3 (h k) b = true := fun k b hk1 hb => by
  by_cases hk0 : k = k0
  ·subst hk0; rw [hb0] at hb; injection hb with hb; subst hb; exact Zd8 hlC
  ·rwa [Zh hk0] at hk1
 have isoC : ∀ k b, Zag (upd h k0 (some (.cells c t)) k) b = true → ι k = some b → Zag (h k) b = true := fun k b hk1 hb => by
  by_cases hk0 : k = k0
  ·subst hk0; rw [hb0] at hb; injection hb with hb; subst hb; exact hlC
  ·rwa [Zh hk0] at hk1
 refine ⟨fun _ _ h => h, ⟨fun k c1 t1 q1 hk1 => ?_, fun k O hk1 => ?_, fun k k' b b' h1 h2 h3 h4 => e.inj k k' b b' (isoC k _ h1 h3) (iso k' _ h2 h4) h3 h4, e.lt, e.marks (fun _ _ h => h) (fun _ _ _ => rfl) (fun _ _ _ _ h => h) (fun k d hk hd => .inr ⟨k, d, isoC k _ hk hd, hd, rfl⟩), e.tb⟩, rfl, rfl, rfl, Nat.le_refl _, fun _ _ _ => rfl, fun k b h1 h2 _ => (by rw [h1] at h2; cases h2), fun k b h1 h2 => iso k b h1 h2, fun k b h1 h2 => isoC k b h1 h2⟩
 ·by_cases hk0 : k = k0
  ·subst hk0
   rw [Zo] at hk1
   injection hk1 with hk1
   injection hk1 with h1 h2 h3
   subst h1 h2 h3
   obtain ⟨b, hb, ⟨z1, z2, z3⟩ | ⟨_, hC⟩⟩ := e.obj k c t q hk
   ·rw [hb0] at hb; injection hb with hb; subst hb
    subst z1 z2
    unfold Zag at hq
    rw [z3] at hq
    cases hq
   ·exact ⟨b, hb, .inr ⟨rfl, hC⟩⟩
  ·rw [Zh hk0] at hk1
   exact e.obj k c1 t1 q1 hk1
 ·by_cases hk0 : k = k0
  ·subst hk0; rw [Zo] at hk1; injection hk1 with hk1; cases hk1
  ·rw [Zh hk0] at hk1
   exact e.ro k O hk1
theorem Step.allocM {ι : Ren} {h : AH} {w : World} (e : Emb P ι h w) {n : Nat} (hnf : n < 1000000000) (hn : ι n = none) {O O' : Obj} (hO : RoAt true O (some O')) (q : Nat) :
  Step P ι h w (upd ι n (some (w.heap.size, q))) (upd h n (some (.ro O true))) (w.alloc O') := by
 have hx : ∀ k b, ι k = some b → upd ι n (some (w.heap.size, q)) k = some b := fun k b hk => by
  rw [Zh]; · exact hk
  ·intro e; subst e; rw [hn] at hk; cases hk
 have hnew : (w.alloc O').heap[w.heap.size]? = some O' := heap_alloc_new w _
 refine ⟨hx, ⟨fun k c' t' q' hk => ?_, fun {m} k O hk => ?_, fun k k' b b' h1 h2 h3 h4 h5 => ?_, fun k b hk => ?_, Zrk e hnf hx, e.tabs hx⟩, rfl, rfl, rfl, by simp, fun b hb _ => Below.heap_alloc w _ b hb, fun k b h1 h2 _ => ?_, fun k b0 h1 h2 => ?_, fun k b0 h1 h2 => ?_⟩
 ·by_cases hk0 : k = n
  ·subst hk0; rw [Zo] at hk; injection hk with hk; cases hk
  ·rw [Zh hk0] at hk
   obtain ⟨b, hb, hz | ⟨hz, C', hB, hC, hQ⟩⟩ := e.obj k c' t' q' hk
   ·exact ⟨b, hx k b hb, .inl hz⟩
   ·exact ⟨b, hx k b hb, .inr ⟨hz, C', hB.on (Below.heap_alloc w _ b.1 (e.lt k b hb)), hC.ext hx, hQ⟩⟩
 ·by_cases hk0 : k = n
  ·subst hk0
   rw [Zo] at hk
   injection hk with hk
   injection hk with h1 h2
   subst h1 h2
   exact ⟨_, Zo, hO.on hnew⟩
  ·rw [Zh hk0] at hk
   obtain ⟨b, hb, hB⟩ := e.ro k O hk
   exact ⟨b, hx k b hb, hB.on (Below.heap_alloc w _ b.1 (e.lt k b hb))⟩
 ·by_cases hk0 : k = n <;> by_cases hk1 : k' = n
  ·rw [hk0, hk1]
  ·subst hk0
   rw [Zo] at h3; injection h3 with h3; subst h3
   rw [Zh hk1] at h4
   have := e.lt k' _ h4
   simp only at h5
   omega
  ·subst hk1
   rw [Zo] at h4; injection h4 with h4; subst h4
   rw [Zh hk0] at h3
   have := e.lt k _ h3
   simp only at h5
   omega
  ·rw [Zh hk0] at h1 h3
   rw [Zh hk1] at h2 h4
   exact e.inj k k' b b' h1 h2 h3 h4 h5
 ·by_cases hk0 : k = n
  ·subst hk0; rw [Zo] at hk; injection hk with hk; subst hk; simp
  ·rw [Zh hk0] at hk
   have := e.lt k b hk
   simp; omega
 ·by_cases hk0 : k = n
  ·subst hk0; rw [Zo] at h2; injection h2 with h2; subst h2; exact .inl (Nat.le_refl _)
  ·rw [Zh hk0, h1] at h2; cases h2
 ·by_cases hk0 : k = n
  ·subst hk0; rw [hn] at h2; cases h2
  ·rwa [Zh hk0] at h1
 ·by_cases hk0 : k = n
  ·subst hk0; rw [hn] at h2; cases h2
  ·rwa [Zh hk0] at h1
theorem Step.storeM {ι : Ren} {h : AH} {w w' : World} (e : Emb P ι h w) {k0 : Nat} {b : Nat × Nat} {O0 O1 : Obj} (hk : h k0 = some (.ro O0 true)) (hb : ι k0 = some b)
  (hB : RoAt true O1 w'.heap[b.1]?) (hO : ∀ i, i ≠ b.1 → w'.heap[i]? = w.heap[i]?) (hs : w'.heap.size = w.heap.size) (ho : w'.os = w.os) (ht : w'.tape = w.tape) (hp : w'.output = w.output) :
  Step P ι h w ι (upd h k0 (some (.ro O1 true))) w' := by
 have hlive : sol (h k0) := by rw [hk]; rfl
 have hlC : isC (h k0) = true := by rw [hk]; rfl
 have iso : ∀ k b, Za3 (upd h k0 (some (.ro O1 true)) k) b = true → Za3 (h k) b = true := fun k b hk1 => by
  by_cases hk0 : k = k0
  ·subst hk0; exact ZmC hlive
  ·rwa [Zh hk0] at hk1
 have isoC : ∀ k b, Zag (upd h k0 (some (.ro O1 true)) k) b = true → Zag (h k) b = true := fun k b hk1 => by
  by_cases hk0 : k = k0
  ·subst hk0; exact ZfV hlC
  ·rwa [Zh hk0] at hk1
 refine ⟨fun _ _ h => h, ⟨fun k c1 t1 q1 hk1 => ?_, fun {m} k O hk1 => ?_, fun k k' b b' h1 h2 => e.inj k k' b b' (isoC k _ h1) (iso k' _ h2), fun k b hk => by rw [hs]; exact e.lt k b hk, e.marks (fun _ _ h => h) (fun i _ hno => hO i fun e1 => hno k0 b (ZfV hlC) hb e1.symm) (fun _ _ _ _ h => h) (fun k d hk hd => .inr ⟨k, d, isoC k d hk, hd, rfl⟩), e.tb⟩, ho, ht, hp, by rw [hs]; exact Nat.le_refl _, fun i _ hno => hO i fun e1 => hno k0 b (ZfV hlC) hb e1.symm, fun k b h1 h2 _ => (by rw [h1] at h2; cases h2), fun k b0 h1 _ => iso k b0 h1, fun k b0 h1 _ => isoC k b0 h1⟩
 ·by_cases hk0 : k = k0
  ·subst hk0; rw [Zo] at hk1; injection hk1 with hk1; cases hk1
  ·rw [Zh hk0] at hk1
   obtain ⟨b1, hb1, hz | ⟨hz, C1, hB1, hC1, hQ⟩⟩ := e.obj k c1 t1 q1 hk1
   ·exact ⟨b1, hb1, .inl hz⟩
   refine ⟨b1, hb1, .inr ⟨hz, C1, hB1.on (hO b1.1 fun e1 => hk0 (e.inj k k0 b1 b (by rw [hk1]; exact hz) (ZmC hlive) hb1 hb e1)), hC1, hQ⟩⟩
 ·by_cases hk0 : k = k0
  ·subst hk0
   rw [Zo] at hk1
   injection hk1 with hk1
   injection hk1 with h1 h2
   subst h1 h2
   exact ⟨b, hb, hB⟩
  ·rw [Zh hk0] at hk1
   obtain ⟨b1, hb1, hB1⟩ := e.ro k O hk1
   exact ⟨b1, hb1, hB1.on (hO b1.1 fun e1 => hk0 (e.inj k0 k b b1 (ZfV hlC) (by rw [hk1]; rfl) hb hb1 e1.symm).symm)⟩
theorem Step.rename {ι : Ren} {h : AH} {w : World} (e : Emb P ι h w) {n k0 : Nat} {b : Nat × Nat} (hnf : n < 1000000000) (hn : ι n = none) (hb : ι k0 = some b) (hlC : Zag (h k0) b = true) :
  Step P ι h w (upd ι n (some b)) (upd (upd h k0 none) n (h k0)) w := by
 have hl : Za3 (h k0) b = true := Zd8 hlC
 have hne : n ≠ k0 := fun e => by subst e; rw [hn] at hb; cases hb
 have hx : ∀ k b', ι k = some b' → upd ι n (some b) k = some b' := fun k b' hk => by
  rw [Zh]; · exact hk
  ·intro e; subst e; rw [hn] at hk; cases hk
 have casesI : ∀ k, (upd (upd h k0 none) n (h k0) k).isSome → k = n ∨ (k ≠ n ∧ k ≠ k0 ∧ (h k).isSome) := fun k hk => by
  by_cases h1 : k = n
  ·exact .inl h1
  ·rw [Zh h1] at hk
   exact .inr ⟨h1, ZmD hk⟩
 have cases_ : ∀ k b, Za3 (upd (upd h k0 none) n (h k0) k) b = true → k = n ∨ (k ≠ n ∧ k ≠ k0 ∧ Za3 (h k) b = true) := fun k b hk => by
  by_cases h1 : k = n
  ·exact .inl h1
  ·rw [Zh h1] at hk
   exact .inr ⟨h1, ZiQ hk⟩
 have casesC : ∀ k b, Zag (upd (upd h k0 none) n (h k0) k) b = true → k = n ∨ (k ≠ n ∧ k ≠ k0 ∧ Zag (h k) b = true) := fun k b hk => by
  by_cases h1 : k = n
  ·exact .inl h1
  ·rw [Zh h1] at hk
   exact .inr ⟨h1, ZeA hk⟩
 refine ⟨hx, ⟨fun k c t q hk => ?_, fun k O hk => ?_, fun k k' b1 b2 h1 h2 h3 h4 h5 => ?_, fun k b' hk => ?_, e.marks hx (fun _ _ _ => rfl) (ZkG hnf) (fun k d hk hd => by
  rcases casesC k _ hk with rfl | ⟨q1, _, q3⟩
  ·rw [Zo] at hd; injection hd with hd; subst hd; exact .inr ⟨k0, _, hlC, hb, rfl⟩
  ·rw [Zh q1] at hd; exact .inr ⟨k, d, q3, hd, rfl⟩), e.tabs hx⟩, rfl, rfl, rfl, Nat.le_refl _, fun _ _ _ => rfl, fun k b' h1 h2 _ => ?_, fun k b0 h1 h2 => ?_, fun k b0 h1 h2 => ?_⟩
 ·rcases casesI k (by rw [hk]; rfl) with rfl | ⟨h1, h2, _⟩
  ·rw [Zo] at hk
   obtain ⟨b1, hb1, hz⟩ := e.obj k0 c t q hk
   rw [hb] at hb1; injection hb1 with hb1; subst hb1
   exact ⟨b, Zo, hz.imp id fun ⟨q0, C1, hB1, hC1, hQ⟩ => ⟨q0, C1, hB1, hC1.ext hx, hQ⟩⟩
  ·rw [Zh h1, Zh h2] at hk
   obtain ⟨b1, hb1, hz⟩ := e.obj k c t q hk
   exact ⟨b1, hx _ _ hb1, hz.imp id fun ⟨q0, C1, hB1, hC1, hQ⟩ => ⟨q0, C1, hB1, hC1.ext hx, hQ⟩⟩
 ·rcases casesI k (by rw [hk]; rfl) with rfl | ⟨h1, h2, _⟩
  ·rw [Zo] at hk
   obtain ⟨b1, hb1, hB1⟩ := e.ro k0 O hk
   rw [hb] at hb1; injection hb1 with hb1; subst hb1
   exact ⟨b, Zo, hB1⟩
  ·rw [Zh h1, Zh h2] at hk
   obtain ⟨b1, hb1, hB1⟩ := e.ro k O hk
   exact ⟨b1, hx _ _ hb1, hB1⟩
 ·rcases casesC k _ h1 with rfl | ⟨q1, q2, q3⟩ <;> rcases cases_ k' _ h2 with rfl | ⟨r1, r2, r3⟩
  ·rfl
  ·rw [Zo] at h3; injection h3 with h3; subst h3
   rw [Zh r1] at h4
   exact absurd (e.inj k0 k' _ _ hlC r3 hb h4 h5).symm r2
  ·rw [Zo] at h4; injection h4 with h4; subst h4
   rw [Zh q1] at h3
   exact absurd (e.inj k k0 _ _ q3 hl h3 hb h5) q2
  ·rw [Zh q1] at h3
   rw [Zh r1] at h4
   exact e.inj k k' _ _ q3 r3 h3 h4 h5
 ·by_cases h1 : k = n
  ·subst h1; rw [Zo] at hk; injection hk with hk; subst hk; exact e.lt k0 _ hb
  ·rw [Zh h1] at hk; exact e.lt k b' hk
 ·by_cases hk0 : k = n
  ·subst hk0; rw [Zo] at h2; injection h2 with h2; subst h2; exact .inr ⟨k0, b, hlC, hb, rfl⟩
  ·rw [Zh hk0, h1] at h2; cases h2
 ·rcases cases_ k _ h1 with rfl | ⟨_, _, q3⟩
  ·rw [hn] at h2; cases h2
  ·exact q3
 ·rcases casesC k _ h1 with rfl | ⟨_, _, q3⟩
  ·rw [hn] at h2; cases h2
  ·exact q3
theorem Step.asQ {ι ι' : Ren} {h0 h1 : AH} {w w' : World} {k : Nat} {c : List Value} {t : TypeId} (s : Step P ι h0 w ι' (upd h1 k (some (.cells c t))) w') (q : Bool) : Step P ι h0 w ι' (upd h1 k (some (.cells c t q))) w' := by
 cases q with
 | false => exact s
 | true =>
  have kC : ∀ j d, Zag (upd h1 k (some (.cells c t true)) j) d = true → Zag (upd h1 k (some (.cells c t)) j) d = true := fun j d hj => by
   by_cases e : j = k
   ·subst e; rw [Zo]; rfl
   ·rwa [Zh e] at hj ⊢
  have kS : ∀ j d, Za3 (upd h1 k (some (.cells c t true)) j) d = true → Za3 (upd h1 k (some (.cells c t)) j) d = true := fun j d hj => by
   by_cases e : j = k
   ·subst e; rw [Zo]; rfl
   ·rwa [Zh e] at hj ⊢
  refine ⟨s.ext, ⟨fun j c1 t1 q1 hj => ?_, fun {m} j O hj => ?_, fun j j' b b' h1 h2 h3 h4 h5 => s.emb.inj j j' b b' (kC j _ h1) (kS j' _ h2) h3 h4 h5, s.emb.lt, fun b base id q hq => ?_, s.emb.tb⟩, s.os, s.tape, s.output, s.size, s.frame, fun j b h1 h2 h3 => s.new j b h1 h2 (h3.imp (kS j b) id), fun j b h1 h2 => s.alive j b (kS j b h1) h2, fun j b h1 h2 => s.kind j b (kC j b h1) h2⟩
  ·by_cases e : j = k
   ·subst e
    rw [Zo] at hj
    injection hj with hj
    injection hj with e1 e2 e3
    subst e1 e2 e3
    obtain ⟨b, C, hb, r2, r3, r4⟩ := s.emb.objF j c t (Zo)
    by_cases hz : c = [] ∧ b.2 = 0
    ·exact ⟨b, hb, .inl ⟨rfl, hz.1, hz.2⟩⟩
    refine ⟨b, hb, .inr ⟨?_, C, r2, r3, r4⟩⟩
    cases c with
    | nil =>
     have hb2 : b.2 ≠ 0 := fun h => hz ⟨rfl, h⟩
     show (false || (true && !Nat.beq b.2 0)) = true
     cases hq : Nat.beq b.2 0 with
     | true => exact absurd (Nat.eq_of_beq_eq_true hq) hb2
     | false => rfl
    | cons x l => rfl
   ·rw [Zh e] at hj
    exact s.emb.obj j c1 t1 q1 (by rw [Zh e]; exact hj)
  ·by_cases e : j = k
   ·subst e; rw [Zo] at hj; injection hj with hj; cases hj
   ·rw [Zh e] at hj
    exact s.emb.ro j O (by rw [Zh e]; exact hj)
  ·obtain ⟨m1, m2, m3⟩ := s.emb.mks b base id q hq
   exact ⟨m1, m2, fun j d hj hd => m3 j d (kC j d hj) hd⟩
theorem Step.cut {ι : Ren} {h : AH} {w : World} (e : Emb P ι h w) {n k0 : Nat} {b b' : Nat × Nat} (hnf : n < 1000000000) (hn : ι n = none) (hb : ι k0 = some b) {c : List Value} {t : TypeId} (hk0 : h k0 = some (.cells c t)) (hb1 : b'.1 = b.1) (hb2 : ∀ i, P.info? t = some i → b'.2 ≤ b.2 ∨ b'.2 * i.size ≤ c.length) (r : Nat) :
  Step P ι h w (upd ι n (some b')) (upd (upd h k0 none) n (some (.cells (c.take r) t))) w := by
 have hlC : ∀ b, Zag (h k0) b = true := fun b => by rw [hk0]; rfl
 have hl : ∀ b, Za3 (h k0) b = true := fun b => Zd8 (hlC b)
 have hne : n ≠ k0 := fun e => by subst e; rw [hn] at hb; cases hb
 have hx : ∀ k b1, ι k = some b1 → upd ι n (some b') k = some b1 := fun k b1 hk => by
  rw [Zh]; · exact hk
  ·intro e; subst e; rw [hn] at hk; cases hk
 have casesI : ∀ k, (upd (upd h k0 none) n (some (.cells (c.take r) t)) k).isSome → k = n ∨ (k ≠ n ∧ k ≠ k0 ∧ (h k).isSome) := fun k hk => by
  by_cases h1 : k = n
  ·exact .inl h1
  ·rw [Zh h1] at hk
   exact .inr ⟨h1, ZmD hk⟩
 have cases_ : ∀ k b, Za3 (upd (upd h k0 none) n (some (.cells (c.take r) t)) k) b = true → k = n ∨ (k ≠ n ∧ k ≠ k0 ∧ Za3 (h k) b = true) := fun k b hk => by
  by_cases h1 : k = n
  ·exact .inl h1
  ·rw [Zh h1] at hk
   exact .inr ⟨h1, ZiQ hk⟩
 have casesC : ∀ k b, Zag (upd (upd h k0 none) n (some (.cells (c.take r) t)) k) b = true → k = n ∨ (k ≠ n ∧ k ≠ k0 ∧ Zag (h k) b = true) := fun k b hk => by
  by_cases h1 : k = n
  ·exact .inl h1
  ·rw [Zh h1] at hk
   exact .inr ⟨h1, ZeA hk⟩
 refine ⟨hx, ⟨fun k c' t' q' hk => ?_, fun k O hk => ?_, fun k k' b1 b2 h1 h2 h3 h4 h5 => ?_, fun k b1 hk => ?_, e.marks hx (fun _ _ _ => rfl) (ZkG hnf) (fun k d hk hd => by
  rcases casesC k _ hk with rfl | ⟨q1, _, q3⟩
  ·rw [Zo] at hd; injection hd with hd; subst hd; exact .inr ⟨k0, _, hlC _, hb, hb1.symm⟩
  ·rw [Zh q1] at hd; exact .inr ⟨k, d, q3, hd, rfl⟩), e.tabs hx⟩, rfl, rfl, rfl, Nat.le_refl _, fun _ _ _ => rfl, fun k b1 h1 h2 _ => ?_, fun k b0 h1 h2 => ?_, fun k b0 h1 h2 => ?_⟩
 ·rcases casesI k (by rw [hk]; rfl) with rfl | ⟨h1, h2, _⟩
  ·rw [Zo] at hk
   injection hk with hk
   injection hk with q1 q2 q3
   subst q1 q2 q3
   obtain ⟨b1, C1, hb1', hB1, hC1, hQ⟩ := e.objF k0 c t hk0
   rw [hb] at hb1'; injection hb1' with hb1'; subst hb1'
   refine ⟨b', Zo, .inr ⟨rfl, C1, by rw [hb1]; exact hB1, ⟨by rw [List.length_take]; have := hC1.1; omega, fun i x y hx1 hy => ?_⟩, fun i hi => ?_⟩⟩
   ·have hir : i < r := by have := (List.getElem?_eq_some_iff.1 hx1).1; rw [List.length_take] at this; omega
    rw [List.getElem?_take_of_lt hir] at hx1
    exact (hC1.2 i x y hx1 hy).ext hx
   ·rcases hb2 i hi with h3 | h3
    ·exact Nat.le_trans (Nat.mul_le_mul_right _ h3) (hQ i hi)
    ·exact Nat.le_trans h3 hC1.1
  ·rw [Zh h1, Zh h2] at hk
   obtain ⟨b1, hb1', hz⟩ := e.obj k c' t' q' hk
   exact ⟨b1, hx _ _ hb1', hz.imp id fun ⟨q0, C1, hB1, hC1, hQ⟩ => ⟨q0, C1, hB1, hC1.ext hx, hQ⟩⟩
 ·rcases casesI k (by rw [hk]; rfl) with rfl | ⟨h1, h2, _⟩
  ·rw [Zo] at hk
   injection hk with hk
   cases hk
  ·rw [Zh h1, Zh h2] at hk
   obtain ⟨b1, hb1', hB1⟩ := e.ro k O hk
   exact ⟨b1, hx _ _ hb1', hB1⟩
 ·rcases casesC k _ h1 with rfl | ⟨q1, q2, q3⟩ <;> rcases cases_ k' _ h2 with rfl | ⟨r1, r2, r3⟩
  ·rfl
  ·rw [Zo] at h3; injection h3 with h3; subst h3
   rw [Zh r1] at h4
   exact absurd (e.inj k0 k' _ _ (hlC _) r3 hb h4 (hb1 ▸ h5)).symm r2
  ·rw [Zo] at h4; injection h4 with h4; subst h4
   rw [Zh q1] at h3
   exact absurd (e.inj k k0 _ _ q3 (hl _) h3 hb (hb1 ▸ h5)) q2
  ·rw [Zh q1] at h3
   rw [Zh r1] at h4
   exact e.inj k k' _ _ q3 r3 h3 h4 h5
 ·by_cases h1 : k = n
  ·subst h1; rw [Zo] at hk; injection hk with hk; subst hk; rw [hb1]; exact e.lt k0 _ hb
  ·rw [Zh h1] at hk; exact e.lt k b1 hk
 ·by_cases hk0' : k = n
  ·subst hk0'; rw [Zo] at h2; injection h2 with h2; subst h2; exact .inr ⟨k0, b, hlC _, hb, hb1.symm⟩
  ·rw [Zh hk0', h1] at h2; cases h2
 ·rcases cases_ k _ h1 with rfl | ⟨_, _, q3⟩
  ·rw [hn] at h2; cases h2
  ·exact q3
 ·rcases casesC k _ h1 with rfl | ⟨_, _, q3⟩
  ·rw [hn] at h2; cases h2
  ·exact q3
theorem Dom.one {ι : Ren} {n : Nat} {b : Nat × Nat} : Dom ι (upd ι n (some b)) n (n + 1) := fun k hk => by
 by_cases h1 : k = n
 ·subst h1; exact .inr (.inl ⟨Nat.le_refl _, Nat.lt_succ_self _⟩)
 ·rw [Zh h1] at hk; exact .inl hk
end
section
variable {P : Program}

theorem ZkH {α : Type} : ∀ {s : Sem α} {a : α} (w : World), ZlX P s = some a → s.run P w = .ok a w
 | .pure a, b, w, h => by simp [ZlX] at h; subst h; rfl
 | .program k, b, w, h => by simp only [ZlX] at h; simp only [Sem.run]; exact ZkH w h
 | .mark m k, b, w, h => by simp only [ZlX] at h; simp only [Sem.run]; exact ZkH w h
 | .load _ _ _, _, _, h | .store _ _ _ _, _, _, h | .new _ _, _, _, h | .shape _ _, _, _, h | .freeze _ _ _, _, _, h | .frozen _ _, _, _, h | .getObj _ _, _, _, h | .setObj _ _ _, _, _, h | .choose _ _, _, _, h | .sys _ _, _, _, h | .halt _, _, _, h => by simp [ZlX] at h

def Res (P : Program) (r : Result Next) (s : St) (ι : Ren) (w : World) (v : Value) (s' : St) : Prop :=
 ∃ nx w' ι' v', r = .ok nx w' ∧ (nx = .value v' ∨ (nx = .skip ∧ v' = undef)) ∧ Step P ι s.h.get w ι' s'.h.get w' ∧ Dom ι ι' s.n s'.n ∧ VR ι' v v'
variable {ι : Ren} {w : World} {ρ ρ' : Operand → Value} {s s' : St} {v : Value}
theorem Res.same {r : Result Next} {v' : Value} (he : Emb P ι s.h.get w) (hr : r = .ok (.value v') w) (hv : VR ι v v') : Res P r s ι w v s :=
 ⟨_, w, ι, v', hr, .inl rfl, Step.refl he, Dom.refl, hv⟩
theorem Res.heap {r : Result Next} (h : Res P r s ι w v s') {s1 : St} (h1 : s1.h = s.h) (h2 : s1.n = s.n) : Res P r s1 ι w v s' := by
 obtain ⟨nx, w', ι', v', a, b, c, d, e⟩ := h
 exact ⟨nx, w', ι', v', a, b, h1 ▸ c, h2 ▸ d, e⟩
theorem ZoX {s s1 : St} {t b : Bool} (h : s.tst t = (b, s1)) (ho : ∀ p ∈ s1.ob, p.1 = p.2) : b = t ∧ s1.h = s.h ∧ s1.n = s.n := by
 unfold St.tst at h
 split at h
 ·injection h with h1 h2; subst h1 h2; exact ⟨rfl, rfl, rfl⟩
 ·injection h with h1 h2; subst h1 h2; exact ⟨rfl, rfl, rfl⟩
 ·injection h with h1 h2; subst h1 h2; exact ⟨(ho (t, _) (by simp)).symm, rfl, rfl⟩

theorem Z3i {s s1 : St} {x y : Int} (h : s.vst x = (y, s1)) (ho : ∀ p ∈ s1.ob, p.1 = p.2) : y = x ∧ s1.h = s.h ∧ s1.n = s.n := by
 unfold St.vst at h
 split at h
 ·injection h with h1 h2; subst h1 h2; exact ⟨rfl, rfl, rfl⟩
 ·injection h with h1 h2; subst h1 h2; exact ⟨rfl, rfl, rfl⟩
 ·injection h with h1 h2; subst h1 h2; exact ⟨(beq_iff_eq.1 (ho (x == _, true) (by simp))).symm, rfl, rfl⟩

theorem Z1R {o : Oper} (hρ : ∀ x, VR ι (ρ x) (ρ' x)) (h : Z5 (fun x => free (ρ x)) o.op.operands.toList = true) : ∀ x ∈ o.op.operands, ρ x = ρ' x := fun x hx =>
 ((hρ x).eq_of_free (ZaG h x (by simpa using hx))).symm
theorem Zcn {o : Oper} (hs : ∀ cs b, o.op ≠ .select cs b) (hρ : ∀ x, VR ι (ρ x) (ρ' x)) (he : Emb P ι s.h.get w) (h : ZdC P ρ o s = some (v, s')) : s' = s ∧ Res P ((execOp ρ' o).run P w) s ι w v s' := by
 unfold ZdC at h
 cases ha : Z5 (fun x => free (ρ x)) o.op.operands.toList with
 | false => rw [ha] at h; simp at h
 | true =>
  rw [ha] at h
  simp only [cond_true] at h
  split at h
  ·rename_i u hu
   cases hf : free u with
   | false => rw [hf] at h; simp at h
   | true =>
    rw [hf] at h
    simp only [cond_true, Option.some.injEq, Prod.mk.injEq] at h
    obtain ⟨rfl, rfl⟩ := h
    refine ⟨rfl, Res.same he ?_ (VR.of_free hf)⟩
    rw [← execOp_congr o hs (Z1R hρ ha)]
    exact ZkH w hu
  ·cases h

/-! ### Cells -/
theorem VR.cells {v v' : Value} (h : VR ι v v') : v.cells.size = v'.cells.size ∧ CR ι v.cells.toList v'.cells := by
 have one : ∀ {v v' : Value}, VR ι v v' → v.cells = #[v] → v'.cells = #[v'] → v.cells.size = v'.cells.size ∧ CR ι v.cells.toList v'.cells := fun h h1 h2 => by
  rw [h1, h2]
  refine ⟨rfl, by simp, fun i x y hx hy => ?_⟩
  rcases i with _ | i
  ·simp at hx hy; subst hx hy; exact h
  ·simp at hx
 cases h with
 | atom ha =>
  cases v <;> first | exact one (.atom ha) rfl rfl | (simp [Ev.atom] at ha)
 | agg hs h =>
  refine ⟨hs, by simp [Value.cells, hs], fun i x y hx hy => h i x y (by simpa [Value.cells] using hx) (by simpa [Value.cells] using hy)⟩
 | glob h => rename_i g; exact one (.glob h) rfl (by cases v' <;> first | rfl | (simp [Value.oneCell'] at h))
 | ptr h => exact one (.ptr h) rfl rfl
 | map h => exact one (.map h) rfl rfl
 | slice h a b c => exact one (.slice h a b c) rfl rfl
 | slice0 h => exact one (.slice0 h) rfl rfl
 | mptr h => exact one (.mptr h) rfl rfl
 | mslice h a b => exact one (.mslice h a b) rfl rfl
 | func a b c d => exact one (.func a b c d) rfl rfl
 | tuple a b => exact one (.tuple a b) rfl rfl
theorem ZrK {v v' : Value} (h : VR ι v v') (hc : Zbw v = true) : v'.oneCell' = true := by
 cases h with
 | atom h => cases v <;> first | rfl | (simp [Zbw] at hc)
 | glob h => exact h
 | agg _ _ => simp [Zbw] at hc
 | tuple _ _ => simp [Zbw] at hc
 | _ => rfl
theorem CR.of_atoms {l : List Value} (h : Z5 atom l = true) : CR ι l l.toArray := ⟨by simp, fun i x y hx hy => by
 simp at hy
 rw [hx] at hy
 injection hy with hy
 subst hy
 exact .atom (ZaG h x (List.mem_of_getElem? hx))⟩
theorem ZeB {α : Type} : ∀ {n : Nat} {l r : List α}, ZO n l = some r → r = l.take n ∧ n ≤ l.length
 | 0, l, r, h => by simp [ZO] at h; subst h; simp
 | n + 1, [], r, h => by simp [ZO] at h
 | n + 1, x :: l, r, h => by
  simp only [ZO] at h
  split at h
  ·rename_i r' hr
   injection h with h
   subst h
   obtain ⟨rfl, hl⟩ := ZeB hr
   exact ⟨rfl, by simpa using hl⟩
  ·cases h
theorem Znq (he : Emb P ι s.h.get w) {k o m : Nat} {l : List Value} (h : rowAt s k o m = some l) :
  ∃ b C t, ι k = some b ∧ Cel w.heap[b.1]? C t ∧ l.length = m ∧ ∀ (j : Nat) x, l[j]? = some x → ∃ y, C[o + j]? = some y ∧ VR ι x y := by
 unfold rowAt at h
 split at h
 ·rename_i c t q hk
  have hh : ZO m (c.drop o) = some l ∧ (q = true → m ≠ 0) := by
   cases q with
   | false => exact ⟨h, fun e => by cases e⟩
   | true =>
    simp only at h
    cases hm : Nat.beq m 0 with
    | true => rw [hm] at h; cases h
    | false => rw [hm] at h; exact ⟨h, fun _ e => by subst e; cases hm⟩
  obtain ⟨h, hq⟩ := hh
  obtain ⟨b, hb, ⟨z1, z2, _⟩ | ⟨_, C, hB, hC, _⟩⟩ := he.obj k c t q hk
  ·subst z2
   obtain ⟨rfl, hl⟩ := ZeB h
   simp at hl
   exact absurd hl (hq z1)
  obtain ⟨rfl, hl⟩ := ZeB h
  have h0 := hC.1
  simp only [List.length_drop] at hl
  refine ⟨b, C, t, hb, hB, by simp; omega, fun j x hx => ?_⟩
  have hj : j < m := by
   have := (List.getElem?_eq_some_iff.1 hx).1
   simp at this; omega
  rw [List.getElem?_take_of_lt hj, List.getElem?_drop] at hx
  have hlt : o + j < C.size := by
   have := (List.getElem?_eq_some_iff.1 hx).1
   omega
  exact ⟨C[o + j], Array.getElem?_eq_getElem hlt, hC.2 (o + j) x _ hx (Array.getElem?_eq_getElem hlt)⟩
 ·cases h
theorem ZzB {b o j : Nat} {C : Array Value} {t : TypeId} (hB : Cel w.heap[b]? C t) : w.cell? ((⟨b, o, none⟩ : Addr).add j) = C[o + j]? := by
 obtain ⟨fr, hB, _⟩ := hB
 unfold Addr.add
 split
 ·rename_i h; subst h; exact cell_of_row w b o C t fr hB
 ·exact cell_of_row w b (o + j) C t fr hB
theorem ZwQ {b o : Nat} {C : Array Value} {t : TypeId} (hB : Cel w.heap[b]? C t) : w.cell? ⟨b, o, none⟩ = C[o]? := by
 obtain ⟨fr, hB, _⟩ := hB
 exact cell_of_row w b o C t fr hB
theorem Znr (he : Emb P ι s.h.get w) {k o m : Nat} {l : List Value} (h : rowAt s k o m = some l) :
  ∃ (b : Nat × Nat) (cs : List Value), ι k = some b ∧ cs.length = m ∧ l.length = m ∧ (∀ j u, cs[j]? = some u → w.cell? ((⟨b.1, o, none⟩ : Addr).add j) = some u) ∧ ∀ (j : Nat) x y, l[j]? = some x → cs[j]? = some y → VR ι x y := by
 obtain ⟨b, C, t, hb, hB, hl, hx⟩ := Znq he h
 have hc : ∀ j, j < m → o + j < C.size := fun j hj => by
  obtain ⟨y, hy, _⟩ := hx j l[j] (List.getElem?_eq_getElem (by omega))
  exact (Array.getElem?_eq_some_iff.1 hy).1
 refine ⟨b, (List.range m).map fun j => C.getD (o + j) undef, hb, by simp, hl, fun j u hu => ?_, fun j x y h1 h2 => ?_⟩
 ·have hj : j < m := by have := (List.getElem?_eq_some_iff.1 hu).1; simpa using this
  rw [ZzB hB]
  simp only [List.getElem?_map, List.getElem?_range hj, Option.map_some, Option.some.injEq] at hu
  rw [← hu, Array.getElem?_eq_getElem (hc j hj)]
  simp [Array.getD, hc j hj]
 ·have hj : j < m := by have := (List.getElem?_eq_some_iff.1 h1).1; omega
  obtain ⟨y', hy, hv⟩ := hx j x h1
  simp only [List.getElem?_map, List.getElem?_range hj, Option.map_some, Option.some.injEq] at h2
  rw [Array.getElem?_eq_getElem (hc j hj)] at hy
  injection hy with hy
  subst h2
  rw [show C.getD (o + j) undef = y' by simp [Array.getD, hc j hj]; exact hy]
  exact hv
theorem Zgy {t : TypeId} {q : Bool} {m : Nat} (h : Zjp P t = some (q, m)) : (isAgg t).run P w = .ok q w ∧ ∃ i, P.info? t = some i ∧ i.size = m := by
 unfold Zjp at h
 cases hu : P.underlying t with
 | none => rw [hu] at h; simp at h
 | some d =>
  cases hi : P.info? t with
  | none => rw [hu, hi] at h; cases d <;> simp at h
  | some i =>
   rw [hu, hi] at h
   have : (isAgg t).run P w = .ok (match d with | .struct _ | .array _ _ => true | _ => false) w := by
    simp only [isAgg, Sem.run_bind, run_underlying hu, Result.andThen]
    cases d <;> rfl
   rw [this]
   cases d <;> simp at h <;> (obtain ⟨rfl, rfl⟩ := h; exact ⟨rfl, i, rfl, rfl⟩)
theorem ZnS (he : Emb P ι s.h.get w) {t k o : Nat} (h : Zk1 P s t k o = some v) : ∃ b v', ι k = some b ∧ (loadVar t ⟨b.1, o, none⟩).run P w = .ok v' w ∧ VR ι v v' := by
 unfold Zk1 at h
 split at h
 ·rename_i m hs
  split at h
  ·rename_i l hl
   injection h with h
   subst h
   obtain ⟨hA, i, hi, him⟩ := Zgy (w := w) hs
   obtain ⟨b, cs, hb, hcl, hll, hcs, hv⟩ := Znr he hl
   refine ⟨b, .agg cs.toArray, hb, ?_, .agg (by simp; omega) fun j x y hx hy => hv j x y (by simpa using hx) (by simpa using hy)⟩
   have := run_loadCells_list (P := P) w ⟨b.1, o, none⟩ cs hcs
   rw [hcl] at this
   subst him
   simp [loadVar, hA, Result.andThen, sizeOf, typeInfo, hi, this]
  ·cases h
 ·rename_i m hs
  split at h
  ·rename_i u hl
   injection h with h
   subst h
   obtain ⟨hA, _⟩ := Zgy (w := w) hs
   obtain ⟨b, cs, hb, hcl, hll, hcs, hv⟩ := Znr he hl
   have h0 : cs[0]? = some cs[0] := List.getElem?_eq_getElem (by omega)
   refine ⟨b, cs[0], hb, ?_, hv 0 _ _ rfl h0⟩
   have := hcs 0 _ h0
   simp only [Addr.add, if_true] at this
   simp [loadVar, hA, Result.andThen, load, Sem.run, this]
  ·cases h
 ·cases h

/-! ### Writes -/
theorem Zvg {g : Nat} {C C' : Array Value} {t : TypeId} (hB : Cel w.heap[g]? C t) (hs : C'.size = C.size) : Cel (w.setRow g C').heap[g]? C' t ∧ (∀ i, i ≠ g → (w.setRow g C').heap[i]? = w.heap[i]?) ∧ (w.setRow g C').heap.size = w.heap.size := by
 obtain ⟨fr, hB, hu⟩ := hB
 refine ⟨⟨fr, ?_, by rw [hs]; exact hu⟩, fun i hi => ?_, by simp [World.setRow]⟩
 ·simp only [World.setRow, Array.getElem?_modify, if_true, hB, Option.map_some]
 ·simp only [World.setRow, Array.getElem?_modify]
  rw [if_neg (fun e => hi e.symm)]
theorem Z0V {g o : Nat} {cur : Array Value} {t : TypeId} {fr : Nat × Nat} (hg : w.heap[g]? = some (.cells cur t fr)) (hu : Unf cur.size fr) (ho : o < cur.size) : w.frozen? ⟨g, o, none⟩ = false := by
 rcases hu with rfl | hu
 ·simp [World.frozen?, hg]
 ·simp [World.frozen?, hg]; omega
theorem ZiR (P : Program) (g o : Nat) (t : TypeId) {fr : Nat × Nat} : ∀ (vs : List Value) (i : Nat) (cur : Array Value) (w : World), w.heap[g]? = some (.cells cur t fr) → Unf cur.size fr → o + i + vs.length ≤ cur.size → (∀ v ∈ vs, v.oneCell' = true) →
  (storeCells ⟨g, o, none⟩ vs i).run P w = .ok () (w.setRow g (cur.toList.take (o + i) ++ vs ++ cur.toList.drop (o + i + vs.length)).toArray)
 | [], i, cur, w, hg, _, _, _ => by
  simp only [storeCells, List.append_nil, List.length_nil, Nat.add_zero, List.take_append_drop, Array.toArray_toList]
  rw [setRow_self w g cur t fr hg]
  rfl
 | v :: rest, i, cur, w, hg, hu, hl, h1 => by
  have hi : o + i < cur.size := by simp at hl; omega
  have hadd : (⟨g, o, none⟩ : Addr).add i = ⟨g, o + i, none⟩ := by unfold Addr.add; split <;> simp_all
  have hcell : w.cell? ⟨g, o + i, none⟩ = some cur[o + i] := by simp [World.cell?, hg, hi]
  have hst : (store ((⟨g, o, none⟩ : Addr).add i) v).run P w = .ok () (w.setRow g (cur.setIfInBounds (o + i) v)) := by
   rw [hadd, run_store P w _ v _ (h1 v (by simp)), hcell]
   simp [Z0V hg hu hi, setCell_eq_setRow w g (o + i) cur t fr v hg]
  have ih := ZiR P g o t rest (i + 1) (cur.setIfInBounds (o + i) v) (w.setRow g (cur.setIfInBounds (o + i) v)) (setRow_heap w g cur _ t fr hg) (by simpa using hu) (by simp at hl ⊢; omega) (fun x hx => h1 x (by simp [hx]))
  simp only [storeCells, Sem.run_bind, hst, Result.andThen_ok, ih, setRow_setRow]
  congr 3
  have e := list_seg_step cur.toList (o + i) v rest (by simp at hl ⊢; omega)
  simpa [Array.toList_setIfInBounds, Nat.add_assoc] using e
theorem Zj9 (he : Emb P ι s.h.get w) {k o : Nat} {l : List Value} {c : Array Value} (h : Zdg s k o l = some s') (hl : l.length = c.size) (hc : ∀ (i : Nat) x y, l[i]? = some x → c[i]? = some y → VR ι x y) :
  ∃ b w', ι k = some b ∧ (storeCells ⟨b.1, o, none⟩ c.toList).run P w = .ok () w' ∧ Step P ι s.h.get w ι s'.h.get w' ∧ s'.n = s.n ∧ (∃ C t, Cel w.heap[b.1]? C t ∧ o + c.size ≤ C.size ∧ w' = w.setRow b.1 (C.toList.take o ++ c.toList ++ C.toList.drop (o + c.size)).toArray) ∧ (∀ u ∈ c.toList, u.oneCell' = true) := by
 unfold Zdg at h
 split at h
 ·rename_i a t q hk
  cases hg0 : ((Nat.ble (o + l.length) a.length && Z5 Zbw l) && (!q || Nat.blt 0 l.length)) with
  | false => rw [hg0] at h; simp at h
  | true =>
   rw [hg0] at h
   simp only [cond_true, Option.some.injEq] at h
   subst h
   rw [Bool.and_eq_true] at hg0
   obtain ⟨hg, hq⟩ := hg0
   simp only [Bool.and_eq_true] at hg
   have hle : o + l.length ≤ a.length := Nat.le_of_ble_eq_true hg.1
   have hc0 : ∀ r : List Value, r.length = a.length → isC (some (.cells r t q)) = true := fun r hr => by
    cases q with
    | false => rfl
    | true =>
     have : 0 < l.length := by simpa [Nat.blt_eq] using hq
     cases r with
     | nil => simp at hr; omega
     | cons x r => rfl
   obtain ⟨b, hb, ⟨z1, z2, _⟩ | ⟨_, C, hB, hC, hQ⟩⟩ := he.obj k a t q hk
   ·subst z1 z2
    have := hc0 [] rfl
    cases this
   have h1 : ∀ u ∈ c.toList, u.oneCell' = true := fun u hu => by
    obtain ⟨j, hj⟩ := List.mem_iff_getElem?.1 hu
    have hjl : j < l.length := by have := (List.getElem?_eq_some_iff.1 hj).1; simp at this; omega
    exact ZrK (hc j l[j] u (List.getElem?_eq_getElem hjl) (by simpa using hj)) (ZaG hg.2 _ (List.getElem_mem hjl))
   have hfit : o + 0 + c.toList.length ≤ C.size := by have := hC.1; simp; omega
   obtain ⟨fr, hBf, hUf⟩ := hB.unf
   have hrun := ZiR P b.1 o t c.toList 0 C w hBf hUf hfit h1
   obtain ⟨q1, q2, q3⟩ := Zvg (C' := (C.toList.take o ++ c.toList ++ C.toList.drop (o + c.size)).toArray) hB (by simp [List.length_take, List.length_drop]; simp at hfit; omega)
   simp only [Nat.add_zero, Array.length_toList] at hrun hfit
   refine ⟨b, _, hb, hrun, ?_, rfl, ⟨C, t, hB, by omega, rfl⟩, h1⟩
   show Step P ι s.h.get w ι (s.h.set k (some (.cells (Zgr a o l) t q))).get _
   rw [Tr.get_set]
   have hsz : (C.toList.take o ++ c.toList ++ C.toList.drop (o + c.size)).length = C.size := by
    simp [List.length_take, List.length_drop]; omega
   refine Step.store he hk hb (C := C) ?_ (by simpa using hsz) hB q1 q2 q3 rfl rfl rfl (hc0 a rfl) (hc0 _ (by unfold Zgr; simp [List.length_take, List.length_drop]; omega))
   have h0 := hC.1
   unfold Zgr
   refine ⟨by simp [List.length_take, List.length_drop]; omega, fun i x y hx hy => ?_⟩
   simp only [List.getElem?_toArray] at hy
   have e1 : (a.take o).length = o := by rw [List.length_take]; omega
   have e2 : (C.toList.take o).length = o := by rw [List.length_take]; simp; omega
   by_cases hi : i < o
   ·rw [List.append_assoc, List.getElem?_append_left (by rw [e1]; exact hi), List.getElem?_take_of_lt hi] at hx
    rw [List.append_assoc, List.getElem?_append_left (by rw [e2]; exact hi), List.getElem?_take_of_lt hi] at hy
    exact hC.2 i x y hx (by simpa using hy)
   ·by_cases hi2 : i < o + l.length
    ·rw [List.append_assoc, List.getElem?_append_right (by rw [e1]; omega), e1, List.getElem?_append_left (by omega)] at hx
     rw [List.append_assoc, List.getElem?_append_right (by rw [e2]; omega), e2, List.getElem?_append_left (by simp; omega)] at hy
     exact hc (i - o) x y hx (by simpa using hy)
    ·rw [List.getElem?_append_right (by rw [List.length_append, e1]; omega), List.length_append, e1, List.getElem?_drop] at hx
     rw [List.getElem?_append_right (by rw [List.length_append, e2]; simp; omega), List.length_append, e2, List.getElem?_drop] at hy
     have ei : o + l.length + (i - (o + l.length)) = i := by omega
     have ei2 : o + c.size + (i - (o + c.toList.length)) = i := by simp; omega
     rw [ei] at hx
     rw [ei2] at hy
     exact hC.2 i x y hx (by simpa using hy)
 ·cases h

/-! ### The operations -/
theorem ZkI (he : Emb P ι s.h.get w) (hf : Fresh ι s.n (s.n + 1)) {c : List Value} {C : Array Value} (t : TypeId) (hc : CR ι c C) (q : Nat) (hq : ∀ i, P.info? t = some i → q * i.size ≤ C.size) :
  Step P ι s.h.get w (upd ι s.n (some (w.heap.size, q))) (s.add c t).h.get (w.alloc (.cells C t)) ∧ Dom ι (upd ι s.n (some (w.heap.size, q))) s.n (s.add c t).n := by
 have := Step.alloc he (Nat.lt_of_lt_of_le (Nat.lt_succ_self _) hf.1) (hf.2 s.n (Nat.le_refl _) (Nat.lt_succ_self _)) t hc q hq
 refine ⟨?_, Dom.one⟩
 show Step P ι s.h.get w _ (s.h.set s.n (some (.cells c t))).get _
 rw [Tr.get_set]
 exact this
theorem Zil {t : TypeId} {z : List Value} (h : ZgT P t = some z) : ∃ i u, P.info? t = some i ∧ i.zero = some u ∧ z = u.cells.toList ∧ Z5 atom z = true := by
 unfold ZgT at h
 split at h
 ·rename_i i hi
  split at h
  ·rename_i u hu
   cases ha : Z5 atom u.cells.toList with
   | false => rw [ha] at h; simp at h
   | true => rw [ha] at h; simp at h; subst h; exact ⟨i, u, hi, hu, rfl, ha⟩
  ·cases h
 ·cases h
end
section
variable {P : Program} {ι : Ren} {w : World} {ρ ρ' : Operand → Value} {s s' : St} {v : Value}

theorem Zp {α : Type} {b : Bool} {x : Option α} {y : α} (h : (bif b then x else none) = some y) : b = true ∧ x = some y := by
 cases b with
 | false => simp at h
 | true => exact ⟨rfl, by simpa using h⟩
theorem VR.mptr_inv {id o z : Nat} {v' : Value} (h : VR ι (.pointer (some ⟨id, o, some z⟩)) v') : ∃ b base q, ι (Zai b base id) = some q ∧ v' = .pointer (some ⟨b, base + o, none⟩) := by
 cases h with
 | atom h => simp [Ev.atom] at h
 | mptr h => exact ⟨_, _, _, h, rfl⟩
theorem VR.ptr_inv {k o : Nat} {v' : Value} (h : VR ι (.pointer (some ⟨k, o, none⟩)) v') : ∃ b, ι k = some b ∧ v' = .pointer (some ⟨b.1, o, none⟩) := by
 cases h with
 | atom h => simp [Ev.atom] at h
 | ptr h => exact ⟨_, h, rfl⟩
theorem VR.bool_inv {b : Bool} {v' : Value} (h : VR ι (.bool b) v') : v' = .bool b := h.eq_of_atom rfl
theorem VR.int_inv {k : IntKind} {n : Int} {v' : Value} (h : VR ι (.int k n) v') : v' = .int k n := h.eq_of_atom rfl
theorem VR.agg_inv {a : Array Value} {v' : Value} (h : VR ι (.agg a) v') : ∃ a' : Array Value, v' = .agg a' ∧ a.size = a'.size ∧ ∀ (i : Nat) x y, a[i]? = some x → a'[i]? = some y → VR ι x y := by
 cases h with
 | atom h => simp [Ev.atom] at h
 | agg hs h => exact ⟨_, rfl, hs, h⟩
theorem VR.tuple_inv {a : Array Value} {v' : Value} (h : VR ι (.tuple a) v') : ∃ a' : Array Value, v' = .tuple a' ∧ a.size = a'.size ∧ ∀ (i : Nat) x y, a[i]? = some x → a'[i]? = some y → VR ι x y := by
 cases h with
 | atom h => simp [Ev.atom] at h
 | tuple hs h => exact ⟨_, rfl, hs, h⟩
theorem Zf4 {x x' : Value} {n : Nat} (h : Zki x = some n) (hv : VR ι x x') : ∃ k, x' = .int k (n : Int) := by
 unfold Zki at h
 split at h
 ·injection h with h; subst h; exact ⟨_, hv.int_inv⟩
 ·cases h

theorem Zy9 {o : Oper} {t : TypeId} (ho : o.op = .alloc t) (he : Emb P ι s.h.get w) {z : List Value} (hz : ZgT P t = some z) (hf : Fresh ι s.n (s.n + 1)) :
  Res P ((execOp ρ' o).run P w) s ι w (at0 s.n) (s.add z t) := by
 obtain ⟨i, u, hi, hu, rfl, ha⟩ := Zil hz
 obtain ⟨h1, h2⟩ := ZkI he hf t (C := u.cells) (by have := CR.of_atoms (ι := ι) ha; simpa using this) 0 (by simp)
 refine ⟨.value (.pointer (some ⟨w.heap.size, 0, none⟩)), _, _, _, ?_, .inl rfl, h1, h2, .ptr (b := (w.heap.size, 0)) Zo⟩
 simp [execOp, ho, Instr.alloc, zeroValue, typeInfo, hi, hu, newVar, newRow, newObj, Sem.run, Result.andThen]
theorem Z0W {o : Oper} {t : TypeId} {x : Operand} (ho : o.op = .box t x) (hρ : VR ι (ρ x) (ρ' x)) (he : Emb P ι s.h.get w) (hf : Fresh ι s.n (s.n + 1)) :
  Res P ((execOp ρ' o).run P w) s ι w (at0 s.n) (s.add (ρ x).cells.toList t) := by
 obtain ⟨h1, h2⟩ := ZkI he hf t hρ.cells.2 0 (by simp)
 refine ⟨.value (.pointer (some ⟨w.heap.size, 0, none⟩)), _, _, _, ?_, .inl rfl, h1, h2, .ptr (b := (w.heap.size, 0)) Zo⟩
 simp [execOp, ho, Instr.box, newVar, newRow, newObj, Sem.run, Result.andThen]
theorem ZlY {o : Oper} {t : TypeId} {a x : Operand} (ho : o.op = .store t a x) (hρ : ∀ x, VR ι (ρ x) (ρ' x)) (he : Emb P ι s.h.get w) (h : ZiO P ρ t a x s = some (v, s')) :
  Res P ((execOp ρ' o).run P w) s ι w v s' := by
 unfold ZiO at h
 split at h
 ·rename_i k o' i ha hi
  obtain ⟨hsz, h⟩ := Zp h
  split at h
  ·rename_i s1 hs
   injection h with h
   injection h with h1 h2
   subst h1 h2
   obtain ⟨b', hb, ha'⟩ := (ha ▸ hρ a).ptr_inv
   obtain ⟨hc1, hc2⟩ := (hρ x).cells
   obtain ⟨b, w', hb2, hrun, hstep, hn, _, _⟩ := Zj9 he (c := (ρ' x).cells) hs (by simpa using hc1) hc2.2
   rw [hb] at hb2; injection hb2 with hb2; subst hb2
   refine ⟨.skip, w', ι, undef, ?_, .inr ⟨rfl, rfl⟩, hstep, hn ▸ Dom.refl, VR.of_free rfl⟩
   have hsz' : (ρ' x).cells.size = i.size := by rw [← hc1]; exact Nat.eq_of_beq_eq_true hsz
   simp [execOp, ho, Instr.storeAt, ha', Instr.sureAddr, storeVar, sizeOf, typeInfo, hi, hsz', hrun, Result.andThen, Sem.run]
  ·cases h
 ·cases h
theorem Zns {o : Oper} {t : TypeId} {a : Operand} {k o' : Nat} (ho : o.op = .load t a) (ha : ρ a = .pointer (some ⟨k, o', none⟩)) (hρ : VR ι (ρ a) (ρ' a)) (he : Emb P ι s.h.get w) (h : Zk1 P s t k o' = some v) :
  Res P ((execOp ρ' o).run P w) s ι w v s := by
 obtain ⟨b', hb, ha'⟩ := (ha ▸ hρ).ptr_inv
 obtain ⟨b, v', hb2, hrun, hv⟩ := ZnS he h
 rw [hb] at hb2; injection hb2 with hb2; subst hb2
 refine Res.same he (v' := v') ?_ hv
 simp [execOp, ho, Instr.loadAt, ha', Instr.sureAddr, hrun, Result.andThen, Sem.run]
theorem ZsR {o : Oper} {t : TypeId} {x : Operand} {f : Nat} (ho : o.op = .fieldAddr t x f) (hρ : ∀ x, VR ι (ρ x) (ρ' x)) (he : Emb P ι s.h.get w) (h : Zhs P ρ t x f s = some (v, s')) :
  s' = s ∧ Res P ((execOp ρ' o).run P w) s ι w v s' := by
 unfold Zhs at h
 split at h
 ·rename_i fs k o' hu hx
  split at h
  ·rename_i fd hfd
   split at h
   ·rename_i i hi
    cases hz : Nat.beq i.size 0 with
    | true => rw [hz] at h; simp at h
    | false =>
     rw [hz] at h
     simp only [cond_false, Option.some.injEq, Prod.mk.injEq] at h
     obtain ⟨rfl, rfl⟩ := h
     obtain ⟨b, hb, hx'⟩ := (hx ▸ hρ x).ptr_inv
     have hz' : ¬ i.size = 0 := fun e => by rw [e] at hz; simp at hz
     refine ⟨rfl, Res.same he (v' := .pointer (some ⟨b.1, o' + fd.offset, none⟩)) ?_ (.ptr hb)⟩
     have hadd : (⟨b.1, o', none⟩ : Addr).add fd.offset = ⟨b.1, o' + fd.offset, none⟩ := by
      unfold Addr.add; split
      ·rename_i h0; rw [h0]; rfl
      ·rfl
     simp [execOp, ho, Instr.fieldAt, run_underlying hu, hfd, hx', Instr.sureAddr, fieldPlace, sizeOf, typeInfo, hi, hz', Result.andThen, Sem.run, hadd]
   ·cases h
  ·cases h
 ·rename_i fs id o' z hu hx
  split at h
  ·rename_i fd hfd
   split at h
   ·rename_i i hi
    cases hz : Nat.beq i.size 0 with
    | true => rw [hz] at h; simp at h
    | false =>
     rw [hz] at h
     simp only [cond_false, Option.some.injEq, Prod.mk.injEq] at h
     obtain ⟨rfl, rfl⟩ := h
     obtain ⟨b, base, q, hb, hx'⟩ := (hx ▸ hρ x).mptr_inv
     have hz' : ¬ i.size = 0 := fun e => by rw [e] at hz; simp at hz
     refine ⟨rfl, Res.same he (v' := .pointer (some ⟨b, base + (o' + fd.offset), none⟩)) ?_ (.mptr hb)⟩
     have hadd : (⟨b, base + o', none⟩ : Addr).add fd.offset = ⟨b, base + (o' + fd.offset), none⟩ := by
      unfold Addr.add; split
      ·rename_i h0; rw [h0]; rfl
      ·simp [Nat.add_assoc]
     simp [execOp, ho, Instr.fieldAt, run_underlying hu, hfd, hx', Instr.sureAddr, fieldPlace, sizeOf, typeInfo, hi, hz', Result.andThen, Sem.run, hadd]
   ·cases h
  ·cases h
 ·cases h
theorem Zfh {t : TypeId} {cs cs' : Array Value} {o : Nat} (hs : cs.size = cs'.size) (hc : ∀ (i : Nat) x y, cs[i]? = some x → cs'[i]? = some y → VR ι x y) (h : Zgs P t cs o = some v) : ∃ v', (part t cs' o).run P w = .ok v' w ∧ VR ι v v' := by
 unfold Zgs at h
 split at h
 ·rename_i m hsh
  injection h with h
  subst h
  obtain ⟨hA, i, hi, him⟩ := Zgy (w := w) hsh
  subst him
  refine ⟨.agg (cs'.extract o (o + i.size)), by simp [part, hA, Result.andThen, sizeOf, typeInfo, hi, Sem.run], .agg (by simp [hs]) fun j x y hx hy => ?_⟩
  rw [Array.getElem?_extract] at hx hy
  split at hx
  ·split at hy
   ·exact hc _ x y hx hy
   ·cases hy
  ·cases hx
 ·rename_i m hsh
  obtain ⟨hA, _⟩ := Zgy (w := w) hsh
  have hlt : o < cs'.size := by rw [← hs]; exact (Array.getElem?_eq_some_iff.1 h).1
  refine ⟨cs'[o], by simp [part, hA, Result.andThen, Sem.run, Array.getElem?_eq_getElem hlt], hc o v _ h (Array.getElem?_eq_getElem hlt)⟩
 ·cases h
theorem ZyA {o : Oper} {t : TypeId} {x : Operand} {f : Nat} (ho : o.op = .field t x f) (hρ : ∀ x, VR ι (ρ x) (ρ' x)) (he : Emb P ι s.h.get w) (h : Zm1 P ρ t x f s = some (v, s')) :
  s' = s ∧ Res P ((execOp ρ' o).run P w) s ι w v s' := by
 unfold Zm1 at h
 split at h
 ·rename_i fs cs hu hx
  split at h
  ·rename_i fd hfd
   split at h
   ·rename_i u hp
    injection h with h
    injection h with h1 h2
    subst h1 h2
    obtain ⟨cs', hx', hs, hc⟩ := (hx ▸ hρ x).agg_inv
    obtain ⟨v', hrun, hv⟩ := Zfh (w := w) hs hc hp
    refine ⟨rfl, Res.same he (v' := v') ?_ hv⟩
    simp [execOp, ho, Instr.field, run_underlying hu, hfd, hx', asAgg, hrun, Result.andThen, Sem.run]
   ·cases h
  ·cases h
 ·cases h
theorem ZyB {o : Oper} {t : TypeId} {x ix : Operand} (ho : o.op = .index t x ix) (hρ : ∀ x, VR ι (ρ x) (ρ' x)) (he : Emb P ι s.h.get w) (h : Zm2 P ρ t x ix s = some (v, s')) :
  s' = s ∧ Res P ((execOp ρ' o).run P w) s ι w v s' := by
 unfold Zm2 at h
 split at h
 ·rename_i len e cs i hu hx hi
  split at h
  ·rename_i ie hie
   obtain ⟨hlt, h⟩ := Zp h
   split at h
   ·rename_i u hp
    injection h with h
    injection h with h1 h2
    subst h1 h2
    obtain ⟨cs', hx', hs, hc⟩ := (hx ▸ hρ x).agg_inv
    obtain ⟨kk, hix⟩ := Zf4 hi (hρ ix)
    obtain ⟨v', hrun, hv⟩ := Zfh (w := w) hs hc hp
    have hlt' : i < len := by simpa [Nat.blt_eq] using hlt
    refine ⟨rfl, Res.same he (v' := v') ?_ hv⟩
    simp [execOp, ho, Instr.index, run_underlying hu, hx', hix, asIntOf, hlt', sizeOf, typeInfo, hie, hrun, Result.andThen, Sem.run]
   ·cases h
  ·cases h
 ·cases h
theorem Zgi {o : Oper} {t : TypeId} {x ix : Operand} (ho : o.op = .indexAddr t x ix) (hρ : ∀ x, VR ι (ρ x) (ρ' x)) (he : Emb P ι s.h.get w) (h : ZdS P ρ t x ix s = some (v, s')) :
  s' = s ∧ Res P ((execOp ρ' o).run P w) s ι w v s' := by
 have hadd : ∀ (b o' n : Nat), (⟨b, o', none⟩ : Addr).add n = ⟨b, o' + n, none⟩ := fun b o' n => by
  unfold Addr.add; split
  ·rename_i h0; rw [h0]; rfl
  ·rfl
 unfold ZdS at h
 split at h
 ·rename_i e k o' n c i hu hx hi
  split at h
  ·rename_i ie hie
   obtain ⟨hlt, h⟩ := Zp h
   injection h with h
   injection h with h1 h2
   subst h1 h2
   obtain ⟨kk, hix⟩ := Zf4 hi (hρ ix)
   have hlt' : i < n := by simpa [Nat.blt_eq] using hlt
   have hv := hx ▸ hρ x
   generalize hx' : ρ' x = x' at hv
   cases hv with
   | atom h => simp [Ev.atom] at h
   | slice hb hn hc hq =>
    rename_i b c'
    refine ⟨rfl, Res.same he (v' := .pointer (some ⟨b.1, o' + i * ie.size, none⟩)) ?_ (.ptr hb)⟩
    simp [execOp, ho, Instr.indexAt, run_underlying hu, hx', hix, asIntOf, hlt', sizeOf, typeInfo, hie, Result.andThen, Sem.run, hadd]
   | slice0 => omega
  ·cases h
 ·rename_i n e k o' i hu hx hi
  split at h
  ·rename_i ie hie
   obtain ⟨hlt, h⟩ := Zp h
   injection h with h
   injection h with h1 h2
   subst h1 h2
   obtain ⟨kk, hix⟩ := Zf4 hi (hρ ix)
   have hlt' : i < n := by simpa [Nat.blt_eq] using hlt
   obtain ⟨b, hb, hx'⟩ := (hx ▸ hρ x).ptr_inv
   refine ⟨rfl, Res.same he (v' := .pointer (some ⟨b.1, o' + i * ie.size, none⟩)) ?_ (.ptr hb)⟩
   simp [execOp, ho, Instr.indexAt, run_underlying hu, hx', hix, asIntOf, Instr.sureAddr, hlt', sizeOf, typeInfo, hie, Result.andThen, Sem.run, hadd]
  ·cases h
 ·rename_i e id o' z n c i hu hx hi
  split at h
  ·rename_i ie hie
   obtain ⟨hlt, h⟩ := Zp h
   injection h with h
   injection h with h1 h2
   subst h1 h2
   obtain ⟨kk, hix⟩ := Zf4 hi (hρ ix)
   have hlt' : i < n := by simpa [Nat.blt_eq] using hlt
   have hv := hx ▸ hρ x
   generalize hx' : ρ' x = x' at hv
   cases hv with
   | atom h => simp [Ev.atom] at h
   | mslice hb hn hc =>
    rename_i b base c' q
    refine ⟨rfl, Res.same he (v' := .pointer (some ⟨b, base + (o' + i * ie.size), none⟩)) ?_ (.mptr hb)⟩
    simp [execOp, ho, Instr.indexAt, run_underlying hu, hx', hix, asIntOf, hlt', sizeOf, typeInfo, hie, Result.andThen, Sem.run, hadd, Nat.add_assoc]
   | slice0 => omega
  ·cases h
 ·cases h
theorem ZwR {s s1 : St} {a : Option Nat} (h : s.nextX = (a, s1)) : s1.h = s.h ∧ s1.n = s.n ∧ s1.ob = s.ob ∧ s1.wr = s.wr := by
 unfold St.nextX at h
 split at h <;> (injection h with h1 h2; subst h1 h2; exact ⟨rfl, rfl, rfl, rfl⟩)
theorem ZwS {s s1 : St} {a : Option (List Cell)} (h : s.nextL = (a, s1)) : s1.h = s.h ∧ s1.n = s.n ∧ s1.ob = s.ob ∧ s1.wr = s.wr := by
 unfold St.nextL at h
 split at h <;> (injection h with h1 h2; subst h1 h2; exact ⟨rfl, rfl, rfl, rfl⟩)
theorem Zfi {v : Value} {n : Nat} (h : Zdh v n = true) : Zki v = some n := by
 unfold Zdh at h
 split at h
 ·rename_i k b
  have := beq_iff_eq.1 h
  subst this
  rfl
 ·cases h
theorem ZrL {o : Oper} {t : TypeId} {x ix : Operand} {i : Nat} (ho : o.op = .indexAddr t x ix) (hρ : ∀ x, VR ι (ρ x) (ρ' x)) (he : Emb P ι s.h.get w) (hob : ∀ p ∈ s'.ob, p.1 = p.2) (h : Zgv P ρ t x ix i s = some (v, s')) :
  Res P ((execOp ρ' o).run P w) s ι w v s' := by
 unfold Zgv at h
 split at h
 ·rename_i e k o' n c hu hx
  split at h
  ·rename_i ie hie
   injection h with h
   injection h with h1 h2
   subst h1 h2
   have q1 : Nat.blt i n = true := hob (Nat.blt i n, true) (by simp [St.told])
   have q2 : Zdh (ρ ix) i = true := hob (Zdh (ρ ix) i, true) (by simp [St.told])
   have hi := Zfi q2
   exact (Zgi (s := s) (s' := s) (v := .pointer (some ⟨k, o' + i * ie.size, none⟩)) ho hρ he (by unfold ZdS; rw [hu, hx, hi]; simp [hie, q1])).2
  ·cases h
 ·rename_i n e k o' hu hx
  split at h
  ·rename_i ie hie
   injection h with h
   injection h with h1 h2
   subst h1 h2
   have q1 : Nat.blt i n = true := hob (Nat.blt i n, true) (by simp [St.told])
   have q2 : Zdh (ρ ix) i = true := hob (Zdh (ρ ix) i, true) (by simp [St.told])
   have hi := Zfi q2
   exact (Zgi (s := s) (s' := s) (v := .pointer (some ⟨k, o' + i * ie.size, none⟩)) ho hρ he (by unfold ZdS; rw [hu, hx, hi]; simp [hie, q1])).2
  ·cases h
 ·rename_i e id o' z n c hu hx
  split at h
  ·rename_i ie hie
   injection h with h
   injection h with h1 h2
   subst h1 h2
   have q1 : Nat.blt i n = true := hob (Nat.blt i n, true) (by simp [St.told])
   have q2 : Zdh (ρ ix) i = true := hob (Zdh (ρ ix) i, true) (by simp [St.told])
   have hi := Zfi q2
   exact (Zgi (s := s) (s' := s) (v := .pointer (some ⟨id, o' + i * ie.size, some z⟩)) ho hρ he (by unfold ZdS; rw [hu, hx, hi]; simp [hie, q1])).2
  ·cases h
 ·cases h
theorem Zac {p : Prop} : dP p = true ↔ p := by unfold dP; exact @decide_eq_true_iff p (Classical.propDecidable p)
theorem Z1 {p : Prop} (h : p) : dP p = true := Zac.2 h
def CellsAs (c : List Value) (l : List Cell) : Prop := c.length = l.length ∧ ∀ (i : Nat) x b, c[i]? = some x → l[i]? = some b → (x = ZdO b ∧ b ≠ .any) ∨ (b = .any ∧ x.oneCell' = true)
theorem CellsAs.cons {x : Value} {b : Cell} {c : List Value} {l : List Cell} (h : (x = ZdO b ∧ b ≠ .any) ∨ (b = .any ∧ x.oneCell' = true)) (t : CellsAs c l) : CellsAs (x :: c) (b :: l) := by
 refine ⟨by simp [t.1], fun i y d hy hd => ?_⟩
 cases i with
 | zero => simp at hy hd; subst hy hd; exact h
 | succ i => exact t.2 i y d (by simpa using hy) (by simpa using hd)
theorem Zf9 : ∀ {c : List Value} {l : List Cell}, ZdD c l = true → CellsAs c l
 | [], [], _ => ⟨rfl, fun i x b hx => by simp at hx⟩
 | [], _ :: _, h => by simp [ZdD] at h
 | v :: r, [], h => by cases v <;> simp [ZdD] at h
 | v :: r, b :: l, h => by
  unfold ZdD at h
  split at h
  ·cases ‹_ :: _ = []›
  ·rename_i a r' b' l' h1 h2
   injection h1 with h1 h3
   injection h2 with h2 h4
   subst h1 h2 h3 h4
   simp only [Bool.and_eq_true, beq_iff_eq] at h
   obtain ⟨rfl, h⟩ := h
   exact (Zf9 h).cons (.inl ⟨rfl, by simp⟩)
  ·rename_i a r' b' l' h1 h2
   injection h1 with h1 h3
   injection h2 with h2 h4
   subst h1 h2 h3 h4
   simp only [Bool.and_eq_true, beq_iff_eq] at h
   obtain ⟨rfl, h⟩ := h
   exact (Zf9 h).cons (.inl ⟨rfl, by simp⟩)
  ·rename_i k a r' k' b' l' h1 h2
   injection h1 with h1 h3
   injection h2 with h2 h4
   subst h1 h2 h3 h4
   simp only [Bool.and_eq_true, beq_iff_eq, decide_eq_true_eq] at h
   obtain ⟨⟨rfl, rfl⟩, h⟩ := h
   exact (Zf9 h).cons (.inl ⟨rfl, by simp⟩)
  ·rename_i a r' b' l' h1 h2
   injection h1 with h1 h3
   injection h2 with h2 h4
   subst h1 h2 h3 h4
   simp only [Bool.and_eq_true, Zac] at h
   obtain ⟨rfl, h⟩ := h
   exact (Zf9 h).cons (.inl ⟨rfl, by simp⟩)
  ·rename_i v' r' l' h1 h2
   injection h1 with h1 h3
   injection h2 with h2 h4
   subst h1 h2 h3 h4
   simp only [Bool.and_eq_true, Zac] at h
   exact (Zf9 h.2).cons (.inr ⟨rfl, h.1⟩)
  ·rename_i v' r' id o n c l' h1 h2
   injection h1 with h1 h3
   injection h2 with h2 h4
   subst h1 h2 h3 h4
   simp only [Bool.and_eq_true, Zac] at h
   obtain ⟨rfl, h⟩ := h
   exact (Zf9 h).cons (.inl ⟨rfl, by simp⟩)
  ·cases h
theorem ZsS {r : Option (List Value)} {l : List Cell} (h : Ze8 r l = true) : ∃ c, r = some c ∧ CellsAs c l := by
 unfold Ze8 at h
 split at h
 ·exact ⟨_, rfl, Zf9 h⟩
 ·cases h
theorem VR.one {v v' : Value} (h : VR ι v v') (h1 : v.oneCell' = true) : v'.oneCell' = true := by
 cases h with
 | atom h => exact h1
 | glob h => exact h
 | ptr h => rfl
 | map h => rfl
 | slice h => rfl
 | slice0 => rfl
 | mptr h => rfl
 | mslice h => rfl
 | func hs => rfl
 | agg hs h => cases h1
 | tuple hs h => first | rfl | cases h1
theorem ZzC {x y : Value} {b : Cell} (h : (x = ZdO b ∧ b ≠ .any) ∨ (b = .any ∧ x.oneCell' = true)) (hv : VR ι x y) : VR ι (ZdO b) y := by
 rcases h with ⟨rfl, _⟩ | ⟨rfl, h⟩
 ·exact hv
 ·exact .glob (hv.one h)
theorem Z1S {c : List Value} {l : List Cell} (h : CellsAs c l) {y : Value} (hv : VR ι (.agg c.toArray) y) : VR ι (.agg (Zw l).toArray) y := by
 cases hv with
 | atom h => simp [Ev.atom] at h
 | agg hs hp =>
  refine .agg (by rw [← hs]; simp [Zw, h.1]) fun i x z hx hz => ?_
  have hi : i < c.length := by
   have := (Array.getElem?_eq_some_iff.1 hz).1
   have e : c.length = _ := hs
   omega
  have hx' : (Zw l)[i]? = some x := by simpa using hx
  unfold Zw at hx'
  rw [List.getElem?_map] at hx'
  cases hb : l[i]? with
  | none => rw [hb] at hx'; cases hx'
  | some b =>
   rw [hb] at hx'
   injection hx' with hx'
   subst hx'
   exact ZzC (h.2 i c[i] b (List.getElem?_eq_getElem hi) hb) (hp i c[i] z (by simp [hi]) hz)
theorem Res.behind' {r : Result Next} {s1 s2 : St} (h : Res P r s ι w v s1) (h1 : s2.h = s1.h) (h2 : s2.n = s1.n) : Res P r s ι w v s2 := by
 obtain ⟨nx, w', ι', v', a, b, c, d, e⟩ := h
 exact ⟨nx, w', ι', v', a, b, h1 ▸ c, h2 ▸ d, e⟩
theorem Res.weak {r : Result Next} {u : Value} (h : Res P r s ι w v s') (hu : ∀ ι v', VR ι v v' → VR ι u v') : Res P r s ι w u s' := by
 obtain ⟨nx, w', ι', v', a, b, c, d, e⟩ := h
 exact ⟨nx, w', ι', v', a, b, c, d, hu ι' v' e⟩
theorem Z0g {k o m : Nat} {c : List Value} {t : TypeId} {q0 : Bool} (h : s.h.get k = some (.cells c t q0)) : Znm s k o m = rowAt s k o m := by
 unfold Znm rowAt
 rw [h]
theorem ZwT {b o m : Nat} {C : Array Value} {t : TypeId} {fr : Nat × Nat} {l : List Value} (hB : w.heap[b]? = some (.cells C t fr)) (h : ZO m (C.toList.drop o) = some l) : l.length = m ∧ ∀ (j : Nat) u, l[j]? = some u → w.cell? ((⟨b, o, none⟩ : Addr).add j) = some u := by
 obtain ⟨rfl, hl⟩ := ZeB h
 refine ⟨by simp at hl ⊢; omega, fun j u hu => ?_⟩
 have hc : w.cell? ((⟨b, o, none⟩ : Addr).add j) = C[o + j]? := by
  unfold Addr.add
  split
  ·rename_i h; subst h; exact cell_of_row w b o C t fr hB
  ·exact cell_of_row w b (o + j) C t fr hB
 have hj : j < m := by
  have := (List.getElem?_eq_some_iff.1 hu).1
  simp at this; omega
 rw [List.getElem?_take_of_lt hj, List.getElem?_drop] at hu
 rw [hc]
 simpa using hu
theorem ZoY {id b base q o m : Nat} {q' : Nat × Nat} {l : List Cell} (he : Emb P ι s.h.get w) (hm : ι (Zai b base id) = some q') (hg : Zay id o m = some l) :
  ∃ cs : List Value, cs.length = m ∧ l.length = m ∧ (∀ j u, cs[j]? = some u → w.cell? ((⟨b, base + o, none⟩ : Addr).add j) = some u) ∧ ∀ (j : Nat) x y, (Zw l)[j]? = some x → cs[j]? = some y → VR ι x y := by
 obtain ⟨_, ⟨⟨c, C, t, fr, h1, h2, h3, h4, _⟩, _⟩, _⟩ := he.mks b base id q' hm
 unfold Zay at hg
 rw [h1] at hg
 obtain ⟨rfl, hl⟩ := ZeB hg
 have hl' : m ≤ c.length - o := by simpa using hl
 have hk : ZO m (C.toList.drop (base + o)) = some ((C.toList.drop (base + o)).take m) := by
  have : ∀ (m : Nat) (l : List Value), m ≤ l.length → ZO m l = some (l.take m) := by
   intro m
   induction m with
   | zero => intro l _; simp [ZO]
   | succ m ih =>
    intro l hl
    cases l with
    | nil => simp at hl
    | cons x l =>
     simp only [ZO]
     rw [ih l (by simpa using hl)]
     rfl
  refine this m _ ?_
  rcases Nat.eq_zero_or_pos m with rfl | hm0
  ·exact Nat.zero_le _
  ·have := h3 (by omega)
   simp only [List.length_drop, Array.length_toList]; omega
 obtain ⟨q1, q2⟩ := ZwT (w := w) h2 hk
 refine ⟨_, q1, by simp; omega, q2, fun j x y hx hy => ?_⟩
 have hj : j < m := by have := (List.getElem?_eq_some_iff.1 hy).1; omega
 rw [List.getElem?_take_of_lt hj, List.getElem?_drop, Array.getElem?_toList] at hy
 unfold Zw at hx
 rw [List.getElem?_map, List.getElem?_take_of_lt hj, List.getElem?_drop] at hx
 refine h4 (o + j) x y (by unfold Zw; rw [List.getElem?_map]; exact hx) ?_
 rw [← Nat.add_assoc]; exact hy
theorem ZoZ {id b base o m : Nat} {q' : Nat × Nat} {q : Bool} {t : TypeId} {l : List Cell} (he : Emb P ι s.h.get w) (hm : ι (Zai b base id) = some q') (hs : Zjp P t = some (q, m)) (hg : Zay id o (if q then m else 1) = some l) :
  ∃ v', (loadVar t ⟨b, base + o, none⟩).run P w = .ok v' w ∧ VR ι (if q then .agg (Zw l).toArray else (Zw l).headD undef) v' := by
 obtain ⟨cs, h1, h2, h3, h4⟩ := ZoY (q := 0) he hm hg
 obtain ⟨hA, i, hi, him⟩ := Zgy (w := w) hs
 cases q with
 | true =>
  simp only [if_true] at h1 h2 ⊢
  have := run_loadCells_list (P := P) w ⟨b, base + o, none⟩ cs h3
  rw [h1] at this
  subst him
  refine ⟨.agg cs.toArray, by simp [loadVar, hA, Result.andThen, sizeOf, typeInfo, hi, this], .agg (by simp [Zw]; omega) fun j x y hx hy => h4 j x y (by simpa using hx) (by simpa using hy)⟩
 | false =>
  simp only [Bool.false_eq_true, if_false] at h1 h2 ⊢
  have h0 : cs[0]? = some cs[0] := List.getElem?_eq_getElem (by omega)
  have := h3 0 _ h0
  simp only [Addr.add, if_true] at this
  refine ⟨cs[0], by simp [loadVar, hA, Result.andThen, load, Sem.run, this], h4 0 _ _ ?_ h0⟩
  cases l with
  | nil => cases h2
  | cons x l => rfl
theorem Z3j {c : List Value} {x : Cell} (h : CellsAs c [x]) : ∃ y, c = [y] ∧ ((y = ZdO x ∧ x ≠ .any) ∨ (x = .any ∧ y.oneCell' = true)) := by
 obtain ⟨h1, h2⟩ := h
 rcases c with _ | ⟨y, _ | ⟨z, c⟩⟩
 ·cases h1
 ·exact ⟨y, rfl, h2 0 y x rfl rfl⟩
 ·simp at h1
theorem ZyC {o : Oper} {t : TypeId} {a : Operand} {l : List Cell} (ho : o.op = .load t a) (hρ : VR ι (ρ a) (ρ' a)) (he : Emb P ι s.h.get w) (hob : ∀ p ∈ s'.ob, p.1 = p.2) (h : Zm3 P ρ t a l s = some (v, s')) :
  Res P ((execOp ρ' o).run P w) s ι w v s' := by
 unfold Zm3 at h
 split at h
 ·rename_i k o' ha
  have key : ∀ {q : Bool} {m : Nat} {c : List Value}, Zjp P t = some (q, m) → Znm s k o' (if q then m else 1) = some c → CellsAs c l → (q = false → ∃ x, l = [x]) → Res P ((execOp ρ' o).run P w) s ι w (if q then .agg (Zw l).toArray else (Zw l).headD undef) s := fun {q m c} hm hq hc hx => by
   cases hk : s.h.get k with
   | none => unfold Znm at hq; rw [hk] at hq; cases hq
   | some ob =>
    cases ob with
    | cells c0 tc =>
     rw [Z0g hk] at hq
     cases q with
     | true => exact (Zns (s := s) (v := .agg c.toArray) ho ha hρ he (by unfold Zk1; rw [hm]; simp only [if_true] at hq ⊢; rw [hq])).weak fun ι v' hv => Z1S hc hv
     | false =>
      obtain ⟨x, rfl⟩ := hx rfl
      obtain ⟨y, rfl, hy⟩ := Z3j hc
      exact (Zns (s := s) (v := y) ho ha hρ he (by unfold Zk1; rw [hm]; simp only [Bool.false_eq_true, if_false] at hq ⊢; rw [hq])).weak fun ι v' hv => ZzC hy hv
    | ro O m1 => unfold Znm at hq; rw [hk] at hq; cases hq
  split at h
  ·rename_i m hm
   injection h with h
   injection h with h1 h2
   subst h1 h2
   obtain ⟨c, q, hc⟩ := ZsS (hob (Ze8 (Znm s k o' m) l, true) (by simp [St.told]))
   exact key (q := true) hm (by simpa using q) hc (fun h => by cases h)
  ·rename_i m hm
   split at h
   ·rename_i x
    injection h with h
    injection h with h1 h2
    subst h1 h2
    obtain ⟨c, q, hc⟩ := ZsS (hob (Ze8 (Znm s k o' 1) [x], true) (by simp [St.told]))
    exact key (q := false) hm (by simpa using q) hc (fun _ => ⟨x, rfl⟩)
   ·cases h
  ·cases h
 ·rename_i id o' z ha
  obtain ⟨b, base, q', hb, ha'⟩ := (ha ▸ hρ).mptr_inv
  split at h
  ·rename_i m hm
   injection h with h
   injection h with h1 h2
   subst h1 h2
   have hg := Zac.1 (hob (dP (Zay id o' m = some l), true) (by simp [St.told]))
   obtain ⟨v', hrun, hv⟩ := ZoZ (q := true) he hb hm (by simpa using hg)
   refine Res.behind' (Res.same he (v' := v') ?_ hv) rfl rfl
   simp [execOp, ho, Instr.loadAt, ha', Instr.sureAddr, hrun, Result.andThen, Sem.run]
  ·rename_i m hm
   split at h
   ·rename_i x
    injection h with h
    injection h with h1 h2
    subst h1 h2
    have hg := Zac.1 (hob (dP (Zay id o' 1 = some [x]), true) (by simp [St.told]))
    obtain ⟨v', hrun, hv⟩ := ZoZ (q := false) he hb hm (by simpa using hg)
    refine Res.behind' (Res.same he (v' := v') ?_ hv) rfl rfl
    simp [execOp, ho, Instr.loadAt, ha', Instr.sureAddr, hrun, Result.andThen, Sem.run]
   ·cases h
  ·cases h
 ·cases h
end
section
variable {P : Program} {ι : Ren} {w : World} {ρ ρ' : Operand → Value} {s s' : St} {v : Value}

/-! ### Rows that are filled -/
def PW (ι : Ren) (a a' : Array Value) : Prop := a.size = a'.size ∧ ∀ (i : Nat) x y, a[i]? = some x → a'[i]? = some y → VR ι x y
theorem PW.set {a a' : Array Value} (h : PW ι a a') (k : Nat) {x x' : Value} (hx : VR ι x x') : PW ι (a.setIfInBounds k x) (a'.setIfInBounds k x') := by
 refine ⟨by simp [h.1], fun i u u' hu hu' => ?_⟩
 by_cases hk : k = i
 ·subst hk
  rw [Array.getElem?_setIfInBounds_self] at hu hu'
  split at hu
  ·split at hu'
   ·injection hu with hu; injection hu' with hu'; subst hu hu'; exact hx
   ·cases hu'
  ·cases hu
 ·rw [Array.getElem?_setIfInBounds_ne hk] at hu hu'
  exact h.2 i u u' hu hu'
theorem Zvh (off : Nat) : ∀ (l l' : List Value) (n : Nat) (a a' : Array Value), l.length = l'.length → (∀ (i : Nat) x y, l[i]? = some x → l'[i]? = some y → VR ι x y) → PW ι a a' →
  PW ι ((l.zipIdx n).foldl (fun cs (c, j) => cs.setIfInBounds (off + j) c) a) ((l'.zipIdx n).foldl (fun cs (c, j) => cs.setIfInBounds (off + j) c) a')
 | [], l', n, a, a', hl, _, h => by
  have : l' = [] := List.eq_nil_of_length_eq_zero hl.symm
  subst this
  exact h
 | x :: l, [], n, a, a', hl, _, h => by simp at hl
 | x :: l, y :: l', n, a, a', hl, hv, h => by
  simp only [List.zipIdx_cons, List.foldl_cons]
  exact Zvh off l l' (n + 1) _ _ (by simpa using hl) (fun i u u' hu hu' => hv (i + 1) u u' (by simpa using hu) (by simpa using hu')) (h.set _ (hv 0 x y rfl rfl))
theorem Zkk (place : Nat → Option (Nat × Nat)) (hρ : ∀ x, VR ι (ρ x) (ρ' x)) : ∀ (ps : List (Nat × Operand)) (a a' r : Array Value), PW ι a a' → Instr.fill place a (ps.map fun p => (p.1, ρ p.2)) = some r →
  ∃ r', Instr.fill place a' (ps.map fun p => (p.1, ρ' p.2)) = some r' ∧ PW ι r r'
 | [], a, a', r, h, hf => by
  simp only [List.map_nil, Instr.fill, Option.some.injEq] at hf ⊢
  subst hf
  exact ⟨a', rfl, h⟩
 | p :: ps, a, a', r, h, hf => by
  simp only [List.map_cons, Instr.fill] at hf ⊢
  obtain ⟨hc1, hc2⟩ := (hρ p.2).cells
  cases hp : place p.1 with
  | none => rw [hp] at hf; cases hf
  | some q =>
   obtain ⟨off, size⟩ := q
   rw [hp] at hf
   simp only [] at hf ⊢
   rw [← hc1, ← h.1]
   split at hf
   ·cases hf
   ·rename_i hg
    rw [if_neg hg]
    refine Zkk place hρ ps _ _ r ?_ hf
    have := Zvh (ι := ι) off (ρ p.2).cells.toList (ρ' p.2).cells.toList 0 a a' (by simpa using hc1) (fun i x y hx hy => hc2.2 i x y hx (by simpa using hy)) h
    rw [← Array.foldl_toList, ← Array.foldl_toList]
    simpa using this
theorem PW.of_atoms {a : Array Value} (h : Z5 atom a.toList = true) : PW ι a a := ⟨rfl, fun i x y hx hy => by rw [hx] at hy; injection hy with hy; subst hy; exact .atom (ZbH h i x hx)⟩
theorem ZyD (hρ : ∀ x, VR ι (ρ x) (ρ' x)) {t : TypeId} {ps : List (Nat × Operand)} {z : List Value} {r : Array Value} (hz : ZgT P t = some z) (h : P.built t (ps.map fun p => (p.1, ρ p.2)) = some r) :
  ∃ r', P.built t (ps.map fun p => (p.1, ρ' p.2)) = some r' ∧ PW ι r r' := by
 obtain ⟨i, u, hi, hu, rfl, ha⟩ := Zil hz
 unfold Program.built at h ⊢
 split at h
 ·rename_i it n e hit hun
  rw [hi] at hit; injection hit with hit; subst hit
  simp only [hi, hun, hu] at h ⊢
  split at h
  ·rename_i z2 ie hz2 hie
   injection hz2 with hz2; subst hz2
   try simp only [hie]
   exact Zkk _ hρ ps _ _ r (PW.of_atoms ha) h
  ·cases h
 ·rename_i it fs hit hun
  rw [hi] at hit; injection hit with hit; subst hit
  simp only [hi, hun, hu] at h ⊢
  split at h
  ·rename_i z2 places hz2 hpl
   injection hz2 with hz2; subst hz2
   try simp only [hpl]
   exact Zkk _ hρ ps _ _ r (PW.of_atoms ha) h
  ·cases h
 ·cases h
theorem Zvi (ps : Array (Nat × Operand)) : (ps.map fun (i, x) => (i, ρ' x)).toList = ps.toList.map fun p => (p.1, ρ' p.2) := by simp
theorem ZyE {o : Oper} {t : TypeId} {ps : Array (Nat × Operand)} (ho : o.op = .build t ps) (hρ : ∀ x, VR ι (ρ x) (ρ' x)) (he : Emb P ι s.h.get w) (h : Zmy P ρ t ps s = some (v, s')) :
  s' = s ∧ Res P ((execOp ρ' o).run P w) s ι w v s' := by
 unfold Zmy at h
 split at h
 ·rename_i z cs hz hb
  injection h with h
  injection h with h1 h2
  subst h1 h2
  obtain ⟨r', hr, hpw⟩ := ZyD hρ hz hb
  refine ⟨rfl, Res.same he (v' := .agg r') ?_ (.agg hpw.1 hpw.2)⟩
  have := run_build (P := P) w t (ps.map fun (i, x) => (i, ρ' x)) r' (by rw [Zvi]; exact hr)
  simp [execOp, ho, this, Result.andThen, Sem.run]
 ·cases h
theorem ZwU {z : Array Value} (ha : Z5 atom z.toList = true) (hz : 0 < z.size) (n : Nat) : PW ι (rep z.toList n).toArray ((Array.range n).map (z[· % z.size]!)) := by
 refine ⟨by simp [rep], fun i x y hx hy => ?_⟩
 have hi : i < n := by have := (Array.getElem?_eq_some_iff.1 hy).1; simpa using this
 have hm : i % z.size < z.size := Nat.mod_lt _ hz
 simp only [rep, List.getElem?_toArray, List.getElem?_map, List.getElem?_range hi, Option.map_some, Option.some.injEq] at hx
 simp only [Array.getElem?_map, Array.getElem?_range, hi, if_true, Option.map_some, Option.some.injEq] at hy
 have e1 : x = z[i % z.size] := by
  rw [← hx]; simp [List.getD, hm]
 have e2 : y = z[i % z.size] := by rw [← hy]; simp [hm]
 subst e1 e2
 exact .atom (ZbH ha _ _ (Array.getElem?_eq_getElem hm))
theorem ZrM {o : Oper} {t n : Nat} {ps : Array (Nat × Operand)} (ho : o.op = .buildSlice t n ps) (hρ : ∀ x, VR ι (ρ x) (ρ' x)) (he : Emb P ι s.h.get w) (hf : Fresh ι s.n s'.n) (h : Zgu P ρ t n ps s = some (v, s')) :
  Res P ((execOp ρ' o).run P w) s ι w v s' := by
 unfold Zgu at h
 split at h
 ·rename_i e hu
  split at h
  ·rename_i i z hi hz
   cases hn0 : (Nat.beq n 0 && ps.isEmpty) with
   | true =>
   rw [hn0] at h
   simp only [Bool.and_eq_true] at hn0
   have hn := Nat.eq_of_beq_eq_true hn0.1
   have hps : ps = #[] := by simpa using hn0.2
   subst hn hps
   injection h with h
   injection h with h3 h4
   subst h3 h4
   obtain ⟨g1, g2⟩ := ZkI he hf e (c := []) (C := #[]) ⟨by simp, fun j x y hx => by simp at hx⟩ 0 (by simp)
   refine ⟨.value (.slice (some ⟨w.heap.size, 0, none⟩) 0 0), _, _, _, ?_, .inl rfl, g1, g2, .slice (b := (w.heap.size, 0)) Zo (Nat.le_refl _) (Nat.le_refl _) (fun _ => .inl (Nat.le_refl _))⟩
   simp [execOp, ho, Instr.buildSlice, run_underlying hu, sizeOf, typeInfo, hi, Instr.fill, newRow, newObj, Result.andThen, Sem.run]
   congr 2
   apply Array.ext'
   simp
   | false =>
   rw [hn0] at h
   simp only [cond_false] at h
   obtain ⟨hg, h⟩ := Zp h
   simp only [Bool.and_eq_true] at hg
   have h1 : n * i.size ≤ 100000 := Nat.le_of_ble_eq_true hg.1.1
   have h2 : 0 < n * i.size := by simpa [Nat.blt_eq] using hg.1.2
   split at h
   ·rename_i c hc
    injection h with h
    injection h with h3 h4
    subst h3 h4
    obtain ⟨i', u, hi', hu', rfl, ha⟩ := Zil hz
    rw [hi] at hi'; injection hi' with hi'; subst hi'
    have hzs : 0 < u.cells.size := by simpa [Nat.blt_eq] using hg.2
    obtain ⟨c', hc', hpw⟩ := Zkk (fun j => some (j * i.size, i.size)) hρ ps.toList _ _ c (ZwU ha hzs (n * i.size)) hc
    have hrun := run_buildSlice (P := P) w t e n (ps.map fun (i, x) => (i, ρ' x)) c' i u hu hi hu' (by omega) (by omega) (by rw [Zvi]; exact hc')
    obtain ⟨g1, g2⟩ := ZkI he hf e (c := c.toList) (C := c') ⟨by simp [hpw.1], fun j x y hx hy => hpw.2 j x y (by simpa using hx) hy⟩ 0 (by simp)
    refine ⟨.value (.slice (some ⟨w.heap.size, 0, none⟩) n n), _, _, _, ?_, .inl rfl, g1, g2, .slice (b := (w.heap.size, 0)) Zo (Nat.le_refl _) (Nat.le_refl _) (fun _ => .inl (Nat.le_refl _))⟩
    simp [execOp, ho, hrun, Result.andThen, Sem.run]
   ·cases h
  ·cases h
 ·cases h
theorem Z1T {a b : Nat} (h1 : a ≤ 1000) (h2 : b ≤ 300000) : (a : Int) * (b : Int) ≤ 281474976710656 := by
 rw [← Int.natCast_mul]
 exact Int.le_trans (Int.ofNat_le.2 (Nat.mul_le_mul h1 h2)) (by decide)
theorem Zl1 {o : Oper} {t : TypeId} {l c : Operand} (ho : o.op = .makeSlice t l c) (hρ : ∀ x, VR ι (ρ x) (ρ' x)) (he : Emb P ι s.h.get w) (hf : Fresh ι s.n s'.n) (h : ZeW P ρ t l c s = some (v, s')) :
  Res P ((execOp ρ' o).run P w) s ι w v s' := by
 unfold ZeW at h
 split at h
 ·rename_i e l' c' hu hl hc
  split at h
  ·rename_i i z hi hz
   obtain ⟨hg, h⟩ := Zp h
   simp only [Bool.and_eq_true] at hg
   obtain ⟨⟨⟨hg1, hg2⟩, hg3⟩, hg4⟩ := hg
   have h1 : l' ≤ c' := Nat.le_of_ble_eq_true hg1
   have h2 : c' ≤ 300000 := Nat.le_of_ble_eq_true hg2
   have h3 : i.bytes ≤ 1000 := Nat.le_of_ble_eq_true hg3
   injection h with h
   injection h with h4 h5
   subst h4 h5
   obtain ⟨i', u, hi', hu', rfl, ha⟩ := Zil hz
   rw [hi] at hi'; injection hi' with hi'; subst hi'
   have hzs : 0 < u.cells.size := by simpa [Nat.blt_eq] using hg4
   obtain ⟨kl, hl'⟩ := Zf4 hl (hρ l)
   obtain ⟨kc, hc'⟩ := Zf4 hc (hρ c)
   have hrun := run_make (P := P) w t e i u hu hi hu' kl kc l' c' (by omega) (by omega) (Z1T h3 h2) (by omega)
   simp only [Int.toNat_natCast] at hrun
   have hpw := ZwU (ι := ι) ha hzs (c' * i.size)
   obtain ⟨g1, g2⟩ := ZkI he hf e (c := rep u.cells.toList (c' * i.size)) (C := madeCells u.cells (c' * i.size)) ⟨by simp [rep, madeCells], fun j x y hx hy => hpw.2 j x y (by simpa using hx) hy⟩ 0 (by simp)
   refine ⟨.value (.slice (some ⟨w.heap.size, 0, none⟩) l' c'), _, _, _, ?_, .inl rfl, g1, g2, .slice (b := (w.heap.size, 0)) Zo h1 (Nat.le_refl _) (fun _ => .inl (Nat.le_refl _))⟩
   simp [execOp, ho, hl', hc', hrun, Result.andThen, Sem.run]
  ·cases h
 ·cases h
theorem Zvj {x' : Value} {k : IntKind} {n y : Nat} {code : BoundsCode} (hx : x' = .int k (n : Int)) (h : n ≤ y) : (Instr.sliceBound x' y code).run P w = .ok n w := by
 have : ((n : Int) ≤ (y : Int)) := by omega
 simp [Instr.sliceBound, hx, asIntOf, this, Result.andThen, Sem.run]
theorem ZfA {lo hi : Option Operand} {n c l h c' : Nat} (hρ : ∀ x, VR ι (ρ x) (ρ' x)) (hl : Zgh ρ 0 lo = some l) (hh : Zgh ρ n hi = some h) (h1 : l ≤ h) (h2 : h ≤ c) (h3 : c ≤ c') (q : Bool) :
  (Instr.sliceBounds q n c' (lo.map ρ') (hi.map ρ') none).run P w = .ok (l, h, c') w := by
 have A : ∀ code, (match (hi.map ρ' : Option Value) with | some v => Instr.sliceBound v c' code | none => pure n : Sem Nat).run P w = .ok h w := fun code => by
  cases hi with
  | none => simp only [Zgh, Option.some.injEq] at hh; subst hh; rfl
  | some x => obtain ⟨k, hk⟩ := Zf4 hh (hρ x); exact Zvj (code := code) hk (by omega)
 have B : ∀ code, (match (lo.map ρ' : Option Value) with | some v => Instr.sliceBound v h code | none => pure 0 : Sem Nat).run P w = .ok l w := fun code => by
  cases lo with
  | none => simp only [Zgh, Option.some.injEq] at hl; subst hl; rfl
  | some x => obtain ⟨k, hk⟩ := Zf4 hl (hρ x); exact Zvj (code := code) hk h1
 cases hi with
 | none =>
  cases lo with
  | none => have a := A .index; have b := B .index; simp only [Option.map_none] at a b; cases a; cases b; rfl
  | some y => have a := A .index; have b := B .sliceB; simp only [Option.map_none, Option.map_some] at a b; cases a; simp [Instr.sliceBounds, b, Result.andThen, Sem.run]
 | some x =>
  cases lo with
  | none => have a := A (if q then .sliceAcap else .sliceAlen); have b := B .index; simp only [Option.map_none, Option.map_some] at a b; cases b; cases q <;> simp at a <;> simp [Instr.sliceBounds, a, Result.andThen, Sem.run]
  | some y => have a := A (if q then .sliceAcap else .sliceAlen); have b := B .sliceB; simp only [Option.map_some] at a b; cases q <;> simp at a <;> simp [Instr.sliceBounds, a, b, Result.andThen, Sem.run]
theorem ZlZ {o : Oper} {t : TypeId} {x : Operand} {lo hi : Option Operand} (ho : o.op = .slice t x lo hi none) (hρ : ∀ x, VR ι (ρ x) (ρ' x)) (he : Emb P ι s.h.get w) (h : ZfU P ρ t x lo hi s = some (v, s')) :
  s' = s ∧ Res P ((execOp ρ' o).run P w) s ι w v s' := by
 unfold ZfU at h
 split at h
 ·rename_i e k o' n c hu hx
  split at h
  ·rename_i ie l hh hi' hl hhh
   obtain ⟨hg, h⟩ := Zp h
   simp only [Bool.and_eq_true] at hg
   obtain ⟨⟨hg1, hg2⟩, hg3⟩ := hg
   have h1 : l ≤ hh := Nat.le_of_ble_eq_true hg1
   have h2 : hh ≤ c := Nat.le_of_ble_eq_true hg2
   have h3 : 0 < ie.size := by simpa [Nat.blt_eq] using hg3
   injection h with h
   injection h with h4 h5
   subst h4 h5
   have hv := hx ▸ hρ x
   generalize hx' : ρ' x = x' at hv
   have hadd : ∀ (a : Addr) (m : Nat), a.spot = none → a.add m = ⟨a.block, a.off + m, none⟩ := fun a m hs => by
    unfold Addr.add; split
    ·rename_i h0; subst h0; cases a; simp at hs; subst hs; rfl
    ·rfl
   cases hv with
   | atom h => simp [Ev.atom] at h
   | slice hb hn hc hq =>
    rename_i b c'
    have hrun := ZfA (P := P) (w := w) (c' := c') hρ hl hhh h1 h2 hc true
    have hr : (execOp ρ' o).run P w = .ok (.value (.slice (if c' = l then some ⟨b.1, o', none⟩ else some ⟨b.1, o' + l * ie.size, none⟩) (hh - l) (c' - l))) w := by
     simp [execOp, ho, Instr.sliceAt, Instr.slice, run_underlying hu, hx', hrun, sizeOf, typeInfo, hi', Result.andThen, Sem.run, hadd]
    refine ⟨rfl, Res.same he hr ?_⟩
    by_cases hcl : c' = l
    ·rw [if_pos hcl]
     have : c - l = 0 := by omega
     have h0 : hh - l = 0 := by omega
     have h00 : c' - l = 0 := by omega
     rw [this, h0, h00]
     exact .slice0 fun h => by cases h
    ·rw [if_neg hcl]
     refine .slice hb (by omega) (by omega) fun h0 => ?_
     have hl0 : l * ie.size = 0 := by omega
     have hl1 : l = 0 := by
      rcases Nat.mul_eq_zero.1 hl0 with h | h
      ·exact h
      ·omega
     rcases hq (by omega) with h | h
     ·exact .inl (by omega)
     ·exact .inr (by omega)
   | slice0 hq0 =>
    rename_i a'
    have hl0 : l = 0 := by omega
    have hh0 : hh = 0 := by omega
    subst hl0 hh0
    have hrun := ZfA (P := P) (w := w) (c' := 0) hρ hl hhh h1 h2 (Nat.le_refl 0) true
    have hr : (execOp ρ' o).run P w = .ok (.value (.slice a' 0 0)) w := by
     cases a' <;> simp [execOp, ho, Instr.sliceAt, Instr.slice, run_underlying hu, hx', hrun, sizeOf, typeInfo, hi', Result.andThen, Sem.run]
    refine ⟨rfl, Res.same he hr ?_⟩
    simp only [Nat.sub_zero]
    exact .slice0 hq0
  ·cases h
 ·rename_i e hu hx
  split at h
  ·rename_i ie hi' hl hhh
   injection h with h
   injection h with h4 h5
   subst h4 h5
   have hx' : ρ' x = .slice none 0 0 := by
    have hv := hρ x
    rw [hx] at hv
    exact hv.eq_of_atom rfl
   have hrun := ZfA (P := P) (w := w) (c' := 0) hρ hl hhh (Nat.le_refl 0) (Nat.le_refl 0) (Nat.le_refl 0) true
   have hr : (execOp ρ' o).run P w = .ok (.value (.slice none 0 0)) w := by
    simp [execOp, ho, Instr.sliceAt, Instr.slice, run_underlying hu, hx', hrun, sizeOf, typeInfo, hi', Result.andThen, Sem.run]
   exact ⟨rfl, Res.same he hr (.atom rfl)⟩
  ·cases h
 ·rename_i n e k o' hu hx
  split at h
  ·rename_i ie l hh hi' hl hhh
   obtain ⟨hg, h⟩ := Zp h
   simp only [Bool.and_eq_true] at hg
   obtain ⟨⟨hg1, hg2⟩, hg3⟩ := hg
   have h1 : l ≤ hh := Nat.le_of_ble_eq_true hg1
   have h2 : hh ≤ n := Nat.le_of_ble_eq_true hg2
   have h3 : 0 < ie.size := by simpa [Nat.blt_eq] using hg3
   injection h with h
   injection h with h4 h5
   subst h4 h5
   obtain ⟨b, hb, hx'⟩ := (hx ▸ hρ x).ptr_inv
   have hadd : ∀ (a : Addr) (m : Nat), a.spot = none → a.add m = ⟨a.block, a.off + m, none⟩ := fun a m hs => by
    unfold Addr.add; split
    ·rename_i h0; subst h0; cases a; simp at hs; subst hs; rfl
    ·rfl
   have hrun := ZfA (P := P) (w := w) (c' := n) hρ hl hhh h1 h2 (Nat.le_refl n) false
   have hr : (execOp ρ' o).run P w = .ok (.value (.slice (some (if n = l then ⟨b.1, o', none⟩ else ⟨b.1, o' + l * ie.size, none⟩)) (hh - l) (n - l))) w := by
    simp [execOp, ho, Instr.sliceAt, Instr.sureAddr, run_underlying hu, hx', hrun, sizeOf, typeInfo, hi', Result.andThen, Sem.run, hadd]
   refine ⟨rfl, Res.same he hr ?_⟩
   by_cases hcl : n = l
   ·rw [if_pos hcl]
    have h0 : hh - l = 0 := by omega
    have h00 : n - l = 0 := by omega
    rw [h0, h00]
    exact .slice0 fun h => by cases h
   ·rw [if_neg hcl]
    exact .slice hb (by omega) (by omega) fun h0 => .inl (by omega)
  ·cases h
 ·cases h
theorem ZwV {o : Oper} {t : TypeId} {x : Operand} {lo hi : Option Operand} (ho : o.op = .slice t x lo hi none) (hρ : ∀ x, VR ι (ρ x) (ρ' x)) (he : Emb P ι s.h.get w) (hob : ∀ p ∈ s'.ob, p.1 = p.2) (h : Zk7 P ρ t x lo hi s = some (v, s')) :
  Res P ((execOp ρ' o).run P w) s ι w v s' := by
 unfold Zk7 at h
 split at h
 ·rename_i b y hu hx
  split at h
  ·rename_i l hh hl hhh
   obtain ⟨hg, h⟩ := Zp h
   have h1 : l ≤ hh := Nat.le_of_ble_eq_true hg
   split at h
   ·rename_i s1 hs
    injection h with h
    injection h with h4 h5
    subst h4 h5
    obtain ⟨e1, e2, e3⟩ := ZoX hs hob
    have h2 : hh ≤ b.size := Nat.le_of_ble_eq_true e1.symm
    have hx' : ρ' x = .string b := (hx ▸ hρ x : VR ι (.string b) (ρ' x)).eq_of_atom rfl
    have hrun := ZfA (P := P) (w := w) (lo := lo) (hi := some y) (n := b.size) (c := b.size) (c' := b.size) hρ hl (by simp only [Zgh]; exact hhh) h1 h2 (Nat.le_refl _) false
    refine Res.heap (s := s1) (Res.same (e2 ▸ he) (v' := .string (b.extract l hh)) ?_ (.atom rfl)) e2.symm e3.symm
    simp only [Option.map_some] at hrun
    simp [execOp, ho, Instr.sliceAt, Instr.slice, run_underlying hu, hx', hrun, Result.andThen, Sem.run]
   ·cases h
  ·cases h
 ·cases h
theorem ZzD {d z : Int} {o : Option Operand} (hρ : ∀ x, VR ι (ρ x) (ρ' x)) (h : opZ ρ d o = some z) : match o with | none => z = d | some y => ∃ k, ρ' y = .int k z := by
 cases o with
 | none => simp only [opZ, Option.some.injEq] at h; exact h.symm
 | some y =>
  simp only [opZ] at h
  split at h
  ·rename_i k n hy
   injection h with h
   subst h
   exact ⟨k, (hy ▸ hρ y : VR ι (.int k n) (ρ' y)).eq_of_atom rfl⟩
  ·cases h
theorem ZsT {v : Value} {k : IntKind} {z : Int} {n : Nat} {code : BoundsCode} (hv : v = .int k z) (h0 : 0 ≤ z) (h1 : z ≤ n) : (Instr.sliceBound v n code).run P w = .ok z.toNat w := by
 subst hv
 simp [Instr.sliceBound, asIntOf, h0, h1]
theorem ZwW {o : Oper} {t : TypeId} {x : Operand} {lo hi : Option Operand} {M : List Int} (ho : o.op = .slice t x lo hi none) (hρ : ∀ x, VR ι (ρ x) (ρ' x)) (he : Emb P ι s.h.get w) (hob : ∀ p ∈ s'.ob, p.1 = p.2) (h : Zk8 P ρ t x lo hi M s = some (v, s')) :
  s'.h = s.h ∧ s'.n = s.n ∧ Res P ((execOp ρ' o).run P w) s ι w v s := by
 unfold Zk8 at h
 split at h
 ·rename_i b hu hx
  split at h
  ·rename_i l hh hl hhh
   injection h with h
   injection h with h4 h5
   subst h4 h5
   obtain ⟨q1, q2, q3, q4⟩ := Zac.1 (hob (_, true) (List.mem_cons_self ..))
   have hx' : ρ' x = .string b := (hx ▸ hρ x : VR ι (.string b) (ρ' x)).eq_of_atom rfl
   have A := ZzD hρ hl
   have B := ZzD hρ hhh
   have hrun : (Instr.sliceBounds false b.size b.size (lo.map ρ') (hi.map ρ') none).run P w = .ok (l.toNat, hh.toNat, b.size) w := by
    have B' : ∀ code, (match (hi.map ρ' : Option Value) with | some v => Instr.sliceBound v b.size code | none => pure b.size : Sem Nat).run P w = .ok hh.toNat w := fun code => by
     cases hi with
     | none => simp only at B; subst B; rfl
     | some y => obtain ⟨k, hk⟩ := B; exact ZsT hk (by omega) q3
    have A' : ∀ code, (match (lo.map ρ' : Option Value) with | some v => Instr.sliceBound v hh.toNat code | none => pure 0 : Sem Nat).run P w = .ok l.toNat w := fun code => by
     cases lo with
     | none => simp only at A; subst A; rfl
     | some y => obtain ⟨k, hk⟩ := A; exact ZsT hk q1 (by omega)
    generalize l.toNat = L at A'
    generalize hh.toNat = K at A' B'
    cases hi with
    | none =>
     cases lo with
     | none => have a := A' .index; have b := B' .index; simp only [Option.map_none] at a b; cases a; cases b; rfl
     | some y => have a := A' .sliceB; have b := B' .index; simp only [Option.map_none, Option.map_some] at a b; cases b; simp [Instr.sliceBounds, a, Result.andThen, Sem.run]
    | some x =>
     cases lo with
     | none => have a := A' .index; have b := B' .sliceAlen; simp only [Option.map_none, Option.map_some] at a b; cases a; simp [Instr.sliceBounds, b, Result.andThen, Sem.run]
     | some y => have a := A' .sliceB; have b := B' .sliceAlen; simp only [Option.map_some] at a b; simp [Instr.sliceBounds, a, b, Result.andThen, Sem.run]
   refine ⟨rfl, rfl, Res.same he (v' := .string (Z0b M)) ?_ (.atom rfl)⟩
   simp [execOp, ho, Instr.sliceAt, Instr.slice, run_underlying hu, hx', hrun, Result.andThen, Sem.run, q4]
  ·cases h
 ·cases h
theorem ZwX {o : Oper} {t : TypeId} {x ix : Operand} {c : List Int} (ho : o.op = .index t x ix) (hρ : ∀ x, VR ι (ρ x) (ρ' x)) (he : Emb P ι s.h.get w) (hob : ∀ p ∈ s'.ob, p.1 = p.2) (h : Zk9 P ρ t x ix c s = some (v, s')) :
  s'.h = s.h ∧ s'.n = s.n ∧ Res P ((execOp ρ' o).run P w) s ι w v s := by
 unfold Zk9 at h
 split at h
 ·rename_i b k z n hu hx hi
  injection h with h
  injection h with h4 h5
  subst h4 h5
  obtain ⟨y, q1, q2, q3⟩ := Zac.1 (hob (_, true) (List.mem_cons_self ..))
  have hx' : ρ' x = .string b := (hx ▸ hρ x : VR ι (.string b) (ρ' x)).eq_of_atom rfl
  have hi' : ρ' ix = .int k z := (hi ▸ hρ ix : VR ι (.int k z) (ρ' ix)).eq_of_atom rfl
  refine ⟨rfl, rfl, Res.same he (v' := .int .u8 n) ?_ (.atom rfl)⟩
  subst q3
  simp [execOp, ho, Instr.index, run_underlying hu, hx', hi', asIntOf, q1, q2, Result.andThen, Sem.run]
 ·cases h
end
end Ev
end Go.Proofs.YthfohmhipifiaaaGreat
