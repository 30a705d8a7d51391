/- A runner over a store of its own: blocks have numbers of their own, temporaries lie in a tree. -/
import Derived.Test.YtjfmadhcbgdakaaRows
import Derived.WalkKit
import Derived.ProofKit
namespace Go.Proofs.Ytjfmadhcbgdakaa
namespace Ev
inductive Tr (α : Type) where
 | nil
 | node (v : Option α) (l r : Tr α)
namespace Tr
variable {α : Type}
noncomputable def val (t : Tr α) : Option α := Tr.rec (motive := fun _ => Option α) none (fun v _ _ _ _ => v) t
noncomputable def lt (t : Tr α) : Tr α := Tr.rec (motive := fun _ => Tr α) .nil (fun _ l _ _ _ => l) t
noncomputable def rt (t : Tr α) : Tr α := Tr.rec (motive := fun _ => Tr α) .nil (fun _ _ r _ _ => r) t
noncomputable def get (t : Tr α) : Nat → Option α :=
 Tr.rec (motive := fun _ => Nat → Option α) (fun _ => none)
  (fun v _ _ gl gr n => Bool.rec (motive := fun _ => Option α) (Bool.rec (motive := fun _ => Option α) (gr (Nat.div (Nat.sub n 1) 2)) (gl (Nat.div (Nat.sub n 1) 2)) (Nat.beq (Nat.mod n 2) 1)) v (Nat.beq n 0)) t
noncomputable def setF (f : Nat) : Tr α → Nat → Option α → Tr α :=
 Nat.rec (motive := fun _ => Tr α → Nat → Option α → Tr α) (fun t _ v => .node v t.lt t.rt)
  (fun _ ih t n v => Bool.rec (motive := fun _ => Tr α) (Bool.rec (motive := fun _ => Tr α) (.node t.val t.lt (ih t.rt (Nat.div (Nat.sub n 1) 2) v)) (.node t.val (ih t.lt (Nat.div (Nat.sub n 1) 2) v) t.rt) (Nat.beq (Nat.mod n 2) 1)) (.node v t.lt t.rt) (Nat.beq n 0)) f
noncomputable def set (t : Tr α) (n : Nat) (v : Option α) : Tr α := setF n t n v
theorem get_nil (n : Nat) : (Tr.nil : Tr α).get n = none := rfl
theorem get_node (v : Option α) (l r : Tr α) (n : Nat) : (Tr.node v l r).get n = bif Nat.beq n 0 then v else bif Nat.beq (n % 2) 1 then l.get ((n - 1) / 2) else r.get ((n - 1) / 2) := by
 have e : Nat.beq (n % 2) 1 = Nat.beq (Nat.mod n 2) 1 := rfl
 show (Bool.rec (motive := fun _ => Option α) (Bool.rec (motive := fun _ => Option α) (r.get ((n - 1) / 2)) (l.get ((n - 1) / 2)) (Nat.beq (Nat.mod n 2) 1)) v (Nat.beq n 0) : Option α) = _
 rw [e]
 generalize Nat.beq n 0 = x
 generalize Nat.beq (Nat.mod n 2) 1 = y
 cases x <;> cases y <;> rfl
theorem setF_zero (t : Tr α) (n : Nat) (v : Option α) : setF 0 t n v = .node v t.lt t.rt := rfl
theorem setF_succ (f : Nat) (t : Tr α) (n : Nat) (v : Option α) : setF (f + 1) t n v = bif Nat.beq n 0 then .node v t.lt t.rt
  else bif Nat.beq (n % 2) 1 then .node t.val (setF f t.lt ((n - 1) / 2) v) t.rt
  else .node t.val t.lt (setF f t.rt ((n - 1) / 2) v) := by
 have e : Nat.beq (n % 2) 1 = Nat.beq (Nat.mod n 2) 1 := rfl
 show (Bool.rec (motive := fun _ => Tr α) (Bool.rec (motive := fun _ => Tr α) (.node t.val t.lt (setF f t.rt ((n - 1) / 2) v)) (.node t.val (setF f t.lt ((n - 1) / 2) v) t.rt) (Nat.beq (Nat.mod n 2) 1)) (.node v t.lt t.rt) (Nat.beq n 0) : Tr α) = _
 rw [e]
 generalize Nat.beq n 0 = x
 generalize Nat.beq (Nat.mod n 2) 1 = y
 cases x <;> cases y <;> rfl
theorem lt_nil : (Tr.nil : Tr α).lt = .nil := rfl
theorem rt_nil : (Tr.nil : Tr α).rt = .nil := rfl
theorem val_nil : (Tr.nil : Tr α).val = none := rfl
theorem lt_node (v : Option α) (l r : Tr α) : (Tr.node v l r).lt = l := rfl
theorem rt_node (v : Option α) (l r : Tr α) : (Tr.node v l r).rt = r := rfl
theorem val_node (v : Option α) (l r : Tr α) : (Tr.node v l r).val = v := rfl
end Tr

def ZjY : Bool := false
inductive AObj where
 | cells (c : List Value) (t : TypeId)
 | ro (O : Obj)
def isC : Option AObj → Bool
 | some (.cells _ _) => true
 | _ => false

inductive Cell where
 | i (n : Int)
 | b (q : Bool)
 | k (kk : IntKind) (n : Int)
 | s (x : ByteArray)
 | any
inductive Za4 where
 | st (c : List Value)
 | ap (m : Nat) (l c : List Value)
 | ap0
 | mk (l cp : Nat) (c : List Value)
 | sl (lo hi : Nat)
 | at (v : Int) (c : List Value)
 | call (pre : List (Nat × AObj)) (v : Value) (post : List (Nat × Option AObj)) (dn : Nat)
 | dv
 | api (m : Nat) (l c : List Value)
 | cut (h : Nat) (c : List Value)
 | sh (n : Nat)
 | bs (ns : List Int)
structure Orc where
 b : List (Option Bool)
 v : List (Option Int)
 x : List (Option Nat)
 l : List (Option (List Cell))
 w : List (Option Za4)
noncomputable section
structure St where
 h : Tr AObj
 n : Nat
 wr : List Nat
 orc : Orc
 ob : List (Bool × Bool)
def St.add (s : St) (c : List Value) (t : TypeId) : St := match s with | ⟨h, n, wr, orc, ob⟩ => ⟨h.set n (some (.cells c t)), n + 1, wr, orc, ob⟩
def St.putK (s : St) (k : Nat) (c : List Value) (t : TypeId) : St := match s with | ⟨h, n, wr, orc, ob⟩ => ⟨h.set k (some (.cells c t)), n, k :: wr, orc, ob⟩
def St.turn (s : St) (k : Nat) (c : List Value) (t : TypeId) : St := ⟨(s.h.set k none).set s.n (some (.cells c t)), s.n + 1, k :: s.wr, s.orc, s.ob⟩
def St.keep {β : Type} (s : St) (k : St → β) : β := match s with | ⟨h, n, wr, orc, ob⟩ => k ⟨h, n, wr, orc, ob⟩
theorem St.keep_eq {β : Type} (s : St) (k : St → β) : s.keep k = k s := by cases s; rfl
def St.tst (s : St) (t : Bool) : Bool × St :=
 match s.orc.b with
 | [] => (t, s)
 | none :: r => (t, ⟨s.h, s.n, s.wr, ⟨r, s.orc.v, s.orc.x, s.orc.l, s.orc.w⟩, s.ob⟩)
 | some b :: r => (b, ⟨s.h, s.n, s.wr, ⟨r, s.orc.v, s.orc.x, s.orc.l, s.orc.w⟩, (t, b) :: s.ob⟩)
def St.vst (s : St) (x : Int) : Int × St :=
 match s.orc.v with
 | [] => (x, s)
 | none :: r => (x, ⟨s.h, s.n, s.wr, ⟨s.orc.b, r, s.orc.x, s.orc.l, s.orc.w⟩, s.ob⟩)
 | some y :: r => (y, ⟨s.h, s.n, s.wr, ⟨s.orc.b, r, s.orc.x, s.orc.l, s.orc.w⟩, (x == y, true) :: s.ob⟩)

def St.nextX (s : St) : Option Nat × St :=
 match s.orc.x with
 | [] => (none, s)
 | a :: r => (a, ⟨s.h, s.n, s.wr, ⟨s.orc.b, s.orc.v, r, s.orc.l, s.orc.w⟩, s.ob⟩)
def St.nextL (s : St) : Option (List Cell) × St :=
 match s.orc.l with
 | [] => (none, s)
 | a :: r => (a, ⟨s.h, s.n, s.wr, ⟨s.orc.b, s.orc.v, s.orc.x, r, s.orc.w⟩, s.ob⟩)
def St.nextW (s : St) : Option Za4 × St :=
 match s.orc.w with
 | [] => (none, s)
 | a :: r => (a, ⟨s.h, s.n, s.wr, ⟨s.orc.b, s.orc.v, s.orc.x, s.orc.l, r⟩, s.ob⟩)
def St.told (s : St) (q : Bool) : St := ⟨s.h, s.n, s.wr, s.orc, (q, true) :: s.ob⟩
noncomputable def dP (p : Prop) : Bool := @decide p (Classical.propDecidable p)

def atom : Value → Bool
 | .bool _ | .int .. | .float .. | .complex .. | .string _ | .pointer none | .map none | .chan none | .nilFunc | .nilIface => true
 | .slice none n c => Nat.beq n 0 && Nat.beq c 0
 | .func (.func _) a b => a.isEmpty && b.isEmpty
 | _ => false
def ZV {α : Type} (p : α → Bool) : List α → Bool
 | [] => true
 | x :: l => p x && ZV p l
def ZrC : Value → Bool
 | .agg cs => ZV atom cs.toList
 | v => atom v
def Zep : Value → Bool
 | .tuple vs => ZV ZrC vs.toList
 | v => ZrC v
def opnd (T : Tr Value) : Operand → Value
 | .tmp t => (T.get t).getD undef
 | .const v => bif Zep v then v else undef
 | .global g => .chan (some g)
 | .func f => .func (.func f) #[] #[]
def Zi6 : Operand → Bool
 | .const v => Zep v
 | _ => true
def Zbd : Value → Bool
 | .agg _ | .tuple _ => false
 | _ => true

def Zmk {α : Type} (P : Program) : Sem α → Option α
 | .pure a => some a
 | .program k => Zmk P (k P)
 | .mark _ k => Zmk P k
 | _ => none

def Zi7 (P : Program) (t : TypeId) : Option (Bool × Nat) :=
 match P.underlying t, P.info? t with
 | some (.struct _), some i | some (.array _ _), some i => some (true, i.size)
 | some _, some i => some (false, i.size)
 | _, _ => none
def Z4 {α : Type} : Nat → List α → Option (List α)
 | 0, _ => some []
 | _ + 1, [] => none
 | n + 1, x :: l => match Z4 n l with | some r => some (x :: r) | none => none
def Zeu (s : St) (k o m : Nat) : Option (List Value) :=
 match s.h.get k with
 | some (.cells c _) => Z4 m (c.drop o)
 | _ => none
def Za1 (O : Obj) (o m : Nat) : Option (List Value) :=
 match O with
 | .cells C _ _ => Z4 m (C.toList.drop o)
 | _ => none
def Zml (s : St) (k o m : Nat) : Option (List Value) :=
 match s.h.get k with
 | some (.cells c _) => Z4 m (c.drop o)
 | some (.ro O) => bif Nat.beq m 0 then some [] else match Za1 O o m with
  | some l => bif ZV atom l then some l else none
  | none => none
 | none => none
def Zi8 (P : Program) (s : St) (t : TypeId) (k o : Nat) : Option Value :=
 match Zi7 P t with
 | some (true, m) => match Zeu s k o m with | some l => some (.agg l.toArray) | none => none
 | some (false, _) => match Zeu s k o 1 with | some [v] => some v | _ => none
 | none => none
def ZjN (c : List Value) (o : Nat) (l : List Value) : List Value := c.take o ++ l ++ c.drop (o + l.length)
def Zdi (s : St) (k o : Nat) (l : List Value) : Option St :=
 match s.h.get k with
 | some (.cells c t) => bif Nat.ble (o + l.length) c.length && ZV Zbd l then some (s.putK k (ZjN c o l) t) else none
 | _ => none
def Zh7 (P : Program) (t : TypeId) (cs : Array Value) (o : Nat) : Option Value :=
 match Zi7 P t with
 | some (true, m) => some (.agg (cs.extract o (o + m)))
 | some (false, _) => cs[o]?
 | none => none
def ZfL (P : Program) (t : TypeId) : Option (List Value) :=
 match P.info? t with
 | some i => match i.zero with
  | some z => bif ZV atom z.cells.toList then some z.cells.toList else none
  | none => none
 | none => none
abbrev Out := Option (Value × St)
def at0 (k : Nat) : Value := .pointer (some ⟨k, 0, none⟩)
def ZeJ (P : Program) (ρ : Operand → Value) (o : Oper) (s : St) : Out :=
 bif ZV (fun x => Zep (ρ x)) o.op.operands.toList then
  match Zmk P (execOp ρ o) with
  | some (.value v) => bif Zep v then some (v, s) else none
  | _ => none
 else none
def Zio : Value → Option Nat
 | .int _ (.ofNat n) => some n
 | _ => none
def Zf8 (ρ : Operand → Value) (d : Nat) : Option Operand → Option Nat
 | none => some d
 | some x => Zio (ρ x)
def rep (z : List Value) (n : Nat) : List Value := (List.range n).map fun j => z.getD (j % z.length) undef
def Zhf (P : Program) (s : St) (z : List Value) (size : Nat) (tx : TypeId) (x : Value) : Option (Nat × List Value) :=
 match P.underlying tx, x with
 | some (.slice _), .slice none 0 0 => some (0, [])
 | some (.slice _), .slice (some ⟨k, o, none⟩) n _ => match Zml s k o (n * size) with
  | some l => bif ZV Zbd l then some (n, l) else none
  | none => none
 | some (.int _), .int _ (.ofNat n) => bif Nat.blt 0 n && Nat.blt 0 size && Nat.ble n 100000 then some (n, rep z (n * z.length)) else none
 | _, _ => none
def Zdu (P : Program) (s : St) (ts tx : TypeId) (x y : Value) : Out :=
 match P.underlying ts with
 | some (.slice e) => match P.info? e, ZfL P e with
  | some i, some z => match Zhf P s z i.size tx y with
   | some (m, l) => bif Nat.ble m 100000 && Nat.ble i.bytes 1000 && Nat.beq z.length i.size then match x with
    | .slice none 0 0 => bif Nat.beq m 0 then some (x, s) else some (.slice (some ⟨s.n, 0, none⟩) m m, s.add l e)
    | .slice (some ⟨k, o, none⟩) n c =>
     bif Nat.beq m 0 then some (x, s)
     else bif Nat.ble (n + m) c then match Zdi s k (o + n * i.size) l with
      | some s' => some (.slice (some ⟨k, o, none⟩) (n + m) c, s')
      | none => none
     else bif Nat.beq o 0 && Nat.ble n 100000 then match s.h.get k with
      | some (.cells cs e') => bif Nat.beq e e' then match Z4 (n * i.size) cs with
       | some old => some (.slice (some ⟨s.n, 0, none⟩) (n + m) (n + m), s.turn k (old ++ l) e)
       | none => none
       else none
      | _ => none
     else none
    | _ => none
    else none
   | none => none
  | _, _ => none
 | _ => none
def ZfC (P : Program) (ρ : Operand → Value) (t n : Nat) (ps : Array (Nat × Operand)) (s : St) : Out :=
 match P.underlying t with
 | some (.slice e) => match P.info? e, ZfL P e with
  | some i, some z => bif Nat.beq n 0 && ps.isEmpty then some (.slice (some ⟨s.n, 0, none⟩) 0 0, s.add [] e)
   else bif Nat.ble (n * i.size) 100000 && Nat.blt 0 (n * i.size) && Nat.blt 0 z.length then
    match Instr.fill (fun j => some (j * i.size, i.size)) (rep z (n * i.size)).toArray (ps.toList.map fun p => (p.1, ρ p.2)) with
    | some c => some (.slice (some ⟨s.n, 0, none⟩) n n, s.add c.toList e)
    | none => none
   else none
  | _, _ => none
 | _ => none
def ZjZ (P : Program) (ρ : Operand → Value) (t : TypeId) (ps : Array (Nat × Operand)) (s : St) : Out :=
 match ZfL P t, P.built t (ps.toList.map fun p => (p.1, ρ p.2)) with
 | some _, some cs => some (.agg cs, s)
 | _, _ => none
def Zhg (P : Program) (ρ : Operand → Value) (t : TypeId) (a x : Operand) (s : St) : Out :=
 match ρ a, P.info? t with
 | .pointer (some ⟨k, o, none⟩), some i =>
  bif Nat.beq (ρ x).cells.size i.size then match Zdi s k o (ρ x).cells.toList with
   | some s' => some (undef, s')
   | none => none
  else none
 | _, _ => none
def Zi9 (P : Program) (ρ : Operand → Value) (t : TypeId) (a x : Operand) (c' : List Value) (s : St) : Out :=
 match ρ a, P.info? t with
 | .pointer (some ⟨k, o, none⟩), some i =>
  bif Nat.beq (ρ x).cells.size i.size && ZV Zbd (ρ x).cells.toList then match s.h.get k with
   | some (.cells c t) => some (undef, (s.putK k c' t).told (dP (o + (ρ x).cells.toList.length ≤ c.length ∧ ZjN c o (ρ x).cells.toList = c')))
   | _ => none
  else none
 | _, _ => none
def ZrJ (P : Program) (s : St) (size : Nat) (tx : TypeId) (x : Value) : Option (Nat → List Value → Prop) :=
 match P.underlying tx, x with
 | some (.slice _), .slice (some ⟨k, o, none⟩) n _ => match s.h.get k with
  | some (.cells c _) => some fun m l => m = n ∧ Z4 (n * size) (c.drop o) = some l ∧ ZV Zbd l = true
  | some (.ro O) => some fun m l => m = n ∧ ((n * size = 0 ∧ l = []) ∨ (n * size ≠ 0 ∧ Za1 O o (n * size) = some l ∧ ZV atom l = true))
  | _ => none
 | _, _ => none
def Zka (P : Program) (s : St) (ts tx : TypeId) (x y : Value) (m : Nat) (l c : List Value) : Out :=
 match P.underlying ts with
 | some (.slice e) => match P.info? e, ZfL P e with
  | some i, some z => match ZrJ P s i.size tx y with
   | some p => bif Nat.ble i.bytes 1000 && Nat.beq z.length i.size then match x with
    | .slice none 0 0 => some (.slice (some ⟨s.n, 0, none⟩) m m, (s.add c e).told (dP (p m l ∧ 0 < m ∧ m ≤ 100000 ∧ l = c)))
    | .slice (some ⟨k, o, none⟩) n cp => bif Nat.beq o 0 then match s.h.get k with
     | some (.cells cs e') => bif Nat.beq e e' then some (.slice (some ⟨s.n, 0, none⟩) (n + m) (n + m), (s.turn k c e).told (dP (p m l ∧ 0 < m ∧ m ≤ 100000 ∧ cp < n + m ∧ n ≤ 100000 ∧ n * i.size ≤ cs.length ∧ cs.take (n * i.size) ++ l = c))) else none
     | _ => none
     else none
    | _ => none
    else none
   | none => none
  | _, _ => none
 | _ => none
def ZiA (P : Program) (s : St) (ts tx : TypeId) (x y : Value) (m : Nat) (l c : List Value) : Out :=
 match P.underlying ts with
 | some (.slice e) => match P.info? e, ZfL P e with
  | some i, some z => match ZrJ P s i.size tx y with
   | some p => bif Nat.ble i.bytes 1000 && Nat.beq z.length i.size then match x with
    | .slice (some ⟨k, o, none⟩) n cp => match s.h.get k with
     | some (.cells cs e') => some (.slice (some ⟨k, o, none⟩) (n + m) cp, (s.putK k c e').told (dP ((p m l ∧ ZV Zbd l = true) ∧ 0 < m ∧ m ≤ 100000 ∧ n + m ≤ cp ∧ (o + n * i.size + l.length ≤ cs.length ∧ ZjN cs (o + n * i.size) l = c))))
     | _ => none
    | _ => none
    else none
   | none => none
  | _, _ => none
 | _ => none
def ZiB (P : Program) (s : St) (ts tx : TypeId) (x y : Value) : Out :=
 match P.underlying ts with
 | some (.slice e) => match P.info? e, ZfL P e with
  | some i, some z => match ZrJ P s i.size tx y with
   | some p => bif Nat.ble i.bytes 1000 && Nat.beq z.length i.size then match x with
    | .slice none 0 0 => some (x, s.told (dP (p 0 [])))
    | .slice (some ⟨_, _, none⟩) _ _ => some (x, s.told (dP (p 0 [])))
    | _ => none
    else none
   | none => none
  | _, _ => none
 | _ => none
def Zgg (P : Program) (ρ : Operand → Value) (t : TypeId) (x : Operand) (f : Nat) (s : St) : Out :=
 match P.underlying t, ρ x with
 | some (.struct fs), .pointer (some ⟨k, o, none⟩) => match fs[f]? with
  | some f => match P.info? f.type with
   | some i => bif Nat.beq i.size 0 then none else some (.pointer (some ⟨k, o + f.offset, none⟩), s)
   | none => none
  | none => none
 | _, _ => none
def Zkb (P : Program) (ρ : Operand → Value) (t : TypeId) (x : Operand) (f : Nat) (s : St) : Out :=
 match P.underlying t, ρ x with
 | some (.struct fs), .agg cs => match fs[f]? with
  | some f => match Zh7 P f.type cs f.offset with | some v => some (v, s) | none => none
  | none => none
 | _, _ => none
def Zkc (P : Program) (ρ : Operand → Value) (t : TypeId) (x ix : Operand) (s : St) : Out :=
 match P.underlying t, ρ x, Zio (ρ ix) with
 | some (.array len e), .agg cs, some i => match P.info? e with
  | some ie => bif Nat.blt i len then match Zh7 P e cs (i * ie.size) with | some v => some (v, s) | none => none else none
  | none => none
 | _, _, _ => none
def Ze1 (P : Program) (ρ : Operand → Value) (t : TypeId) (x ix : Operand) (s : St) : Out :=
 match P.underlying t, ρ x, Zio (ρ ix) with
 | some (.slice e), .slice (some ⟨k, o, none⟩) n _, some i => match P.info? e with
  | some ie => bif Nat.blt i n then some (.pointer (some ⟨k, o + i * ie.size, none⟩), s) else none
  | none => none
 | some (.array n e), .pointer (some ⟨k, o, none⟩), some i => match P.info? e with
  | some ie => bif Nat.blt i n then some (.pointer (some ⟨k, o + i * ie.size, none⟩), s) else none
  | none => none
 | _, _, _ => none
def ZdW (v : Value) (n : Nat) : Bool :=
 match v with
 | .int _ b => b == Int.ofNat n
 | _ => false
def ZfD (P : Program) (ρ : Operand → Value) (t : TypeId) (x ix : Operand) (i : Nat) (s : St) : Out :=
 match P.underlying t, ρ x with
 | some (.slice e), .slice (some ⟨k, o, none⟩) n _ => match P.info? e with
  | some ie => some (.pointer (some ⟨k, o + i * ie.size, none⟩), (s.told (ZdW (ρ ix) i)).told (Nat.blt i n))
  | none => none
 | some (.array n e), .pointer (some ⟨k, o, none⟩) => match P.info? e with
  | some ie => some (.pointer (some ⟨k, o + i * ie.size, none⟩), (s.told (ZdW (ρ ix) i)).told (Nat.blt i n))
  | none => none
 | _, _ => none
def ZdN (ρ : Operand → Value) (d : Nat) (x : Option Operand) (n : Nat) : Bool :=
 match x with
 | none => dP (d = n)
 | some x => ZdW (ρ x) n
def ZiC (P : Program) (ρ : Operand → Value) (t : TypeId) (x : Operand) (lo hi : Option Operand) (l h : Nat) (s : St) : Out :=
 match P.underlying t, ρ x with
 | some (.slice e), .slice (some ⟨k, o, none⟩) n c => match P.info? e with
  | some ie => bif Nat.blt 0 ie.size then some (.slice (some ⟨k, o + l * ie.size, none⟩) (h - l) (c - l), ((s.told (ZdN ρ 0 lo l)).told (ZdN ρ n hi h)).told (dP (l ≤ h ∧ h ≤ c))) else none
  | none => none
 | some (.slice e), .slice none 0 0 => match P.info? e with
  | some _ => some (.slice none 0 0, ((s.told (ZdN ρ 0 lo l)).told (ZdN ρ 0 hi h)).told (dP (l = 0 ∧ h = 0)))
  | none => none
 | _, _ => none
def Zmm (P : Program) (ρ : Operand → Value) (t : TypeId) (x : Operand) (lo hi : Option Operand) (h : Nat) (c' : List Value) (s : St) : Out :=
 match P.underlying t, ρ x with
 | some (.slice e), .slice (some ⟨k, o, none⟩) n c => match P.info? e, s.h.get k with
  | some ie, some (.cells cs e') => bif Nat.beq e e' && Nat.beq o 0 then some (.slice (some ⟨s.n, 0, none⟩) h h, (((s.turn k c' e).told (ZdN ρ 0 lo 0)).told (ZdN ρ n hi h)).told (dP (h ≤ c ∧ 0 < ie.size ∧ c * ie.size ≤ cs.length ∧ cs.take (h * ie.size) = c'))) else none
  | _, _ => none
 | _, _ => none
def Zip : Cell → Value
 | .i n => .int .i64 n
 | .b q => .bool q
 | .k kk n => .int kk n
 | .s x => .string x
 | .any => .chan (some 0)
def Zca (l : List Cell) : List Value := l.map Zip
def ZaI : List Value → List Cell → Bool
 | [], [] => true
 | .int .i64 a :: r, .i b :: l => (a == b) && ZaI r l
 | .bool a :: r, .b b :: l => (a == b) && ZaI r l
 | .int k a :: r, .k k' b :: l => (decide (k = k') && (a == b)) && ZaI r l
 | .string a :: r, .s b :: l => dP (a = b) && ZaI r l
 | v :: r, .any :: l => dP (v.oneCell' = true) && ZaI r l
 | _, _ => false
def Zan (r : Option (List Value)) (l : List Cell) : Bool :=
 match r with
 | some c => ZaI c l
 | none => false
def ZkU (s : St) (k o m : Nat) : Option (List Value) :=
 match s.h.get k with
 | some (.cells c _) => Z4 m (c.drop o)
 | some (.ro O) => Za1 O o m
 | none => none
def Zkd (P : Program) (ρ : Operand → Value) (t : TypeId) (a : Operand) (l : List Cell) (s : St) : Out :=
 match ρ a with
 | .pointer (some ⟨k, o, none⟩) => match Zi7 P t with
  | some (true, m) => some (.agg (Zca l).toArray, s.told (Zan (ZkU s k o m) l))
  | some (false, _) => match l with
   | [x] => some (Zip x, s.told (Zan (ZkU s k o 1) l))
   | _ => none
  | none => none
 | _ => none
def Zfz (P : Program) (ρ : Operand → Value) (t : TypeId) (x : Operand) (lo hi : Option Operand) (s : St) : Out :=
 match P.underlying t, ρ x with
 | some (.slice e), .slice (some ⟨k, o, none⟩) n c => match P.info? e, Zf8 ρ 0 lo, Zf8 ρ n hi with
  | some ie, some l, some h => bif Nat.ble l h && Nat.ble h c && Nat.blt 0 ie.size then some (.slice (some ⟨k, o + l * ie.size, none⟩) (h - l) (c - l), s) else none
  | _, _, _ => none
 | some (.slice e), .slice none 0 0 => match P.info? e, Zf8 ρ 0 lo, Zf8 ρ 0 hi with
  | some _, some 0, some 0 => some (.slice none 0 0, s)
  | _, _, _ => none
 | some (.array n e), .pointer (some ⟨k, o, none⟩) => match P.info? e, Zf8 ρ 0 lo, Zf8 ρ n hi with
  | some ie, some l, some h => bif Nat.ble l h && Nat.ble h n && Nat.blt 0 ie.size then some (.slice (some ⟨k, o + l * ie.size, none⟩) (h - l) (n - l), s) else none
  | _, _, _ => none
 | _, _ => none
def ZiD (P : Program) (ρ : Operand → Value) (t : TypeId) (x : Operand) (lo hi : Option Operand) (s : St) : Out :=
 match P.underlying t, ρ x, hi with
 | some .string, .string b, some y => match Zf8 ρ 0 lo, Zio (ρ y) with
  | some l, some h => bif Nat.ble l h then (match s.tst (Nat.ble h b.size) with
   | (true, s1) => some (.string (b.extract l h), s1)
   | (false, _) => none) else none
  | _, _ => none
 | _, _, _ => none
def Zpd : Option TypeDesc → Value → Value → Option Bool
 | some (.pointer _), .pointer none, .pointer b => some b.isNone
 | some (.pointer _), .pointer _, .pointer none => some false
 | some (.slice _), .slice none _ _, .slice none _ _ => some true
 | some (.slice _), .slice none _ _, .slice (some _) _ c => bif ZjY && Nat.beq c 0 then none else some false
 | some (.slice _), .slice (some _) _ c, .slice none _ _ => bif ZjY && Nat.beq c 0 then none else some false
 | some (.func ..), .nilFunc, .func .. => some false
 | some (.func ..), .func .., .nilFunc => some false
 | _, _, _ => none
def ZrK (P : Program) (g : TypeId → Value → Value → Option Bool) (xs ys : Array Value) : List Field → Option Bool
 | [] => some true
 | f :: fs => bif f.name == "_" then none else match Zh7 P f.type xs f.offset, Zh7 P f.type ys f.offset, ZrK P g xs ys fs with
  | some a, some b, some r => match g f.type a b with | some q => some (q && r) | none => none
  | _, _, _ => none
def ZrL (P : Program) (g : Value → Value → Option Bool) (e : TypeId) (sz : Nat) (xs ys : Array Value) : Nat → Nat → Option Bool
 | 0, _ => some true
 | n + 1, i => match Zh7 P e xs (i * sz), Zh7 P e ys (i * sz), ZrL P g e sz xs ys n (i + 1) with
  | some a, some b, some r => match g a b with | some q => some (q && r) | none => none
  | _, _, _ => none
def eqV (P : Program) : Nat → TypeId → Value → Value → Option Bool
 | 0, _, _, _ => none
 | d + 1, t, x, y => match P.underlying t, x, y with
  | some (.int _), .int k a, .int k' b => if k = k' then some (a == b) else none
  | some .bool, .bool a, .bool b => some (a == b)
  | some (.struct fs), .agg xs, .agg ys => bif P.stoodInHeld t then none else ZrK P (eqV P d) xs ys fs.toList
  | some (.array n e), .agg xs, .agg ys => match P.info? e with | some i => ZrL P (eqV P d e) e i.size xs ys n 0 | none => none
  | _, _, _ => none
def ZtL (P : Program) (t : TypeId) (x y : Value) : Option Bool :=
 match x, y with
 | .agg _, .agg _ => bif P.eqGuardType P.depth t then none else eqV P 8 t x y
 | _, _ => none
def Zh2 (P : Program) (ρ : Operand → Value) (o : Oper) (op : BinOp) (t : TypeId) (x y : Operand) (s : St) : Out :=
 match ZtL P t (ρ x) (ρ y), op with
 | some q, .eql => some (.bool q, s)
 | some q, .neq => some (.bool (!q), s)
 | _, _ => match ZeJ P ρ o s with
 | some r => some r
 | none => match Zpd (P.underlying t) (ρ x) (ρ y), op with
  | some q, .eql => some (.bool q, s)
  | some q, .neq => some (.bool (!q), s)
  | _, _ => none
def Zmn (ρ : Operand → Value) (x y : Operand) (s : St) : Out :=
 match ρ x, ρ y with
 | .int k a, .int k' b => some (.int k (Int.tmod a b), s.told (dP (k = k' ∧ b ≠ 0)))
 | _, _ => none
def Zn6 (ρ : Operand → Value) (op : BinOp) (x y : Operand) (n : Nat) (s : St) : Out :=
 match ρ x, ρ y, op with
 | .int k a, .int _ b, .shl => some (.int k (k.wrap (a * 2 ^ n)), s.told (dP (b = Int.ofNat n ∧ n ≤ k.bits)))
 | .int k a, .int _ b, .shr => some (.int k (a / 2 ^ n), s.told (dP (b = Int.ofNat n ∧ n ≤ k.bits)))
 | _, _, _ => none
def Zpe (ρ : Operand → Value) (x y : Operand) (s : St) : Out :=
 match ρ x, ρ y with
 | .string a, .string b => some (.string (a ++ b), s.told (dP (((a.size + b.size : Nat) : Int) ≤ IntKind.i64.max)))
 | _, _ => none
def Ze2 (P : Program) (ρ : Operand → Value) (t : TypeId) (l c : Operand) (s : St) : Out :=
 match P.underlying t, Zio (ρ l), Zio (ρ c) with
 | some (.slice e), some l, some c => match P.info? e, ZfL P e with
  | some i, some z => bif Nat.ble l c && Nat.ble c 100000 && Nat.ble i.bytes 1000 && Nat.blt 0 z.length then
    some (.slice (some ⟨s.n, 0, none⟩) l c, s.add (rep z (c * i.size)) e)
   else none
  | _, _ => none
 | _, _, _ => none
def Zke (P : Program) (ρ : Operand → Value) (t : TypeId) (l c : Operand) (n cp : Nat) (cs : List Value) (s : St) : Out :=
 match P.underlying t with
 | some (.slice e) => match P.info? e, ZfL P e with
  | some i, some z => bif Nat.ble i.bytes 1000 && Nat.blt 0 z.length then
    some (.slice (some ⟨s.n, 0, none⟩) n cp, (((s.add cs e).told (ZdW (ρ l) n)).told (ZdW (ρ c) cp)).told (dP (n ≤ cp ∧ cp ≤ 100000 ∧ rep z (cp * i.size) = cs)))
   else none
  | _, _ => none
 | _ => none
def Zkf : List Value → Option (List Int)
 | [] => some []
 | .int .u8 n :: l => match Zkf l with | some r => some (n :: r) | none => none
 | _ => none
def Zg0 (P : Program) (ρ : Operand → Value) (a b : TypeId) (x : Operand) (s : St) : Out :=
 match P.underlying a, P.underlying b, ρ x with
 | some (.slice e), some .string, .slice (some ⟨k, o, none⟩) n _ => match P.underlying e, Zeu s k o n with
  | some (.int .u8), some l => match Zkf l with
   | some ns => some (.string (ns.foldl (fun r n => r.push (UInt8.ofNat n.toNat)) ByteArray.empty), s)
   | none => none
  | _, _ => none
 | some (.pointer t), some .unsafePointer, .pointer (some ⟨k, o, none⟩) => match P.info? t, Zeu s k o 1 with
  | some i, some [_] => bif Nat.beq i.size 0 then none else some (.pointer (some ⟨k, o, none⟩), s)
  | _, _ => none
 | _, _, _ => none
def Zg8 (P : Program) (ρ : Operand → Value) (a b : TypeId) (x : Operand) (ns : List Int) (s : St) : Out :=
 match P.underlying a, P.underlying b, ρ x with
 | some (.slice e), some .string, .slice (some ⟨k, o, none⟩) n _ => match P.underlying e with
  | some (.int .u8) => some (.string (ns.foldl (fun r n => r.push (UInt8.ofNat n.toNat)) ByteArray.empty), s.told (dP (Zml s k o n = some (ns.map (Value.int .u8)))))
  | _ => none
 | _, _, _ => none
def Zed (kk : IntKind) (e : Nat) (args : Array Value) (s : St) : Out :=
 match args.toList with
 | .pointer (some ⟨k, o, none⟩) :: r => match Zeu s k o 1 with
  | some [.int ck v] => if ck = kk then match e, r with
   | 0, [] => some (.int kk v, s)
   | 1, [.int xk x] => if xk = kk then (match Zdi s k o [.int kk x] with | some s' => some (.tuple #[], s') | none => none) else none
   | 2, [.int xk d] => if xk = kk then (match Zdi s k o [.int kk (kk.wrap (v + d))] with | some s' => some (.int kk (kk.wrap (v + d)), s') | none => none) else none
   | 3, [.int xk x, .int yk y] => if xk = kk ∧ yk = kk then (match s.tst (v == x) with
    | (true, s1) => match Zdi s1 k o [.int kk y] with | some s' => some (.bool true, s') | none => none
    | (false, s1) => some (.bool false, s1)) else none
   | _, _ => none
   else none
  | _ => none
 | _ => none
def Zh8 (kk : IntKind) (e : Nat) (args : Array Value) (v : Int) (c' : List Value) (s : St) : Out :=
 match args.toList with
 | .pointer (some ⟨k, o, none⟩) :: r => match s.h.get k with
  | some (.cells c t) => match e, r with
   | 0, [] => some (.int kk v, s.told (dP (Z4 1 (c.drop o) = some [.int kk v])))
   | 1, [.int xk x] => if xk = kk then some (.tuple #[], (s.putK k c' t).told (dP (Z4 1 (c.drop o) = some [.int kk v] ∧ o + 1 ≤ c.length ∧ ZjN c o [.int kk x] = c'))) else none
   | 2, [.int xk d] => if xk = kk then some (.int kk (kk.wrap (v + d)), (s.putK k c' t).told (dP (Z4 1 (c.drop o) = some [.int kk v] ∧ o + 1 ≤ c.length ∧ ZjN c o [.int kk (kk.wrap (v + d))] = c'))) else none
   | 3, [.int xk x, .int yk y] => if xk = kk ∧ yk = kk then (match (s.told (dP (Z4 1 (c.drop o) = some [.int kk v]))).tst (v == x) with
    | (true, s1) => some (.bool true, (s1.putK k c' t).told (dP (o + 1 ≤ c.length ∧ ZjN c o [.int kk y] = c')))
    | (false, s1) => some (.bool false, s1)) else none
   | _, _ => none
  | _ => none
 | _ => none
def Zmo (n : Nat) (args : Array Value) (s : St) : Out :=
 match n, args.toList with
 | 0, [] => some (.tuple #[], s)
 | 1, [.pointer (some ⟨_, _, none⟩)] => some (.tuple #[], s)
 | _, _ => none
def callee (ρ : Operand → Value) (c : Call) : Option (FuncId × Array Value) :=
 match c.callee with
 | .value f => match ρ f with
  | .func (.func f) a b => some (f, a ++ c.args.map ρ ++ b)
  | _ => none
 | _ => none
def Zh9 (P : Program) (ρ : Operand → Value) (o : Oper) (c : Call) (b : Builtin) (s : St) : Out :=
 match b with
 | .append => match c.argTypes.toList, c.args.toList with
  | [t, tx], [x, y] => match s.nextW with
   | (some (.ap m l c), s1) => Zka P s1 t tx (ρ x) (ρ y) m l c
   | (some (.api m l c), s1) => ZiA P s1 t tx (ρ x) (ρ y) m l c
   | (some .ap0, s1) => ZiB P s1 t tx (ρ x) (ρ y)
   | (some _, _) => none
   | (none, s1) => Zdu P s1 t tx (ρ x) (ρ y)
  | _, _ => none
 | .len => match c.argTypes.toList, c.args.toList with
  | [t], [x] => match P.underlying t, ρ x with
   | some (.slice _), .slice (some _) n _ => some (goInt n, s)
   | _, _ => ZeJ P ρ o s
  | _, _ => none
 | _ => ZeJ P ρ o s
def ZtM (P : Program) (ρ : Operand → Value) (o : Oper) (t : TypeId) (x : Operand) (lo hi : Option Operand) (s : St) : Out :=
 match s.nextW with
 | (some (.sl l h), s1) => ZiC P ρ t x lo hi l h s1
 | (some (.cut h c), s1) => Zmm P ρ t x lo hi h c s1
 | (some _, _) => none
 | (none, s1) => match Zfz P ρ t x lo hi s1 with | some r => some r | none => match ZiD P ρ t x lo hi s1 with | some r => some r | none => ZeJ P ρ o s1
def ev1 (P : Program) (ρ : Operand → Value) (o : Oper) (s : St) : Out :=
 match o.op with
 | .move x | .assign x => some (ρ x, s)
 | .pick c a b => match ρ c with
  | .bool t => match t with
   | true => some (ρ a, s)
   | false => some (ρ b, s)
  | _ => none
 | .alloc t => match ZfL P t with | some z => some (at0 s.n, s.add z t) | none => none
 | .box t x => some (at0 s.n, s.add (ρ x).cells.toList t)
 | .build t ps => ZjZ P ρ t ps s
 | .buildSlice t n ps => ZfC P ρ t n ps s
 | .load t a => match s.nextL with
  | (some l, s1) => Zkd P ρ t a l s1
  | (none, s1) => match ρ a with
   | .pointer (some ⟨k, o, none⟩) => match Zi8 P s1 t k o with | some v => some (v, s1) | none => none
   | _ => none
 | .store t a x => match s.nextW with
  | (some (.st c), s1) => Zi9 P ρ t a x c s1
  | (some _, _) => none
  | (none, s1) => Zhg P ρ t a x s1
 | .nilCheck x => match ρ x with
  | .pointer (some a) => some (.pointer (some a), s)
  | .func (.func f) a b => some (.func (.func f) a b, s)
  | _ => none
 | .fieldAddr t x f => Zgg P ρ t x f s
 | .field t x f => Zkb P ρ t x f s
 | .index t x ix => match Zkc P ρ t x ix s with | some r => some r | none => ZeJ P ρ o s
 | .indexAddr t x ix => match s.nextX with
  | (some n, s1) => ZfD P ρ t x ix n s1
  | (none, s1) => Ze1 P ρ t x ix s1
 | .extract x i => match ρ x with | .tuple vs => (match (vs[i]? : Option Value) with | some v => some (v, s) | none => none) | _ => none
 | .slice t x lo hi mx => match mx with
  | none => ZtM P ρ o t x lo hi s
  | some _ => none
 | .binOp .rem t x y _ => match s.nextW with
  | (some .dv, s1) => Zmn ρ x y s1
  | (some _, _) => none
  | (none, s1) => Zh2 P ρ o .rem t x y s1
 | .binOp .shl t x y _ => match s.nextW with
  | (some (.sh n), s1) => Zn6 ρ .shl x y n s1
  | (some _, _) => none
  | (none, s1) => Zh2 P ρ o .shl t x y s1
 | .binOp .shr t x y _ => match s.nextW with
  | (some (.sh n), s1) => Zn6 ρ .shr x y n s1
  | (some _, _) => none
  | (none, s1) => Zh2 P ρ o .shr t x y s1
 | .binOp .add t x y _ => match ρ x with
  | .string _ => Zpe ρ x y s
  | _ => Zh2 P ρ o .add t x y s
 | .binOp op t x y _ => Zh2 P ρ o op t x y s
 | .makeSlice t l c => match s.nextW with
  | (some (.mk n cp cs), s1) => Zke P ρ t l c n cp cs s1
  | (some _, _) => none
  | (none, s1) => Ze2 P ρ t l c s1
 | .makeFunc fn a b => some (.func fn (a.map ρ) (b.map ρ), s)
 | .unOp .. => ZeJ P ρ o s
 | .convert a b x => match ρ x with
  | .slice (some _) _ _ => match s.nextW with
   | (some (.bs ns), s1) => Zg8 P ρ a b x ns s1
   | (some _, _) => none
   | (none, s1) => Zg0 P ρ a b x s1
  | _ => match Zg0 P ρ a b x s with | some r => some r | none => ZeJ P ρ o s
 | .call c => match c.callee with
  | .builtin b => Zh9 P ρ o c b s
  | _ => none
 | _ => none
def ZrM (o : Oper) (v : Value) (s : St) : Value × St :=
 match o.op, v with
 | .binOp .., .bool t | .unOp .., .bool t | .load .., .bool t | .field .., .bool t | .index .., .bool t => match s.tst t with | (b, s') => (.bool b, s')
 | .binOp .., .int k x | .unOp .., .int k x | .convert .., .int k x => match s.vst x with | (y, s') => (.int k y, s')
 | _, _ => (v, s)
def Zmp (o : Oper) : Option Call :=
 match o.op with
 | .call c => match c.callee with
  | .value _ => some c
  | _ => none
 | _ => none

def ZfM (ops : Array Oper) (T : Tr Value) (o : Oper) (s : St) : Option (Bool × St) :=
 match o.guard with
 | none => some (true, s)
 | some (j, want) => match (ops[j]?).bind (·.dst) with
  | some d => match T.get d with
   | some (.bool b) => some (b == want, s)
   | some (.tuple _) => some (false, s)
   | _ => none
  | none => none
def Zf6 (T : Tr Value) (dst : Option Tmp) (v : Value) : Tr Value := match dst with | some d => T.set d (some v) | none => T
inductive Ex where | normal | exit (id : Nat) | ret
def ZfN : Nat → List Value → Tr Value → Tr Value
 | _, [], T => T
 | i, v :: l, T => ZfN (i + 1) l (T.set i (some v))
def Zcr (P : Program) (T : Tr Value) (s : St) : List ResultVar → Option (List Value)
 | [] => some []
 | .tmp t :: l => match Zcr P T s l with | some r => some ((T.get t).getD undef :: r) | none => none
 | .cell a t :: l => match (T.get a).getD undef with
  | .pointer (some ⟨k, o, none⟩) => match Zi8 P s t k o, Zcr P T s l with
   | some v, some r => some (v :: r)
   | _, _ => none
  | _ => none
def Zjy (nt : Nat) : Option Tmp → Bool
 | none => true
 | some d => Nat.blt d nt
/-! ### A region that draws its order: each operation is run on what it Zg1 alone, and those that may change places must not meet -/
inductive Ext where
 | at (k : IntKind) (e : Nat)
 | mark (n : Nat)
 | fn (g : List Value → Option Value)
 | hp (g : Array Value → St → Out)
 | tc (S : Array Value → List (Nat × AObj) → Value → List (Nat × Option AObj) → Nat → Nat → Prop)
def AObj.sameAs (o : Option AObj) (p : AObj) : Bool :=
 match o, p with
 | some (.cells c t), .cells c' t' => bif Nat.beq t t' then dP (c = c') else false
 | some (.ro O), .ro O' => dP (O = O')
 | _, _ => false
def Zbw {α : Type} (k : Nat) : List (Nat × α) → Option α
 | [] => none
 | x :: l => bif Nat.beq x.1 k then some x.2 else Zbw k l
def behind (pre : List (Nat × AObj)) (post : List (Nat × Option AObj)) (k : Nat) : Option AObj :=
 match Zbw k post with
 | some o => o
 | none => Zbw k pre
def Zpf (pre : List (Nat × AObj)) (n n' : Nat) : List (Nat × Option AObj) → Bool
 | [] => true
 | x :: l => ((Zbw x.1 pre).isSome || (x.2.isSome && (Nat.ble n x.1 && Nat.blt x.1 n'))) && Zpf pre n n' l
def Zn7 (h : Tr AObj) : List (Nat × Option AObj) → Tr AObj
 | [] => h
 | x :: l => (Zn7 h l).set x.1 x.2
def Zn8 (s : St) : List (Nat × AObj) → List (Bool × Bool)
 | [] => s.ob
 | x :: l => (AObj.sameAs (s.h.get x.1) x.2, true) :: Zn8 s l
def ZrN (S : Array Value → List (Nat × AObj) → Value → List (Nat × Option AObj) → Nat → Nat → Prop) (args : Array Value) (pre : List (Nat × AObj)) (v : Value) (post : List (Nat × Option AObj)) (dn : Nat) (s : St) : Out :=
 bif Zpf pre s.n (s.n + dn) post && ZV (fun x => Nat.blt x.1 s.n) pre then
  some (v, ⟨Zn7 s.h post, s.n + dn, post.map (·.1) ++ s.wr, s.orc, (dP (S args pre v post s.n dn), true) :: Zn8 s pre⟩)
 else none
def ZtN (g : List Value → Option Value) (args : Array Value) (s : St) : Out :=
 bif ZV Zep args.toList then match g args.toList with
  | some v => bif Zep v then some (v, s) else none
  | none => none
 else none
def isBig (ext : FuncId → Option Ext) (ρ : Operand → Value) (o : Oper) : Bool :=
 match Zmp o with
 | some c => match callee ρ c with
  | some (f, _) => (match ext f with | none => true | some (.hp _) => true | some (.tc _) => true | _ => false)
  | none => true
 | none => false
structure Rec where
 small : Bool
 w : Bool
 t : List Nat
 n0 : Nat
 n1 : Nat
 q : List Nat
structure Ent where
 o : Oper
 m : Nat
 r : Rec
 T : Tr Value
 s : St
 v : Value
 s' : St
def Zo1 : Value → List Nat
 | .pointer (some a) => [a.block]
 | .slice (some a) _ _ => [a.block]
 | _ => []
def Zg1 (s : St) (ρ : Operand → Value) (o : Oper) : Bool × List Nat :=
 match o.op with
 | .slice _ x _ _ _ => match s.orc.w with
  | some (.cut _ _) :: _ => (true, Zo1 (ρ x))
  | _ => (false, [])
 | .convert _ _ x => (false, Zo1 (ρ x))
 | .load _ a => (false, Zo1 (ρ a))
 | .store _ a _ => (true, Zo1 (ρ a))
 | .call c => match c.callee with
  | .builtin .append => match c.args.toList with
   | [x, _] => (true, Zo1 (ρ x))
   | _ => (true, [])
  | .builtin _ => (false, [])
  | _ => match c.args.toList with
   | x :: _ => (true, Zo1 (ρ x))
   | [] => (true, [])
 | _ => (false, [])
def Zkg (ρ : Operand → Value) (o : Oper) : List Nat :=
 match o.op with
 | .call c => match c.callee with
  | .builtin .append => match c.args.toList with
   | [_, y] => Zo1 (ρ y)
   | _ => []
  | _ => []
 | _ => []
def Zjz (h : Tr AObj) : List Nat → Tr AObj
 | [] => .nil
 | k :: l => (Zjz h l).set k (h.get k)
def Zn9 (r : Tr AObj) : List Nat → Tr AObj → Tr AObj
 | [], h => h
 | k :: l, h => (Zn9 r l h).set k (r.get k)
def Zo2 (k : Nat) : List Nat → Bool
 | [] => false
 | x :: l => Nat.beq k x || Zo2 k l
def ZhA (a b : List Nat) : Bool := ZV (fun k => !Zo2 k b) a
def Zmq (n0 n1 : Nat) (l : List Nat) : Bool := ZV (fun k => !(Nat.ble n0 k && Nat.blt k n1)) l
def ZiE (n : Nat) : List Nat → List Nat
 | [] => []
 | k :: l => bif Nat.blt k n then k :: ZiE n l else ZiE n l
def Zpg (a b : Rec) : Bool :=
 match a.small, b.small with
 | true, true => (!(a.w || b.w) || ZhA a.t b.t) && Zmq a.n0 a.n1 b.t && ((!b.w || ZhA a.q b.t) && (!a.w || ZhA a.t b.q) && Zmq a.n0 a.n1 b.q)
 | true, false => !a.w && Nat.beq a.n0 a.n1 && ZhA a.t b.t && ZhA a.q b.t
 | false, true => !b.w && ZhA a.t b.t && Zmq a.n0 a.n1 b.t && (ZhA a.t b.q && Zmq a.n0 a.n1 b.q)
 | false, false => false
def ZdB (done : List Ent) : List Edge → Nat
 | [] => 0
 | e :: l => bif Region.binds .any e then (2 ^ e.on ||| (match done[e.on]? with | some d => d.m | none => 0)) ||| ZdB done l else ZdB done l
def Zg9 : List Operand → List Tmp
 | [] => []
 | .tmp t :: l => t :: Zg9 l
 | _ :: l => Zg9 l
def ZnA (T : Tr Value) : List Tmp → Tr Value
 | [] => .nil
 | t :: l => (ZnA T l).set t (T.get t)
def Zkh (i : Nat) : List Edge → Bool
 | [] => true
 | e :: l => (!Region.binds .any e || Nat.blt e.on i) && Zkh i l
def Zi0 (ops : Array Oper) (o : Oper) (r : Rec) (m : Nat) : Nat → List Ent → Bool
 | _, [] => true
 | j, d :: l => (m.testBit j || (Oper.apart ops d.o o && Zpg d.r r)) && Zi0 ops o r m (j + 1) l
def ZiF (s : St) : Rec := ⟨true, false, [], s.n, s.n, []⟩
mutual
def ZbA (P : Program) (ext : FuncId → Option Ext) (nt : Nat) : Nat → Code → Tr Value → St → Option (Ex × Tr Value × St)
 | 0, _, _, _ => none
 | fu + 1, c, T, s => match c with
  | .skip => some (.normal, T, s)
  | .label _ => some (.normal, T, s)
  | .scope c => ZbA P ext nt fu c T s
  | .ret => some (.ret, T, s)
  | .exit id => some (.exit id, T, s)
  | .seq a b => match ZbA P ext nt fu a T s with
   | some (.normal, T', s') => ZbA P ext nt fu b T' s'
   | some (.exit i, T', s') => some (.exit i, T', s')
   | some (.ret, T', s') => some (.ret, T', s')
   | none => none
  | .cond x a b => match opnd T x with
   | .bool t => match t with
    | true => ZbA P ext nt fu a T s
    | false => ZbA P ext nt fu b T s
   | _ => none
  | .block id a => match ZbA P ext nt fu a T s with
   | some (.exit i, T', s') => bif Nat.beq i id then some (.normal, T', s') else some (.exit i, T', s')
   | some (.normal, T', s') => some (.normal, T', s')
   | some (.ret, T', s') => some (.ret, T', s')
   | none => none
  | .loop a => match ZbA P ext nt fu a T s with
   | some (.normal, T', s') => ZbA P ext nt fu (.loop a) T' s'
   | some (.exit i, T', s') => some (.exit i, T', s')
   | some (.ret, T', s') => some (.ret, T', s')
   | none => none
  | .region _ ops draw => bif draw then match ZeK P ext nt fu ops [] ops.toList T s with
    | some (_, T', s') => some (.normal, T', s')
    | none => none
   else match ZgA P ext nt fu ops ops.toList T s with
   | some (T', s') => some (.normal, T', s')
   | none => none
  | _ => none
termination_by structural fu _ _ _ => fu
def ZgA (P : Program) (ext : FuncId → Option Ext) (nt : Nat) : Nat → Array Oper → List Oper → Tr Value → St → Option (Tr Value × St)
 | 0, _, _, _, _ => none
 | _ + 1, _, [], T, s => some (T, s)
 | fu + 1, ops, o :: l, T, s =>
  bif Zjy nt o.dst && ZV Zi6 o.op.operands.toList then
   match ZfM ops T o s with
   | some (true, s1) => match ZgB P ext fu (opnd T) o s1 with
    | some (v, s') => s'.keep fun s' => ZgA P ext nt fu ops l (Zf6 T o.dst v) s'
    | none => none
   | some (false, s1) => ZgA P ext nt fu ops l (Zf6 T o.dst undef) s1
   | none => none
  else none
termination_by structural fu _ _ _ _ => fu
def ZeK (P : Program) (ext : FuncId → Option Ext) (nt : Nat) : Nat → Array Oper → List Ent → List Oper → Tr Value → St → Option (List Ent × Tr Value × St)
 | 0, _, _, _, _, _ => none
 | _ + 1, _, done, [], T, s => some (done, T, s)
 | fu + 1, ops, done, o :: l, T, s =>
  bif Zjy nt o.dst && ZV Zi6 o.op.operands.toList && Zkh done.length o.after.toList then
   match ZfM ops T o s with
   | some (true, s1) => match Ziq P ext fu (opnd (ZnA T (Zg9 o.op.operands.toList))) o s1 with
    | some (v, s', r) => s'.keep fun s' => bif Zi0 ops o r (ZdB done o.after.toList) 0 done then ZeK P ext nt fu ops (done ++ [⟨o, ZdB done o.after.toList, r, T, s1, v, s'⟩]) l (Zf6 T o.dst v) s' else none
    | none => none
   | some (false, s1) => bif Zi0 ops o (ZiF s1) (ZdB done o.after.toList) 0 done then ZeK P ext nt fu ops (done ++ [⟨o, ZdB done o.after.toList, ZiF s1, T, s1, undef, s1⟩]) l (Zf6 T o.dst undef) s1 else none
   | none => none
  else none
termination_by structural fu _ _ _ _ _ => fu
def Ziq (P : Program) (ext : FuncId → Option Ext) : Nat → (Operand → Value) → Oper → St → Option (Value × St × Rec)
 | 0, _, _, _ => none
 | fu + 1, ρ, o, s =>
  match isBig ext ρ o with
  | true => match ZgB P ext fu ρ o ⟨s.h, s.n, [], s.orc, s.ob⟩ with
   | some (v, s') => bif ZV (fun k => Nat.blt k s'.n) s'.wr then some (v, ⟨s'.h, s'.n, s'.wr ++ s.wr, s'.orc, s'.ob⟩, ⟨false, true, ZiE s.n s'.wr, s.n, s'.n, []⟩) else none
   | none => none
  | false => match Zg1 s ρ o with
   | (w, t) => bif ZV (fun k => Nat.blt k s.n) t && ZV (fun k => Nat.blt k s.n) (Zkg ρ o) then match ZgB P ext fu ρ o ⟨Zjz s.h (t ++ Zkg ρ o), s.n, [], s.orc, s.ob⟩ with
     | some (v, s') => bif ZV (fun k => w && Zo2 k t) s'.wr && Nat.ble s'.n (s.n + 1) then some (v, ⟨(bif w then Zn9 s'.h t s.h else s.h).set s.n (bif Nat.beq s'.n s.n then s.h.get s.n else s'.h.get s.n), s'.n, s'.wr ++ s.wr, s'.orc, s'.ob⟩, ⟨true, w, t, s.n, s'.n, Zkg ρ o⟩) else none
     | none => none
    else none
termination_by structural fu _ _ _ => fu
def ZgB (P : Program) (ext : FuncId → Option Ext) : Nat → (Operand → Value) → Oper → St → Out
 | 0, _, _, _ => none
 | fu + 1, ρ, o, s => match Zmp o with
  | some c => match callee ρ c with
   | some (f, args) => match ext f with
    | some (.at k e) => match s.nextW with
     | (some (.at v c), s1) => Zh8 k e args v c s1
     | (some _, _) => none
     | (none, s1) => Zed k e args s1
    | some (.mark n) => Zmo n args s
    | some (.hp g) => g args s
    | some (.tc S) => match s.nextW with
     | (some (.call pre v post dn), s1) => ZrN S args pre v post dn s1
     | _ => none
    | some (.fn g) => ZtN g args s
    | none => Zee P ext fu f args s
   | none => none
  | none => match ev1 P ρ o s with
   | some (v, s1) => some (ZrM o v s1)
   | none => none
termination_by structural fu _ _ _ => fu
def Zee (P : Program) (ext : FuncId → Option Ext) : Nat → FuncId → Array Value → St → Out
 | 0, _, _, _ => none
 | fu + 1, f, args, s => match P.funcs[f]? with
  | some fn => match fn.body with
   | some c => bif Nat.ble args.size fn.ntmps then match ZbA P ext fn.ntmps fu c (ZfN 0 args.toList .nil) s with
    | some (.exit _, _, _) => none
    | some (_, T, s') => match Zcr P T s' fn.results.toList with
     | some [v] => some (v, s')
     | some vs => some (.tuple vs.toArray, s')
     | none => none
    | none => none
    else none
   | none => none
  | none => none
termination_by structural fu _ _ _ => fu
end
end
end Ev
end Go.Proofs.Ytjfmadhcbgdakaa
