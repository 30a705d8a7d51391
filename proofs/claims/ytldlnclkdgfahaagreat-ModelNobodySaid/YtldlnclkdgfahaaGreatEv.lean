/- A runner over a store of its own: blocks have numbers of their own, temporaries lie in a tree. -/
import Derived.Test.YtldlnclkdgfahaaGreatRows
import Derived.WalkKit
import Derived.ProofKit
namespace Go.Proofs.YtldlnclkdgfahaaGreat
namespace Ev
inductive Tr (α : Type) where
  | nil
  | node (v : Option α) (l r : Tr α)
namespace Tr
variable {α : Type}
noncomputable def val (t : Tr α) : Option α := Tr.rec (motive := fun _ => Option α) none (fun v _ _ _ _ => v) t
noncomputable def lt (t : Tr α) : Tr α := Tr.rec (motive := fun _ => Tr α) .nil (fun _ l _ _ _ => l) t
noncomputable def rt (t : Tr α) : Tr α := Tr.rec (motive := fun _ => Tr α) .nil (fun _ _ r _ _ => r) t
noncomputable def get (t : Tr α) : Nat → Option α :=
  Tr.rec (motive := fun _ => Nat → Option α) (fun _ => none)
    (fun v _ _ gl gr n => Bool.rec (motive := fun _ => Option α) (Bool.rec (motive := fun _ => Option α) (gr (Nat.div (Nat.sub n 1) 2)) (gl (Nat.div (Nat.sub n 1) 2)) (Nat.beq (Nat.mod n 2) 1)) v (Nat.beq n 0)) t
noncomputable def setF (f : Nat) : Tr α → Nat → Option α → Tr α :=
  Nat.rec (motive := fun _ => Tr α → Nat → Option α → Tr α) (fun t _ v => .node v t.lt t.rt)
    (fun _ ih t n v => Bool.rec (motive := fun _ => Tr α) (Bool.rec (motive := fun _ => Tr α) (.node t.val t.lt (ih t.rt (Nat.div (Nat.sub n 1) 2) v)) (.node t.val (ih t.lt (Nat.div (Nat.sub n 1) 2) v) t.rt) (Nat.beq (Nat.mod n 2) 1)) (.node v t.lt t.rt) (Nat.beq n 0)) f
noncomputable def set (t : Tr α) (n : Nat) (v : Option α) : Tr α := setF n t n v
theorem get_nil (n : Nat) : (Tr.nil : Tr α).get n = none := rfl
theorem get_node (v : Option α) (l r : Tr α) (n : Nat) : (Tr.node v l r).get n = bif Nat.beq n 0 then v else bif Nat.beq (n % 2) 1 then l.get ((n - 1) / 2) else r.get ((n - 1) / 2) := by
  have e : Nat.beq (n % 2) 1 = Nat.beq (Nat.mod n 2) 1 := rfl
  show (Bool.rec (motive := fun _ => Option α) (Bool.rec (motive := fun _ => Option α) (r.get ((n - 1) / 2)) (l.get ((n - 1) / 2)) (Nat.beq (Nat.mod n 2) 1)) v (Nat.beq n 0) : Option α) = _
  rw [e]
  generalize Nat.beq n 0 = x
  generalize Nat.beq (Nat.mod n 2) 1 = y
  cases x <;> cases y <;> rfl
theorem setF_zero (t : Tr α) (n : Nat) (v : Option α) : setF 0 t n v = .node v t.lt t.rt := rfl
theorem setF_succ (f : Nat) (t : Tr α) (n : Nat) (v : Option α) : setF (f + 1) t n v = bif Nat.beq n 0 then .node v t.lt t.rt
    else bif Nat.beq (n % 2) 1 then .node t.val (setF f t.lt ((n - 1) / 2) v) t.rt
    else .node t.val t.lt (setF f t.rt ((n - 1) / 2) v) := by
  have e : Nat.beq (n % 2) 1 = Nat.beq (Nat.mod n 2) 1 := rfl
  show (Bool.rec (motive := fun _ => Tr α) (Bool.rec (motive := fun _ => Tr α) (.node t.val t.lt (setF f t.rt ((n - 1) / 2) v)) (.node t.val (setF f t.lt ((n - 1) / 2) v) t.rt) (Nat.beq (Nat.mod n 2) 1)) (.node v t.lt t.rt) (Nat.beq n 0) : Tr α) = _
  rw [e]
  generalize Nat.beq n 0 = x
  generalize Nat.beq (Nat.mod n 2) 1 = y
  cases x <;> cases y <;> rfl
theorem lt_nil : (Tr.nil : Tr α).lt = .nil := rfl
theorem rt_nil : (Tr.nil : Tr α).rt = .nil := rfl
theorem val_nil : (Tr.nil : Tr α).val = none := rfl
theorem lt_node (v : Option α) (l r : Tr α) : (Tr.node v l r).lt = l := rfl
theorem rt_node (v : Option α) (l r : Tr α) : (Tr.node v l r).rt = r := rfl
theorem val_node (v : Option α) (l r : Tr α) : (Tr.node v l r).val = v := rfl
end Tr

/-- May an empty slice of some block stand for nil? (Then no empty slice is known not to be nil.) -/
def nilToo : Bool := false
inductive AObj where
  | cells (c : List Value) (t : TypeId)
  | ro (O : Obj) (m : Bool := false)
/-- Is it a block that may be written? -/
def isC : Option AObj → Bool
  | some (.cells _ _) => true
  | some (.ro _ m) => m
  | _ => false

/-- A told cell: a number, a bool, a string. -/
inductive Cell where
  | i (n : Int)
  | b (q : Bool)
  | k (kk : IntKind) (n : Int)
  | s (x : ByteArray)
  | any
/-- What is told of an operation on rows that are not known cell by cell: a store (the cells behind it), an append that grows (how many, which cells, all cells behind it), one of nothing, a make, a slice's bounds, an atomic operation (the number that stood there, the cells behind it), a call (blocks ahead of it, its value, blocks behind it, how many are new). -/
inductive Told where
  | st (c : List Value)
  | ap (m : Nat) (l c : List Value)
  | ap0
  | mk (l cp : Nat) (c : List Value)
  | sl (lo hi : Nat)
  | at (v : Int) (c : List Value)
  | call (pre : List (Nat × AObj)) (v : Value) (post : List (Nat × Option AObj)) (dn : Nat)
  | dv
  | api (m : Nat) (l c : List Value)
  | cut (h : Nat) (c : List Value)
  | sh (n : Nat)
  | bs (ns : List Int)
  | lk (r : Option Value)
  | mp (l : List MapEntry)
/-- Answers: of tests; of numbers that were reckoned; of indices; of numbers that were read; of operations that are told. -/
structure Orc where
  b : List (Option Bool)
  v : List (Option Int)
  x : List (Option Nat)
  l : List (Option (List Cell))
  w : List (Option Told)
noncomputable section
/-- The store; the next number; what was written; answers for tests that are not known; what was answered so. -/
structure St where
  h : Tr AObj
  n : Nat
  wr : List Nat
  orc : Orc
  ob : List (Bool × Bool)
def St.add (s : St) (c : List Value) (t : TypeId) : St := match s with | ⟨h, n, wr, orc, ob⟩ => ⟨h.set n (some (.cells c t)), n + 1, wr, orc, ob⟩
def St.putK (s : St) (k : Nat) (c : List Value) (t : TypeId) : St := match s with | ⟨h, n, wr, orc, ob⟩ => ⟨h.set k (some (.cells c t)), n, k :: wr, orc, ob⟩
/-- Block k is known no more: a new one has what follows. -/
def St.turn (s : St) (k : Nat) (c : List Value) (t : TypeId) : St := ⟨(s.h.set k none).set s.n (some (.cells c t)), s.n + 1, k :: s.wr, s.orc, s.ob⟩
/-- A new map; a map that is written. -/
def St.addM (s : St) (O : Obj) : St := match s with | ⟨h, n, wr, orc, ob⟩ => ⟨h.set n (some (.ro O true)), n + 1, wr, orc, ob⟩
def St.putM (s : St) (k : Nat) (O : Obj) : St := match s with | ⟨h, n, wr, orc, ob⟩ => ⟨h.set k (some (.ro O true)), n, k :: wr, orc, ob⟩
/-- The state, opened. -/
def St.keep {β : Type} (s : St) (k : St → β) : β := match s with | ⟨h, n, wr, orc, ob⟩ => k ⟨h, n, wr, orc, ob⟩
theorem St.keep_eq {β : Type} (s : St) (k : St → β) : s.keep k = k s := by cases s; rfl
/-- A test. -/
def St.tst (s : St) (t : Bool) : Bool × St :=
  match s.orc.b with
  | [] => (t, s)
  | none :: r => (t, ⟨s.h, s.n, s.wr, ⟨r, s.orc.v, s.orc.x, s.orc.l, s.orc.w⟩, s.ob⟩)
  | some b :: r => (b, ⟨s.h, s.n, s.wr, ⟨r, s.orc.v, s.orc.x, s.orc.l, s.orc.w⟩, (t, b) :: s.ob⟩)
/-- A number that was reckoned. -/
def St.vst (s : St) (x : Int) : Int × St :=
  match s.orc.v with
  | [] => (x, s)
  | none :: r => (x, ⟨s.h, s.n, s.wr, ⟨s.orc.b, r, s.orc.x, s.orc.l, s.orc.w⟩, s.ob⟩)
  | some y :: r => (y, ⟨s.h, s.n, s.wr, ⟨s.orc.b, r, s.orc.x, s.orc.l, s.orc.w⟩, (x == y, true) :: s.ob⟩)

def St.nextX (s : St) : Option Nat × St :=
  match s.orc.x with
  | [] => (none, s)
  | a :: r => (a, ⟨s.h, s.n, s.wr, ⟨s.orc.b, s.orc.v, r, s.orc.l, s.orc.w⟩, s.ob⟩)
def St.nextL (s : St) : Option (List Cell) × St :=
  match s.orc.l with
  | [] => (none, s)
  | a :: r => (a, ⟨s.h, s.n, s.wr, ⟨s.orc.b, s.orc.v, s.orc.x, r, s.orc.w⟩, s.ob⟩)
def St.nextW (s : St) : Option Told × St :=
  match s.orc.w with
  | [] => (none, s)
  | a :: r => (a, ⟨s.h, s.n, s.wr, ⟨s.orc.b, s.orc.v, s.orc.x, s.orc.l, r⟩, s.ob⟩)
def St.told (s : St) (q : Bool) : St := ⟨s.h, s.n, s.wr, s.orc, (q, true) :: s.ob⟩
/-- What is told, whatever it is. -/
noncomputable def dP (p : Prop) : Bool := @decide p (Classical.propDecidable p)

def atom : Value → Bool
  | .bool _ | .int .. | .float .. | .complex .. | .string _ | .pointer none | .map none | .chan none | .nilFunc | .nilIface => true
  | .slice none n c => Nat.beq n 0 && Nat.beq c 0
  | .func (.func _) a b => a.isEmpty && b.isEmpty
  | .iface _ (.agg cs) => cs.isEmpty
  | _ => false
def allB {α : Type} (p : α → Bool) : List α → Bool
  | [] => true
  | x :: l => p x && allB p l
def free1 : Value → Bool
  | .agg cs => allB atom cs.toList
  | v => atom v
def free : Value → Bool
  | .tuple vs => allB free1 vs.toList
  | v => free1 v
def opnd (T : Tr Value) : Operand → Value
  | .tmp t => (T.get t).getD undef
  | .const v => bif free v then v else undef
  | .global g => .chan (some g)
  | .func f => .func (.func f) #[] #[]
def goodOp : Operand → Bool
  | .const v => free v
  | _ => true
def cell1 : Value → Bool
  | .agg _ | .tuple _ => false
  | _ => true

def prun {α : Type} (P : Program) : Sem α → Option α
  | .pure a => some a
  | .program k => prun P (k P)
  | .mark _ k => prun P k
  | _ => none

/-- Is a variable of the type more than one cell's value? Of how many cells? -/
def shapeT (P : Program) (t : TypeId) : Option (Bool × Nat) :=
  match P.underlying t, P.info? t with
  | some (.struct _), some i | some (.array _ _), some i => some (true, i.size)
  | some _, some i => some (false, i.size)
  | _, _ => none
def takeN {α : Type} : Nat → List α → Option (List α)
  | 0, _ => some []
  | _ + 1, [] => none
  | n + 1, x :: l => match takeN n l with | some r => some (x :: r) | none => none
/-- m cells from o on. -/
def rowAt (s : St) (k o m : Nat) : Option (List Value) :=
  match s.h.get k with
  | some (.cells c _) => takeN m (c.drop o)
  | _ => none
/-- m cells from o on of a block of the caller's. -/
def roRow (O : Obj) (o m : Nat) : Option (List Value) :=
  match O with
  | .cells C _ _ => takeN m (C.toList.drop o)
  | _ => none
/-- So many cells, also of a block of the caller's. -/
def rowS (s : St) (k o m : Nat) : Option (List Value) :=
  match s.h.get k with
  | some (.cells c _) => takeN m (c.drop o)
  | some (.ro O) => bif Nat.beq m 0 then some [] else match roRow O o m with
    | some l => bif allB atom l then some l else none
    | none => none
  | _ => none
def readAt (P : Program) (s : St) (t : TypeId) (k o : Nat) : Option Value :=
  match shapeT P t with
  | some (true, m) => match rowAt s k o m with | some l => some (.agg l.toArray) | none => none
  | some (false, _) => match rowAt s k o 1 with | some [v] => some v | _ => none
  | none => none
/-- The row with other cells from o on. -/
def putN (c : List Value) (o : Nat) (l : List Value) : List Value := c.take o ++ l ++ c.drop (o + l.length)
def writeAt (s : St) (k o : Nat) (l : List Value) : Option St :=
  match s.h.get k with
  | some (.cells c t) => bif Nat.ble (o + l.length) c.length && allB cell1 l then some (s.putK k (putN c o l) t) else none
  | _ => none
def partOf (P : Program) (t : TypeId) (cs : Array Value) (o : Nat) : Option Value :=
  match shapeT P t with
  | some (true, m) => some (.agg (cs.extract o (o + m)))
  | some (false, _) => cs[o]?
  | none => none
def zeroT (P : Program) (t : TypeId) : Option (List Value) :=
  match P.info? t with
  | some i => match i.zero with
    | some z => bif allB atom z.cells.toList then some z.cells.toList else none
    | none => none
  | none => none
abbrev Out := Option (Value × St)
def at0 (k : Nat) : Value := .pointer (some ⟨k, 0, none⟩)
def general (P : Program) (ρ : Operand → Value) (o : Oper) (s : St) : Out :=
  bif allB (fun x => free (ρ x)) o.op.operands.toList then
    match prun P (execOp ρ o) with
    | some (.value v) => bif free v then some (v, s) else none
    | _ => none
  else none
def natOf : Value → Option Nat
  | .int _ (.ofNat n) => some n
  | _ => none
def opNat (ρ : Operand → Value) (d : Nat) : Option Operand → Option Nat
  | none => some d
  | some x => natOf (ρ x)
/-- n cells, of copies of z. -/
def rep (z : List Value) (n : Nat) : List Value := (List.range n).map fun j => z.getD (j % z.length) undef
/-- What is appended: how many elements, which cells. -/
def cellsAt (P : Program) (s : St) (z : List Value) (size : Nat) (tx : TypeId) (x : Value) : Option (Nat × List Value) :=
  match P.underlying tx, x with
  | some (.slice _), .slice none 0 0 => some (0, [])
  | some (.slice _), .slice (some ⟨k, o, none⟩) n _ => match rowS s k o (n * size) with
    | some l => bif allB cell1 l then some (n, l) else none
    | none => none
  | some (.int _), .int _ (.ofNat n) => bif Nat.blt 0 n && Nat.blt 0 size && Nat.ble n 100000 then some (n, rep z (n * z.length)) else none
  | _, _ => none
def appendTo (P : Program) (s : St) (ts tx : TypeId) (x y : Value) : Out :=
  match P.underlying ts with
  | some (.slice e) => match P.info? e, zeroT P e with
    | some i, some z => match cellsAt P s z i.size tx y with
      | some (m, l) => bif Nat.ble m 100000 && Nat.ble i.bytes 1000 && Nat.beq z.length i.size then match x with
        | .slice none 0 0 => bif Nat.beq m 0 then some (x, s) else some (.slice (some ⟨s.n, 0, none⟩) m m, s.add l e)
        | .slice (some ⟨k, o, none⟩) n c =>
          bif Nat.beq m 0 then some (x, s)
          else bif Nat.ble (n + m) c then match writeAt s k (o + n * i.size) l with
            | some s' => some (.slice (some ⟨k, o, none⟩) (n + m) c, s')
            | none => none
          else bif Nat.beq o 0 && Nat.ble n 100000 then match s.h.get k with
            | some (.cells cs e') => bif Nat.beq e e' then match takeN (n * i.size) cs with
              | some old => some (.slice (some ⟨s.n, 0, none⟩) (n + m) (n + m), s.turn k (old ++ l) e)
              | none => none
              else none
            | _ => none
          else none
        | _ => none
        else none
      | none => none
    | _, _ => none
  | _ => none
def evBuildSlice (P : Program) (ρ : Operand → Value) (t n : Nat) (ps : Array (Nat × Operand)) (s : St) : Out :=
  match P.underlying t with
  | some (.slice e) => match P.info? e, zeroT P e with
    | some i, some z => bif Nat.beq n 0 && ps.isEmpty then some (.slice (some ⟨s.n, 0, none⟩) 0 0, s.add [] e)
      else bif Nat.ble (n * i.size) 100000 && Nat.blt 0 (n * i.size) && Nat.blt 0 z.length then
        match Instr.fill (fun j => some (j * i.size, i.size)) (rep z (n * i.size)).toArray (ps.toList.map fun p => (p.1, ρ p.2)) with
        | some c => some (.slice (some ⟨s.n, 0, none⟩) n n, s.add c.toList e)
        | none => none
      else none
    | _, _ => none
  | _ => none
def evBuild (P : Program) (ρ : Operand → Value) (t : TypeId) (ps : Array (Nat × Operand)) (s : St) : Out :=
  match zeroT P t, P.built t (ps.toList.map fun p => (p.1, ρ p.2)) with
  | some _, some cs => some (.agg cs, s)
  | _, _ => none
def evStore (P : Program) (ρ : Operand → Value) (t : TypeId) (a x : Operand) (s : St) : Out :=
  match ρ a, P.info? t with
  | .pointer (some ⟨k, o, none⟩), some i =>
    bif Nat.beq (ρ x).cells.size i.size then match writeAt s k o (ρ x).cells.toList with
      | some s' => some (undef, s')
      | none => none
    else none
  | _, _ => none
def evStoreT (P : Program) (ρ : Operand → Value) (t : TypeId) (a x : Operand) (c' : List Value) (s : St) : Out :=
  match ρ a, P.info? t with
  | .pointer (some ⟨k, o, none⟩), some i =>
    bif Nat.beq (ρ x).cells.size i.size && allB cell1 (ρ x).cells.toList then match s.h.get k with
      | some (.cells c t) => some (undef, (s.putK k c' t).told (dP (o + (ρ x).cells.toList.length ≤ c.length ∧ putN c o (ρ x).cells.toList = c')))
      | _ => none
    else none
  | _, _ => none
/-- Of what is appended: so many, these cells. -/
def srcT (P : Program) (s : St) (size : Nat) (tx : TypeId) (x : Value) : Option (Nat → List Value → Prop) :=
  match P.underlying tx, x with
  | some (.slice _), .slice (some ⟨k, o, none⟩) n _ => match s.h.get k with
    | some (.cells c _) => some fun m l => m = n ∧ takeN (n * size) (c.drop o) = some l ∧ allB cell1 l = true
    | some (.ro O) => some fun m l => m = n ∧ ((n * size = 0 ∧ l = []) ∨ (n * size ≠ 0 ∧ roRow O o (n * size) = some l ∧ allB atom l = true))
    | _ => none
  | _, _ => none
def appendT (P : Program) (s : St) (ts tx : TypeId) (x y : Value) (m : Nat) (l c : List Value) : Out :=
  match P.underlying ts with
  | some (.slice e) => match P.info? e, zeroT P e with
    | some i, some z => match srcT P s i.size tx y with
      | some p => bif Nat.ble i.bytes 1000 && Nat.beq z.length i.size then match x with
        | .slice none 0 0 => some (.slice (some ⟨s.n, 0, none⟩) m m, (s.add c e).told (dP (p m l ∧ 0 < m ∧ m ≤ 100000 ∧ l = c)))
        | .slice (some ⟨k, o, none⟩) n cp => bif Nat.beq o 0 then match s.h.get k with
          | some (.cells cs e') => bif Nat.beq e e' then some (.slice (some ⟨s.n, 0, none⟩) (n + m) (n + m), (s.turn k c e).told (dP (p m l ∧ 0 < m ∧ m ≤ 100000 ∧ cp < n + m ∧ n ≤ 100000 ∧ n * i.size ≤ cs.length ∧ cs.take (n * i.size) ++ l = c))) else none
          | _ => none
          else none
        | _ => none
        else none
      | none => none
    | _, _ => none
  | _ => none
/-- An append that finds room. -/
def appendTI (P : Program) (s : St) (ts tx : TypeId) (x y : Value) (m : Nat) (l c : List Value) : Out :=
  match P.underlying ts with
  | some (.slice e) => match P.info? e, zeroT P e with
    | some i, some z => match srcT P s i.size tx y with
      | some p => bif Nat.ble i.bytes 1000 && Nat.beq z.length i.size then match x with
        | .slice (some ⟨k, o, none⟩) n cp => match s.h.get k with
          | some (.cells cs e') => some (.slice (some ⟨k, o, none⟩) (n + m) cp, (s.putK k c e').told (dP ((p m l ∧ allB cell1 l = true) ∧ 0 < m ∧ m ≤ 100000 ∧ n + m ≤ cp ∧ (o + n * i.size + l.length ≤ cs.length ∧ putN cs (o + n * i.size) l = c))))
          | _ => none
        | _ => none
        else none
      | none => none
    | _, _ => none
  | _ => none
def appendT0 (P : Program) (s : St) (ts tx : TypeId) (x y : Value) : Out :=
  match P.underlying ts with
  | some (.slice e) => match P.info? e, zeroT P e with
    | some i, some z => match srcT P s i.size tx y with
      | some p => bif Nat.ble i.bytes 1000 && Nat.beq z.length i.size then match x with
        | .slice none 0 0 => some (x, s.told (dP (p 0 [])))
        | .slice (some ⟨_, _, none⟩) _ _ => some (x, s.told (dP (p 0 [])))
        | _ => none
        else none
      | none => none
    | _, _ => none
  | _ => none
def evFieldAddr (P : Program) (ρ : Operand → Value) (t : TypeId) (x : Operand) (f : Nat) (s : St) : Out :=
  match P.underlying t, ρ x with
  | some (.struct fs), .pointer (some ⟨k, o, none⟩) => match fs[f]? with
    | some f => match P.info? f.type with
      | some i => bif Nat.beq i.size 0 then none else some (.pointer (some ⟨k, o + f.offset, none⟩), s)
      | none => none
    | none => none
  | _, _ => none
def evField (P : Program) (ρ : Operand → Value) (t : TypeId) (x : Operand) (f : Nat) (s : St) : Out :=
  match P.underlying t, ρ x with
  | some (.struct fs), .agg cs => match fs[f]? with
    | some f => match partOf P f.type cs f.offset with | some v => some (v, s) | none => none
    | none => none
  | _, _ => none
def evIndex (P : Program) (ρ : Operand → Value) (t : TypeId) (x ix : Operand) (s : St) : Out :=
  match P.underlying t, ρ x, natOf (ρ ix) with
  | some (.array len e), .agg cs, some i => match P.info? e with
    | some ie => bif Nat.blt i len then match partOf P e cs (i * ie.size) with | some v => some (v, s) | none => none else none
    | none => none
  | _, _, _ => none
def evIndexAddr (P : Program) (ρ : Operand → Value) (t : TypeId) (x ix : Operand) (s : St) : Out :=
  match P.underlying t, ρ x, natOf (ρ ix) with
  | some (.slice e), .slice (some ⟨k, o, none⟩) n _, some i => match P.info? e with
    | some ie => bif Nat.blt i n then some (.pointer (some ⟨k, o + i * ie.size, none⟩), s) else none
    | none => none
  | some (.array n e), .pointer (some ⟨k, o, none⟩), some i => match P.info? e with
    | some ie => bif Nat.blt i n then some (.pointer (some ⟨k, o + i * ie.size, none⟩), s) else none
    | none => none
  | _, _, _ => none
/-- An index that is told. -/
def natTold (v : Value) (n : Nat) : Bool :=
  match v with
  | .int _ b => b == Int.ofNat n
  | _ => false
def evIndexAddrT (P : Program) (ρ : Operand → Value) (t : TypeId) (x ix : Operand) (i : Nat) (s : St) : Out :=
  match P.underlying t, ρ x with
  | some (.slice e), .slice (some ⟨k, o, none⟩) n _ => match P.info? e with
    | some ie => some (.pointer (some ⟨k, o + i * ie.size, none⟩), (s.told (natTold (ρ ix) i)).told (Nat.blt i n))
    | none => none
  | some (.array n e), .pointer (some ⟨k, o, none⟩) => match P.info? e with
    | some ie => some (.pointer (some ⟨k, o + i * ie.size, none⟩), (s.told (natTold (ρ ix) i)).told (Nat.blt i n))
    | none => none
  | _, _ => none
/-- A bound that is told. -/
def opTold (ρ : Operand → Value) (d : Nat) (x : Option Operand) (n : Nat) : Bool :=
  match x with
  | none => dP (d = n)
  | some x => natTold (ρ x) n
def evSliceT (P : Program) (ρ : Operand → Value) (t : TypeId) (x : Operand) (lo hi : Option Operand) (l h : Nat) (s : St) : Out :=
  match P.underlying t, ρ x with
  | some (.slice e), .slice (some ⟨k, o, none⟩) n c => match P.info? e with
    | some ie => bif Nat.blt 0 ie.size then some (.slice (some ⟨k, o + l * ie.size, none⟩) (h - l) (c - l), ((s.told (opTold ρ 0 lo l)).told (opTold ρ n hi h)).told (dP (l ≤ h ∧ h ≤ c))) else none
    | none => none
  | some (.slice e), .slice none 0 0 => match P.info? e with
    | some _ => some (.slice none 0 0, ((s.told (opTold ρ 0 lo l)).told (opTold ρ 0 hi h)).told (dP (l = 0 ∧ h = 0)))
    | none => none
  | _, _ => none
/-- The first h elements of a row of which no more is known: a new number stands for it. -/
def evCutT (P : Program) (ρ : Operand → Value) (t : TypeId) (x : Operand) (lo hi : Option Operand) (h : Nat) (c' : List Value) (s : St) : Out :=
  match P.underlying t, ρ x with
  | some (.slice e), .slice (some ⟨k, o, none⟩) n c => match P.info? e, s.h.get k with
    | some ie, some (.cells cs e') => bif Nat.beq e e' && Nat.beq o 0 then some (.slice (some ⟨s.n, 0, none⟩) h h, (((s.turn k c' e).told (opTold ρ 0 lo 0)).told (opTold ρ n hi h)).told (dP (h ≤ c ∧ 0 < ie.size ∧ c * ie.size ≤ cs.length ∧ cs.take (h * ie.size) = c'))) else none
    | _, _ => none
  | _, _ => none
def int64s (l : List Int) : List Value := l.map (Value.int .i64)
def cellV : Cell → Value
  | .i n => .int .i64 n
  | .b q => .bool q
  | .k kk n => .int kk n
  | .s x => .string x
  | .any => .chan (some 0)
def cellsV (l : List Cell) : List Value := l.map cellV
/-- Are these cells the told ones? -/
def sameC : List Value → List Cell → Bool
  | [], [] => true
  | .int .i64 a :: r, .i b :: l => (a == b) && sameC r l
  | .bool a :: r, .b b :: l => (a == b) && sameC r l
  | .int k a :: r, .k k' b :: l => (decide (k = k') && (a == b)) && sameC r l
  | .string a :: r, .s b :: l => dP (a = b) && sameC r l
  | v :: r, .any :: l => dP (v.oneCell' = true) && sameC r l
  | _, _ => false
def sameR (r : Option (List Value)) (l : List Cell) : Bool :=
  match r with
  | some c => sameC c l
  | none => false
def rowT (s : St) (k o m : Nat) : Option (List Value) :=
  match s.h.get k with
  | some (.cells c _) => takeN m (c.drop o)
  | some (.ro O) => roRow O o m
  | _ => none
def evLoadT (P : Program) (ρ : Operand → Value) (t : TypeId) (a : Operand) (l : List Cell) (s : St) : Out :=
  match ρ a with
  | .pointer (some ⟨k, o, none⟩) => match shapeT P t with
    | some (true, m) => some (.agg (cellsV l).toArray, s.told (sameR (rowT s k o m) l))
    | some (false, _) => match l with
      | [x] => some (cellV x, s.told (sameR (rowT s k o 1) l))
      | _ => none
    | none => none
  | _ => none
def evSlice (P : Program) (ρ : Operand → Value) (t : TypeId) (x : Operand) (lo hi : Option Operand) (s : St) : Out :=
  match P.underlying t, ρ x with
  | some (.slice e), .slice (some ⟨k, o, none⟩) n c => match P.info? e, opNat ρ 0 lo, opNat ρ n hi with
    | some ie, some l, some h => bif Nat.ble l h && Nat.ble h c && Nat.blt 0 ie.size then some (.slice (some ⟨k, o + l * ie.size, none⟩) (h - l) (c - l), s) else none
    | _, _, _ => none
  | some (.slice e), .slice none 0 0 => match P.info? e, opNat ρ 0 lo, opNat ρ 0 hi with
    | some _, some 0, some 0 => some (.slice none 0 0, s)
    | _, _, _ => none
  | some (.array n e), .pointer (some ⟨k, o, none⟩) => match P.info? e, opNat ρ 0 lo, opNat ρ n hi with
    | some ie, some l, some h => bif Nat.ble l h && Nat.ble h n && Nat.blt 0 ie.size then some (.slice (some ⟨k, o + l * ie.size, none⟩) (h - l) (n - l), s) else none
    | _, _, _ => none
  | _, _ => none
/-- A part of a string. -/
def evSliceS (P : Program) (ρ : Operand → Value) (t : TypeId) (x : Operand) (lo hi : Option Operand) (s : St) : Out :=
  match P.underlying t, ρ x, hi with
  | some .string, .string b, some y => match opNat ρ 0 lo, natOf (ρ y) with
    | some l, some h => bif Nat.ble l h then (match s.tst (Nat.ble h b.size) with
      | (true, s1) => some (.string (b.extract l h), s1)
      | (false, _) => none) else none
    | _, _ => none
  | _, _, _ => none
/-- Is x the same as y, of which one is nil? -/
def nilEq : Option TypeDesc → Value → Value → Option Bool
  | some (.pointer _), .pointer none, .pointer b => some b.isNone
  | some (.pointer _), .pointer _, .pointer none => some false
  | some (.slice _), .slice none _ _, .slice none _ _ => some true
  | some (.slice _), .slice none _ _, .slice (some _) _ c => bif nilToo && Nat.beq c 0 then none else some false
  | some (.slice _), .slice (some _) _ c, .slice none _ _ => bif nilToo && Nat.beq c 0 then none else some false
  | some (.func ..), .nilFunc, .func .. => some false
  | some (.func ..), .func .., .nilFunc => some false
  | _, _, _ => none
/-- Are two rows of fields the same? -/
def eqFs (P : Program) (g : TypeId → Value → Value → Option Bool) (xs ys : Array Value) : List Field → Option Bool
  | [] => some true
  | f :: fs => bif f.name == "_" then none else match partOf P f.type xs f.offset, partOf P f.type ys f.offset, eqFs P g xs ys fs with
    | some a, some b, some r => match g f.type a b with | some q => some (q && r) | none => none
    | _, _, _ => none
/-- Are two rows of elements the same? -/
def eqEs (P : Program) (g : Value → Value → Option Bool) (e : TypeId) (sz : Nat) (xs ys : Array Value) : Nat → Nat → Option Bool
  | 0, _ => some true
  | n + 1, i => match partOf P e xs (i * sz), partOf P e ys (i * sz), eqEs P g e sz xs ys n (i + 1) with
    | some a, some b, some r => match g a b with | some q => some (q && r) | none => none
    | _, _, _ => none
/-- Are two values of numbers the same? -/
def eqV (P : Program) : Nat → TypeId → Value → Value → Option Bool
  | 0, _, _, _ => none
  | d + 1, t, x, y => match P.underlying t, x, y with
    | some (.int _), .int k a, .int k' b => if k = k' then some (a == b) else none
    | some .bool, .bool a, .bool b => some (a == b)
    | some (.struct fs), .agg xs, .agg ys => bif P.stoodInHeld t then none else eqFs P (eqV P d) xs ys fs.toList
    | some (.array n e), .agg xs, .agg ys => match P.info? e with | some i => eqEs P (eqV P d e) e i.size xs ys n 0 | none => none
    | _, _, _ => none
def aggEq (P : Program) (t : TypeId) (x y : Value) : Option Bool :=
  match x, y with
  | .agg _, .agg _ => bif P.eqGuardType P.depth t then none else eqV P 8 t x y
  | _, _ => none
def evBin (P : Program) (ρ : Operand → Value) (o : Oper) (op : BinOp) (t : TypeId) (x y : Operand) (s : St) : Out :=
  match aggEq P t (ρ x) (ρ y), op with
  | some q, .eql => some (.bool q, s)
  | some q, .neq => some (.bool (!q), s)
  | _, _ => match general P ρ o s with
  | some r => some r
  | none => match nilEq (P.underlying t) (ρ x) (ρ y), op with
    | some q, .eql => some (.bool q, s)
    | some q, .neq => some (.bool (!q), s)
    | _, _ => none
/-- What is left, by a number of which it is told that it is not nothing. -/
def evRemT (ρ : Operand → Value) (x y : Operand) (s : St) : Out :=
  match ρ x, ρ y with
  | .int k a, .int k' b => some (.int k (Int.tmod a b), s.told (dP (k = k' ∧ b ≠ 0)))
  | _, _ => none
/-- A shift by a number that is told. -/
def evShT (ρ : Operand → Value) (op : BinOp) (x y : Operand) (n : Nat) (s : St) : Out :=
  match ρ x, ρ y, op with
  | .int k a, .int _ b, .shl => some (.int k (k.wrap (a * 2 ^ n)), s.told (dP (b = Int.ofNat n ∧ n ≤ k.bits)))
  | .int k a, .int _ b, .shr => some (.int k (a / 2 ^ n), s.told (dP (b = Int.ofNat n ∧ n ≤ k.bits)))
  | _, _, _ => none
/-- Two strings, one behind the other. -/
def evCat (ρ : Operand → Value) (x y : Operand) (s : St) : Out :=
  match ρ x, ρ y with
  | .string a, .string b => some (.string (a ++ b), s.told (dP (((a.size + b.size : Nat) : Int) ≤ IntKind.i64.max)))
  | _, _ => none
def evMakeSlice (P : Program) (ρ : Operand → Value) (t : TypeId) (l c : Operand) (s : St) : Out :=
  match P.underlying t, natOf (ρ l), natOf (ρ c) with
  | some (.slice e), some l, some c => match P.info? e, zeroT P e with
    | some i, some z => bif Nat.ble l c && Nat.ble c 100000 && Nat.ble i.bytes 1000 && Nat.blt 0 z.length then
        some (.slice (some ⟨s.n, 0, none⟩) l c, s.add (rep z (c * i.size)) e)
      else none
    | _, _ => none
  | _, _, _ => none
def evMakeT (P : Program) (ρ : Operand → Value) (t : TypeId) (l c : Operand) (n cp : Nat) (cs : List Value) (s : St) : Out :=
  match P.underlying t with
  | some (.slice e) => match P.info? e, zeroT P e with
    | some i, some z => bif Nat.ble i.bytes 1000 && Nat.blt 0 z.length then
        some (.slice (some ⟨s.n, 0, none⟩) n cp, (((s.add cs e).told (natTold (ρ l) n)).told (natTold (ρ c) cp)).told (dP (n ≤ cp ∧ cp ≤ 100000 ∧ rep z (cp * i.size) = cs)))
      else none
    | _, _ => none
  | _ => none
def bytesOf : List Value → Option (List Int)
  | [] => some []
  | .int .u8 n :: l => match bytesOf l with | some r => some (n :: r) | none => none
  | _ => none
/-- Bytes as a string. -/
def evConvert (P : Program) (ρ : Operand → Value) (a b : TypeId) (x : Operand) (s : St) : Out :=
  match P.underlying a, P.underlying b, ρ x with
  | some (.slice e), some .string, .slice (some ⟨k, o, none⟩) n _ => match P.underlying e, rowAt s k o n with
    | some (.int .u8), some l => match bytesOf l with
      | some ns => some (.string (ns.foldl (fun r n => r.push (UInt8.ofNat n.toNat)) ByteArray.empty), s)
      | none => none
    | _, _ => none
  | some (.pointer t), some .unsafePointer, .pointer (some ⟨k, o, none⟩) => match P.info? t, rowAt s k o 1 with
    | some i, some [_] => bif Nat.beq i.size 0 then none else some (.pointer (some ⟨k, o, none⟩), s)
    | _, _ => none
  | _, _, _ => none
/-- Bytes as a string, of which it is told which bytes they are. -/
def evConvertT (P : Program) (ρ : Operand → Value) (a b : TypeId) (x : Operand) (ns : List Int) (s : St) : Out :=
  match P.underlying a, P.underlying b, ρ x with
  | some (.slice e), some .string, .slice (some ⟨k, o, none⟩) n _ => match P.underlying e with
    | some (.int .u8) => some (.string (ns.foldl (fun r n => r.push (UInt8.ofNat n.toNat)) ByteArray.empty), s.told (dP (rowS s k o n = some (ns.map (Value.int .u8)))))
    | _ => none
  | _, _, _ => none
/-- sync/atomic: 0 Load, 1 Store, 2 Add, 3 CompareAndSwap. -/
def evAtomic (kk : IntKind) (e : Nat) (args : Array Value) (s : St) : Out :=
  match args.toList with
  | .pointer (some ⟨k, o, none⟩) :: r => match rowAt s k o 1 with
    | some [.int ck v] => if ck = kk then match e, r with
      | 0, [] => some (.int kk v, s)
      | 1, [.int xk x] => if xk = kk then (match writeAt s k o [.int kk x] with | some s' => some (.tuple #[], s') | none => none) else none
      | 2, [.int xk d] => if xk = kk then (match writeAt s k o [.int kk (kk.wrap (v + d))] with | some s' => some (.int kk (kk.wrap (v + d)), s') | none => none) else none
      | 3, [.int xk x, .int yk y] => if xk = kk ∧ yk = kk then (match s.tst (v == x) with
        | (true, s1) => match writeAt s1 k o [.int kk y] with | some s' => some (.bool true, s') | none => none
        | (false, s1) => some (.bool false, s1)) else none
      | _, _ => none
      else none
    | _ => none
  | _ => none
/-- The same at a place that is not known. -/
def evAtomicT (kk : IntKind) (e : Nat) (args : Array Value) (v : Int) (c' : List Value) (s : St) : Out :=
  match args.toList with
  | .pointer (some ⟨k, o, none⟩) :: r => match s.h.get k with
    | some (.cells c t) => match e, r with
      | 0, [] => some (.int kk v, s.told (dP (takeN 1 (c.drop o) = some [.int kk v])))
      | 1, [.int xk x] => if xk = kk then some (.tuple #[], (s.putK k c' t).told (dP (takeN 1 (c.drop o) = some [.int kk v] ∧ o + 1 ≤ c.length ∧ putN c o [.int kk x] = c'))) else none
      | 2, [.int xk d] => if xk = kk then some (.int kk (kk.wrap (v + d)), (s.putK k c' t).told (dP (takeN 1 (c.drop o) = some [.int kk v] ∧ o + 1 ≤ c.length ∧ putN c o [.int kk (kk.wrap (v + d))] = c'))) else none
      | 3, [.int xk x, .int yk y] => if xk = kk ∧ yk = kk then (match (s.told (dP (takeN 1 (c.drop o) = some [.int kk v]))).tst (v == x) with
        | (true, s1) => some (.bool true, (s1.putK k c' t).told (dP (o + 1 ≤ c.length ∧ putN c o [.int kk y] = c')))
        | (false, s1) => some (.bool false, s1)) else none
      | _, _ => none
    | _ => none
  | _ => none
/-- internal/race: a mark. -/
def evMark (n : Nat) (args : Array Value) (s : St) : Out :=
  match n, args.toList with
  | 0, [] => some (.tuple #[], s)
  | 1, [.pointer (some ⟨_, _, none⟩)] => some (.tuple #[], s)
  | _, _ => none
/-! Maps, their keys numbers. -/
def lookE (q : IntKind) (k : Value) (es : List MapEntry) : Option (Option Value) :=
  match Instr.findNow (.int q) k es 0 with
  | some (some r) => some (some r.2)
  | some none => some none
  | none => none
def putE (q : IntKind) (k x : Value) (es : List MapEntry) : Option (List MapEntry) :=
  match Instr.findNow (.int q) k es 0 with
  | some none => some (es ++ [⟨k, x, 0⟩])
  | some (some r) => some (es.modify r.1 fun e => ⟨k, x, e.born⟩)
  | none => none
def plainT (P : Program) (t : TypeId) : Bool :=
  match P.underlying t with
  | some (.int _) | some .bool | some .string => true
  | _ => false
def keyOk (P : Program) (cs : Array Value) : List Field → Bool
  | [] => true
  | f :: fs => (f.name == "_" || (plainT P f.type && (partOf P f.type cs f.offset).isSome)) && keyOk P cs fs
def findEq (P : Program) (kt : TypeId) (k : Value) : List MapEntry → Nat → Option (Option (Nat × Value))
  | [], _ => some none
  | e :: es, i => bif free1 e.key then match aggEq P kt k e.key with
    | some true => some (some (i, e.val))
    | some false => findEq P kt k es (i + 1)
    | none => none
    else none
/-- The entry of a key: of a number, a string, a struct of them. -/
def findM (P : Program) (kt : TypeId) (k : Value) (es : List MapEntry) : Option (Option (Nat × Value)) :=
  match P.underlying kt with
  | some (.int q) => Instr.findNow (.int q) k es 0
  | some .string => Instr.findNow .string k es 0
  | some (.struct fs) => match k with
    | .agg cs => bif keyOk P cs fs.toList then findEq P kt k es 0 else none
    | _ => none
  | _ => none
def putM (P : Program) (kt : TypeId) (k x : Value) (es : List MapEntry) : Option (List MapEntry) :=
  match findM P kt k es with
  | some none => some (es ++ [⟨k, x, 0⟩])
  | some (some r) => bif Instr.sameBits 10000 (((es[r.1]?).map (·.key)).getD k) k then some (es.modify r.1 fun e => ⟨k, x, e.born⟩) else none
  | none => none
def zeroW (P : Program) (t : TypeId) : Option Value :=
  match P.info? t with
  | some i => match i.zero with
    | some z => bif free1 z then some z else none
    | none => none
  | none => none
def lookV (z : Value) (ok : Bool) (r : Option Value) : Value :=
  match ok with
  | true => .tuple #[r.getD z, .bool r.isSome]
  | false => r.getD z
def free1O : Option Value → Bool
  | some v => free1 v
  | none => true
/-- A map's entries. -/
def entsAt (s : St) : Value → Option (List MapEntry)
  | .map none => some []
  | .map (some k) => match s.h.get k with
    | some (.ro (.map es _) true) => some es.toList
    | _ => none
  | _ => none
def evLookup (P : Program) (ρ : Operand → Value) (t : TypeId) (x ix : Operand) (ok : Bool) (s : St) : Out :=
  match P.underlying t with
  | some (.map kt et) => match zeroW P et, entsAt s (ρ x) with
    | some z, some es => bif free1 (ρ ix) then match findM P kt (ρ ix) es with
      | some r => bif free1O (r.map (·.2)) then some (lookV z ok (r.map (·.2)), s) else none
      | none => none
      else none
    | _, _ => none
  | _ => none
def evLookupT (P : Program) (ρ : Operand → Value) (t : TypeId) (x ix : Operand) (ok : Bool) (r : Option Value) (s : St) : Out :=
  match P.underlying t with
  | some (.map kt et) => match P.underlying kt, zeroW P et, entsAt s (ρ x) with
    | some (.int q), some z, some es => bif atom (ρ ix) && free1O r then some (lookV z ok r, s.told (dP (lookE q (ρ ix) es = some r))) else none
    | _, _, _ => none
  | _ => none
def evUpdate (P : Program) (ρ : Operand → Value) (t : TypeId) (m k x : Operand) (s : St) : Out :=
  match P.underlying t, ρ m with
  | some (.map kt _), .map (some b) => match entsAt s (.map (some b)) with
    | some es => bif free1 (ρ k) && free1 (ρ x) then match putM P kt (ρ k) (ρ x) es with
      | some l => some (undef, s.putM b (.map l.toArray 0))
      | none => none
      else none
    | none => none
  | _, _ => none
def evUpdateT (P : Program) (ρ : Operand → Value) (t : TypeId) (m k x : Operand) (l : List MapEntry) (s : St) : Out :=
  match P.underlying t, ρ m with
  | some (.map kt _), .map (some b) => match P.underlying kt, entsAt s (.map (some b)) with
    | some (.int q), some es => bif atom (ρ k) && free1 (ρ x) then some (undef, (s.putM b (.map l.toArray 0)).told (dP (putE q (ρ k) (ρ x) es = some l))) else none
    | _, _ => none
  | _, _ => none
def evMakeMap (P : Program) (ρ : Operand → Value) (t : TypeId) (r : Option Operand) (s : St) : Out :=
  match r with
  | none => some (.map (some s.n), s.addM (.map #[] 0))
  | some x => match P.underlying t, ρ x with
    | some (.map _ _), .int _ _ => some (.map (some s.n), s.addM (.map #[] 0))
    | _, _ => none
def evDelete (P : Program) (s : St) (t : TypeId) (x k : Value) : Out :=
  match P.underlying t, x with
  | some (.map kt _), .map (some b) => match entsAt s (.map (some b)) with
    | some es => bif free1 k then match findM P kt k es with
      | some (some r) => some (.tuple #[], s.putM b (.map (es.eraseIdx r.1).toArray 0))
      | some none => some (.tuple #[], s.putM b (.map es.toArray 0))
      | none => none
      else none
    | none => none
  | _, _ => none
def evClear (P : Program) (s : St) (t : TypeId) (x : Value) : Out :=
  match P.underlying t, x with
  | some (.map _ _), .map none => some (.tuple #[], s)
  | some (.map _ _), .map (some b) => match entsAt s (.map (some b)) with
    | some _ => some (.tuple #[], s.putM b (.map #[] 0))
    | none => none
  | _, _ => none
/-- The function and the arguments of a call of a function with a body. -/
def callee (ρ : Operand → Value) (c : Call) : Option (FuncId × Array Value) :=
  match c.callee with
  | .value f => match ρ f with
    | .func (.func f) a b => some (f, a ++ c.args.map ρ ++ b)
    | _ => none
  | _ => none
def evBuiltin (P : Program) (ρ : Operand → Value) (o : Oper) (c : Call) (b : Builtin) (s : St) : Out :=
  match b with
  | .append => match c.argTypes.toList, c.args.toList with
    | [t, tx], [x, y] => match s.nextW with
      | (some (.ap m l c), s1) => appendT P s1 t tx (ρ x) (ρ y) m l c
      | (some (.api m l c), s1) => appendTI P s1 t tx (ρ x) (ρ y) m l c
      | (some .ap0, s1) => appendT0 P s1 t tx (ρ x) (ρ y)
      | (some _, _) => none
      | (none, s1) => appendTo P s1 t tx (ρ x) (ρ y)
    | _, _ => none
  | .len => match c.argTypes.toList, c.args.toList with
    | [t], [x] => match P.underlying t, ρ x with
      | some (.slice _), .slice (some _) n _ => some (goInt n, s)
      | some (.map _ _), .map (some b) => match entsAt s (.map (some b)) with
        | some es => some (goInt es.length, s)
        | none => none
      | _, _ => general P ρ o s
    | _, _ => none
  | .delete => match c.argTypes.toList, c.args.toList with
    | [t, _], [x, k] => evDelete P s t (ρ x) (ρ k)
    | _, _ => none
  | .clear => match c.argTypes.toList, c.args.toList with
    | [t], [x] => evClear P s t (ρ x)
    | _, _ => none
  | _ => general P ρ o s
def evSl (P : Program) (ρ : Operand → Value) (o : Oper) (t : TypeId) (x : Operand) (lo hi : Option Operand) (s : St) : Out :=
  match s.nextW with
  | (some (.sl l h), s1) => evSliceT P ρ t x lo hi l h s1
  | (some (.cut h c), s1) => evCutT P ρ t x lo hi h c s1
  | (some _, _) => none
  | (none, s1) => match evSlice P ρ t x lo hi s1 with | some r => some r | none => match evSliceS P ρ t x lo hi s1 with | some r => some r | none => general P ρ o s1
/-- An operation that enters no function. -/
def ev1 (P : Program) (ρ : Operand → Value) (o : Oper) (s : St) : Out :=
  match o.op with
  | .move x | .assign x => some (ρ x, s)
  | .pick c a b => match ρ c with
    | .bool t => match t with
      | true => some (ρ a, s)
      | false => some (ρ b, s)
    | _ => none
  | .alloc t => match zeroT P t with | some z => some (at0 s.n, s.add z t) | none => none
  | .box t x => some (at0 s.n, s.add (ρ x).cells.toList t)
  | .build t ps => evBuild P ρ t ps s
  | .buildSlice t n ps => evBuildSlice P ρ t n ps s
  | .load t a => match s.nextL with
    | (some l, s1) => evLoadT P ρ t a l s1
    | (none, s1) => match ρ a with
      | .pointer (some ⟨k, o, none⟩) => match readAt P s1 t k o with | some v => some (v, s1) | none => none
      | _ => none
  | .store t a x => match s.nextW with
    | (some (.st c), s1) => evStoreT P ρ t a x c s1
    | (some _, _) => none
    | (none, s1) => evStore P ρ t a x s1
  | .nilCheck x => match ρ x with
    | .pointer (some a) => some (.pointer (some a), s)
    | .func (.func f) a b => some (.func (.func f) a b, s)
    | _ => none
  | .fieldAddr t x f => evFieldAddr P ρ t x f s
  | .field t x f => evField P ρ t x f s
  | .index t x ix => match evIndex P ρ t x ix s with | some r => some r | none => general P ρ o s
  | .indexAddr t x ix => match s.nextX with
    | (some n, s1) => evIndexAddrT P ρ t x ix n s1
    | (none, s1) => evIndexAddr P ρ t x ix s1
  | .extract x i => match ρ x with | .tuple vs => (match (vs[i]? : Option Value) with | some v => some (v, s) | none => none) | _ => none
  | .slice t x lo hi mx => match mx with
    | none => evSl P ρ o t x lo hi s
    | some _ => none
  | .binOp .rem t x y _ => match s.nextW with
    | (some .dv, s1) => evRemT ρ x y s1
    | (some _, _) => none
    | (none, s1) => evBin P ρ o .rem t x y s1
  | .binOp .shl t x y _ => match s.nextW with
    | (some (.sh n), s1) => evShT ρ .shl x y n s1
    | (some _, _) => none
    | (none, s1) => evBin P ρ o .shl t x y s1
  | .binOp .shr t x y _ => match s.nextW with
    | (some (.sh n), s1) => evShT ρ .shr x y n s1
    | (some _, _) => none
    | (none, s1) => evBin P ρ o .shr t x y s1
  | .binOp .add t x y _ => match ρ x with
    | .string _ => evCat ρ x y s
    | _ => evBin P ρ o .add t x y s
  | .binOp op t x y _ => evBin P ρ o op t x y s
  | .makeSlice t l c => match s.nextW with
    | (some (.mk n cp cs), s1) => evMakeT P ρ t l c n cp cs s1
    | (some _, _) => none
    | (none, s1) => evMakeSlice P ρ t l c s1
  | .makeFunc fn a b => some (.func fn (a.map ρ) (b.map ρ), s)
  | .makeMap t r => evMakeMap P ρ t r s
  | .lookup t x ix ok => match s.nextW with
    | (some (.lk r), s1) => evLookupT P ρ t x ix ok r s1
    | (some _, _) => none
    | (none, s1) => evLookup P ρ t x ix ok s1
  | .mapUpdate t m k x => match s.nextW with
    | (some (.mp l), s1) => evUpdateT P ρ t m k x l s1
    | (some _, _) => none
    | (none, s1) => evUpdate P ρ t m k x s1
  | .unOp .. => general P ρ o s
  | .makeInterface .. => general P ρ o s
  | .convert a b x => match ρ x with
    | .slice (some _) _ _ => match s.nextW with
      | (some (.bs ns), s1) => evConvertT P ρ a b x ns s1
      | (some _, _) => none
      | (none, s1) => evConvert P ρ a b x s1
    | _ => match evConvert P ρ a b x s with | some r => some r | none => general P ρ o s
  | .call c => match c.callee with
    | .builtin b => evBuiltin P ρ o c b s
    | _ => none
  | _ => none
/-- A test's answer, where it is told. -/
def fixB (o : Oper) (v : Value) (s : St) : Value × St :=
  match o.op, v with
  | .binOp .., .bool t | .unOp .., .bool t | .load .., .bool t | .field .., .bool t | .index .., .bool t => match s.tst t with | (b, s') => (.bool b, s')
  | .binOp .., .int k x | .unOp .., .int k x | .convert .., .int k x => match s.vst x with | (y, s') => (.int k y, s')
  | _, _ => (v, s)
/-- Is it a call of a function? -/
def isCall (o : Oper) : Option Call :=
  match o.op with
  | .call c => match c.callee with
    | .value _ => some c
    | .invoke _ _ => some c
    | _ => none
  | _ => none
/-- The same, and a call of a value's method. -/
def calleeI (P : Program) (ρ : Operand → Value) (c : Call) : Option (FuncId × Array Value) :=
  match c.callee with
  | .invoke r name => match ρ r with
    | .iface t v => bif free1 v then match prun P (method (P.types.size + Made.depth) t v name) with
      | some (f, x) => bif free1 x then some (f, #[x] ++ c.args.map ρ) else none
      | none => none
      else none
    | _ => none
  | _ => callee ρ c

def wantedT (ops : Array Oper) (T : Tr Value) (o : Oper) (s : St) : Option (Bool × St) :=
  match o.guard with
  | none => some (true, s)
  | some (j, want) => match (ops[j]?).bind (·.dst) with
    | some d => match T.get d with
      | some (.bool b) => some (b == want, s)
      | some (.tuple _) => some (false, s)
      | _ => none
    | none => none
def putT (T : Tr Value) (dst : Option Tmp) (v : Value) : Tr Value := match dst with | some d => T.set d (some v) | none => T
inductive Ex where | normal | exit (id : Nat) | ret
def argsT : Nat → List Value → Tr Value → Tr Value
  | _, [], T => T
  | i, v :: l, T => argsT (i + 1) l (T.set i (some v))
def resultsT (P : Program) (T : Tr Value) (s : St) : List ResultVar → Option (List Value)
  | [] => some []
  | .tmp t :: l => match resultsT P T s l with | some r => some ((T.get t).getD undef :: r) | none => none
  | .cell a t :: l => match (T.get a).getD undef with
    | .pointer (some ⟨k, o, none⟩) => match readAt P s t k o, resultsT P T s l with
      | some v, some r => some (v :: r)
      | _, _ => none
    | _ => none
def okDst (nt : Nat) : Option Tmp → Bool
  | none => true
  | some d => Nat.blt d nt
/-! ### A region that draws its order: each operation is run on what it touches alone, and those that may change places must not meet -/
/-- A function that is not entered: an atomic operation, a mark, one of which it is known what it hands back, one of which it is known what it does. -/
inductive Ext where
  | at (k : IntKind) (e : Nat)
  | mark (n : Nat)
  | fn (g : List Value → Option Value)
  | hp (g : Array Value → St → Out)
  | tc (S : Array Value → List (Nat × AObj) → Value → List (Nat × Option AObj) → Nat → Nat → Prop)
def AObj.sameAs (o : Option AObj) (p : AObj) : Bool :=
  match o, p with
  | some (.cells c t), .cells c' t' => bif Nat.beq t t' then dP (c = c') else false
  | some (.ro O), .ro O' => dP (O = O')
  | some (.ro O true), .ro O' true => dP (O = O')
  | _, _ => false
/-- The first entry of a number. -/
def look {α : Type} (k : Nat) : List (Nat × α) → Option α
  | [] => none
  | x :: l => bif Nat.beq x.1 k then some x.2 else look k l
/-- Blocks behind a call: as told, or as ahead of it. -/
def behind (pre : List (Nat × AObj)) (post : List (Nat × Option AObj)) (k : Nat) : Option AObj :=
  match look k post with
  | some o => o
  | none => look k pre
def keysOk (pre : List (Nat × AObj)) (n n' : Nat) : List (Nat × Option AObj) → Bool
  | [] => true
  | x :: l => ((look x.1 pre).isSome || (x.2.isSome && (Nat.ble n x.1 && Nat.blt x.1 n'))) && keysOk pre n n' l
def putsT (h : Tr AObj) : List (Nat × Option AObj) → Tr AObj
  | [] => h
  | x :: l => (putsT h l).set x.1 x.2
def tellPre (s : St) : List (Nat × AObj) → List (Bool × Bool)
  | [] => s.ob
  | x :: l => (AObj.sameAs (s.h.get x.1) x.2, true) :: tellPre s l
/-- A call that is told; S: what is to be known of it. -/
def evTC (S : Array Value → List (Nat × AObj) → Value → List (Nat × Option AObj) → Nat → Nat → Prop) (args : Array Value) (pre : List (Nat × AObj)) (v : Value) (post : List (Nat × Option AObj)) (dn : Nat) (s : St) : Out :=
  bif keysOk pre s.n (s.n + dn) post && allB (fun x => Nat.blt x.1 s.n) pre then
    some (v, ⟨putsT s.h post, s.n + dn, post.map (·.1) ++ s.wr, s.orc, (dP (S args pre v post s.n dn), true) :: tellPre s pre⟩)
  else none
def evFn (g : List Value → Option Value) (args : Array Value) (s : St) : Out :=
  bif allB free args.toList then match g args.toList with
    | some v => bif free v then some (v, s) else none
    | none => none
  else none
/-- Does it enter a function's body? -/
def isBig (ext : FuncId → Option Ext) (ρ : Operand → Value) (o : Oper) : Bool :=
  match isCall o with
  | some c => match callee ρ c with
    | some (f, _) => (match ext f with | none => true | some (.hp _) => true | some (.tc _) => true | _ => false)
    | none => true
  | none => false
structure Rec where
  small : Bool
  w : Bool
  t : List Nat
  n0 : Nat
  n1 : Nat
  q : List Nat
/-- An operation that was run: its number's ways back, what it touched, the temporaries and the state ahead, its value, the state behind. -/
structure Ent where
  o : Oper
  m : Nat
  r : Rec
  T : Tr Value
  s : St
  v : Value
  s' : St
def idOf : Value → List Nat
  | .pointer (some a) => [a.block]
  | .slice (some a) _ _ => [a.block]
  | .map (some k) => [k]
  | _ => []
def isMapV : Value → Bool
  | .map _ => true
  | _ => false
/-- Does it write? Which blocks does it touch? -/
def touches (s : St) (ρ : Operand → Value) (o : Oper) : Bool × List Nat :=
  match o.op with
  | .slice _ x _ _ _ => match s.orc.w with
    | some (.cut _ _) :: _ => (true, idOf (ρ x))
    | _ => (false, [])
  | .convert _ _ x => (false, idOf (ρ x))
  | .load _ a => (false, idOf (ρ a))
  | .lookup _ x _ _ => (false, idOf (ρ x))
  | .mapUpdate _ m _ _ => (true, idOf (ρ m))
  | .store _ a _ => (true, idOf (ρ a))
  | .call c => match c.callee with
    | .builtin .append => match c.args.toList with
      | [x, _] => (true, idOf (ρ x))
      | _ => (true, [])
    | .builtin .clear => match c.args.toList with
      | x :: _ => (true, idOf (ρ x))
      | [] => (true, [])
    | .builtin .delete => match c.args.toList with
      | x :: _ => (true, idOf (ρ x))
      | [] => (true, [])
    | .builtin .len => match c.args.toList with
      | x :: _ => (false, bif isMapV (ρ x) then idOf (ρ x) else [])
      | [] => (false, [])
    | .builtin _ => (false, [])
    | _ => match c.args.toList with
      | x :: _ => (true, idOf (ρ x))
      | [] => (true, [])
  | _ => (false, [])
/-- Which blocks does it read beside? -/
def readsOf (ρ : Operand → Value) (o : Oper) : List Nat :=
  match o.op with
  | .call c => match c.callee with
    | .builtin .append => match c.args.toList with
      | [_, y] => idOf (ρ y)
      | _ => []
    | _ => []
  | _ => []
def pickK (h : Tr AObj) : List Nat → Tr AObj
  | [] => .nil
  | k :: l => (pickK h l).set k (h.get k)
def backK (r : Tr AObj) : List Nat → Tr AObj → Tr AObj
  | [], h => h
  | k :: l, h => (backK r l h).set k (r.get k)
def memN (k : Nat) : List Nat → Bool
  | [] => false
  | x :: l => Nat.beq k x || memN k l
def apartN (a b : List Nat) : Bool := allB (fun k => !memN k b) a
def noneIn (n0 n1 : Nat) (l : List Nat) : Bool := allB (fun k => !(Nat.ble n0 k && Nat.blt k n1)) l
def belowN (n : Nat) : List Nat → List Nat
  | [] => []
  | k :: l => bif Nat.blt k n then k :: belowN n l else belowN n l
/-- May a (which stands first in the text) and b change places? -/
def compat (a b : Rec) : Bool :=
  match a.small, b.small with
  | true, true => (!(a.w || b.w) || apartN a.t b.t) && noneIn a.n0 a.n1 b.t && ((!b.w || apartN a.q b.t) && (!a.w || apartN a.t b.q) && noneIn a.n0 a.n1 b.q)
  | true, false => !a.w && Nat.beq a.n0 a.n1 && apartN a.t b.t && apartN a.q b.t
  | false, true => !b.w && apartN a.t b.t && noneIn a.n0 a.n1 b.t && (apartN a.t b.q && noneIn a.n0 a.n1 b.q)
  | false, false => false
/-- Which operations stand ahead of it in every order. -/
def orMasks (done : List Ent) : List Edge → Nat
  | [] => 0
  | e :: l => bif Region.binds .any e then (2 ^ e.on ||| (match done[e.on]? with | some d => d.m | none => 0)) ||| orMasks done l else orMasks done l
def tmpsOf : List Operand → List Tmp
  | [] => []
  | .tmp t :: l => t :: tmpsOf l
  | _ :: l => tmpsOf l
def pickT (T : Tr Value) : List Tmp → Tr Value
  | [] => .nil
  | t :: l => (pickT T l).set t (T.get t)
def okEdges (i : Nat) : List Edge → Bool
  | [] => true
  | e :: l => (!Region.binds .any e || Nat.blt e.on i) && okEdges i l
/-- The new one against all that stand ahead of it. -/
def okPairs (ops : Array Oper) (o : Oper) (r : Rec) (m : Nat) : Nat → List Ent → Bool
  | _, [] => true
  | j, d :: l => (m.testBit j || (Oper.apart ops d.o o && compat d.r r)) && okPairs ops o r m (j + 1) l
def rec0 (s : St) : Rec := ⟨true, false, [], s.n, s.n, []⟩
mutual
def evCode (P : Program) (ext : FuncId → Option Ext) (nt : Nat) : Nat → Code → Tr Value → St → Option (Ex × Tr Value × St)
  | 0, _, _, _ => none
  | fu + 1, c, T, s => match c with
    | .skip => some (.normal, T, s)
    | .label _ => some (.normal, T, s)
    | .scope c => evCode P ext nt fu c T s
    | .ret => some (.ret, T, s)
    | .exit id => some (.exit id, T, s)
    | .seq a b => match evCode P ext nt fu a T s with
      | some (.normal, T', s') => evCode P ext nt fu b T' s'
      | some (.exit i, T', s') => some (.exit i, T', s')
      | some (.ret, T', s') => some (.ret, T', s')
      | none => none
    | .cond x a b => match opnd T x with
      | .bool t => match t with
        | true => evCode P ext nt fu a T s
        | false => evCode P ext nt fu b T s
      | _ => none
    | .block id a => match evCode P ext nt fu a T s with
      | some (.exit i, T', s') => bif Nat.beq i id then some (.normal, T', s') else some (.exit i, T', s')
      | some (.normal, T', s') => some (.normal, T', s')
      | some (.ret, T', s') => some (.ret, T', s')
      | none => none
    | .loop a => match evCode P ext nt fu a T s with
      | some (.normal, T', s') => evCode P ext nt fu (.loop a) T' s'
      | some (.exit i, T', s') => some (.exit i, T', s')
      | some (.ret, T', s') => some (.ret, T', s')
      | none => none
    | .region _ ops draw => bif draw then match evDraw P ext nt fu ops [] ops.toList T s with
        | some (_, T', s') => some (.normal, T', s')
        | none => none
      else match evOps P ext nt fu ops ops.toList T s with
      | some (T', s') => some (.normal, T', s')
      | none => none
    | _ => none
termination_by structural fu _ _ _ => fu
def evOps (P : Program) (ext : FuncId → Option Ext) (nt : Nat) : Nat → Array Oper → List Oper → Tr Value → St → Option (Tr Value × St)
  | 0, _, _, _, _ => none
  | _ + 1, _, [], T, s => some (T, s)
  | fu + 1, ops, o :: l, T, s =>
    bif okDst nt o.dst && allB goodOp o.op.operands.toList then
      match wantedT ops T o s with
      | some (true, s1) => match evOp P ext fu (opnd T) o s1 with
        | some (v, s') => s'.keep fun s' => evOps P ext nt fu ops l (putT T o.dst v) s'
        | none => none
      | some (false, s1) => evOps P ext nt fu ops l (putT T o.dst undef) s1
      | none => none
    else none
termination_by structural fu _ _ _ _ => fu
def evDraw (P : Program) (ext : FuncId → Option Ext) (nt : Nat) : Nat → Array Oper → List Ent → List Oper → Tr Value → St → Option (List Ent × Tr Value × St)
  | 0, _, _, _, _, _ => none
  | _ + 1, _, done, [], T, s => some (done, T, s)
  | fu + 1, ops, done, o :: l, T, s =>
    bif okDst nt o.dst && allB goodOp o.op.operands.toList && okEdges done.length o.after.toList then
      match wantedT ops T o s with
      | some (true, s1) => match evOne P ext fu (opnd (pickT T (tmpsOf o.op.operands.toList))) o s1 with
        | some (v, s', r) => s'.keep fun s' => bif okPairs ops o r (orMasks done o.after.toList) 0 done then evDraw P ext nt fu ops (done ++ [⟨o, orMasks done o.after.toList, r, T, s1, v, s'⟩]) l (putT T o.dst v) s' else none
        | none => none
      | some (false, s1) => bif okPairs ops o (rec0 s1) (orMasks done o.after.toList) 0 done then evDraw P ext nt fu ops (done ++ [⟨o, orMasks done o.after.toList, rec0 s1, T, s1, undef, s1⟩]) l (putT T o.dst undef) s1 else none
      | none => none
    else none
termination_by structural fu _ _ _ _ _ => fu
def evOne (P : Program) (ext : FuncId → Option Ext) : Nat → (Operand → Value) → Oper → St → Option (Value × St × Rec)
  | 0, _, _, _ => none
  | fu + 1, ρ, o, s =>
    match isBig ext ρ o with
    | true => match evOp P ext fu ρ o ⟨s.h, s.n, [], s.orc, s.ob⟩ with
      | some (v, s') => bif allB (fun k => Nat.blt k s'.n) s'.wr then some (v, ⟨s'.h, s'.n, s'.wr ++ s.wr, s'.orc, s'.ob⟩, ⟨false, true, belowN s.n s'.wr, s.n, s'.n, []⟩) else none
      | none => none
    | false => match touches s ρ o with
      | (w, t) => bif allB (fun k => Nat.blt k s.n) t && allB (fun k => Nat.blt k s.n) (readsOf ρ o) then match evOp P ext fu ρ o ⟨pickK s.h (t ++ readsOf ρ o), s.n, [], s.orc, s.ob⟩ with
          | some (v, s') => bif allB (fun k => w && memN k t) s'.wr && Nat.ble s'.n (s.n + 1) then some (v, ⟨(bif w then backK s'.h t s.h else s.h).set s.n (bif Nat.beq s'.n s.n then s.h.get s.n else s'.h.get s.n), s'.n, s'.wr ++ s.wr, s'.orc, s'.ob⟩, ⟨true, w, t, s.n, s'.n, readsOf ρ o⟩) else none
          | none => none
        else none
termination_by structural fu _ _ _ => fu
def evOp (P : Program) (ext : FuncId → Option Ext) : Nat → (Operand → Value) → Oper → St → Out
  | 0, _, _, _ => none
  | fu + 1, ρ, o, s => match isCall o with
    | some c => match calleeI P ρ c with
      | some (f, args) => match ext f with
        | some (.at k e) => match s.nextW with
          | (some (.at v c), s1) => evAtomicT k e args v c s1
          | (some _, _) => none
          | (none, s1) => evAtomic k e args s1
        | some (.mark n) => evMark n args s
        | some (.hp g) => g args s
        | some (.tc S) => match s.nextW with
          | (some (.call pre v post dn), s1) => evTC S args pre v post dn s1
          | _ => none
        | some (.fn g) => evFn g args s
        | none => evCall P ext fu f args s
      | none => none
    | none => match ev1 P ρ o s with
      | some (v, s1) => some (fixB o v s1)
      | none => none
termination_by structural fu _ _ _ => fu
def evCall (P : Program) (ext : FuncId → Option Ext) : Nat → FuncId → Array Value → St → Out
  | 0, _, _, _ => none
  | fu + 1, f, args, s => match P.funcs[f]? with
    | some fn => match fn.body with
      | some c => bif Nat.ble args.size fn.ntmps then match evCode P ext fn.ntmps fu c (argsT 0 args.toList .nil) s with
        | some (.exit _, _, _) => none
        | some (_, T, s') => match resultsT P T s' fn.results.toList with
          | some [v] => some (v, s')
          | some vs => some (.tuple vs.toArray, s')
          | none => none
        | none => none
        else none
      | none => none
    | none => none
termination_by structural fu _ _ _ => fu
end
def res (r : Out) : Option Bool := match r with | some (.bool b, s) => (match s.ob with | [] => some b | _ => none) | _ => none
end
end Ev
end Go.Proofs.YtldlnclkdgfahaaGreat
