/- A runner over a store of its own: blocks have numbers of their own, temporaries lie in a tree. -/
import Derived.Test.YtgnmjjakmeomiaaRows
import Derived.WalkKit
import Derived.ProofKit
namespace Go.Proofs.Ytgnmjjakmeomiaa
namespace Ev
inductive Tr (α : Type) where
 | nil
 | node (v : Option α) (l r : Tr α)
namespace Tr
variable {α : Type}
noncomputable def val (t : Tr α) : Option α := Tr.rec (motive := fun _ => Option α) none (fun v _ _ _ _ => v) t
noncomputable def lt (t : Tr α) : Tr α := Tr.rec (motive := fun _ => Tr α) .nil (fun _ l _ _ _ => l) t
noncomputable def rt (t : Tr α) : Tr α := Tr.rec (motive := fun _ => Tr α) .nil (fun _ _ r _ _ => r) t
noncomputable def get (t : Tr α) : Nat → Option α :=
 Tr.rec (motive := fun _ => Nat → Option α) (fun _ => none)
  (fun v _ _ gl gr n => Bool.rec (motive := fun _ => Option α) (Bool.rec (motive := fun _ => Option α) (gr (Nat.div (Nat.sub n 1) 2)) (gl (Nat.div (Nat.sub n 1) 2)) (Nat.beq (Nat.mod n 2) 1)) v (Nat.beq n 0)) t
noncomputable def setF (f : Nat) : Tr α → Nat → Option α → Tr α :=
 Nat.rec (motive := fun _ => Tr α → Nat → Option α → Tr α) (fun t _ v => .node v t.lt t.rt)
  (fun _ ih t n v => Bool.rec (motive := fun _ => Tr α) (Bool.rec (motive := fun _ => Tr α) (.node t.val t.lt (ih t.rt (Nat.div (Nat.sub n 1) 2) v)) (.node t.val (ih t.lt (Nat.div (Nat.sub n 1) 2) v) t.rt) (Nat.beq (Nat.mod n 2) 1)) (.node v t.lt t.rt) (Nat.beq n 0)) f
noncomputable def set (t : Tr α) (n : Nat) (v : Option α) : Tr α := setF n t n v
theorem get_nil (n : Nat) : (Tr.nil : Tr α).get n = none := rfl
theorem get_node (v : Option α) (l r : Tr α) (n : Nat) : (Tr.node v l r).get n = bif Nat.beq n 0 then v else bif Nat.beq (n % 2) 1 then l.get ((n - 1) / 2) else r.get ((n - 1) / 2) := by
 have e : Nat.beq (n % 2) 1 = Nat.beq (Nat.mod n 2) 1 := rfl
 show (Bool.rec (motive := fun _ => Option α) (Bool.rec (motive := fun _ => Option α) (r.get ((n - 1) / 2)) (l.get ((n - 1) / 2)) (Nat.beq (Nat.mod n 2) 1)) v (Nat.beq n 0) : Option α) = _
 rw [e]
 generalize Nat.beq n 0 = x
 generalize Nat.beq (Nat.mod n 2) 1 = y
 cases x <;> cases y <;> rfl
theorem setF_zero (t : Tr α) (n : Nat) (v : Option α) : setF 0 t n v = .node v t.lt t.rt := rfl
theorem setF_succ (f : Nat) (t : Tr α) (n : Nat) (v : Option α) : setF (f + 1) t n v = bif Nat.beq n 0 then .node v t.lt t.rt
  else bif Nat.beq (n % 2) 1 then .node t.val (setF f t.lt ((n - 1) / 2) v) t.rt
  else .node t.val t.lt (setF f t.rt ((n - 1) / 2) v) := by
 have e : Nat.beq (n % 2) 1 = Nat.beq (Nat.mod n 2) 1 := rfl
 show (Bool.rec (motive := fun _ => Tr α) (Bool.rec (motive := fun _ => Tr α) (.node t.val t.lt (setF f t.rt ((n - 1) / 2) v)) (.node t.val (setF f t.lt ((n - 1) / 2) v) t.rt) (Nat.beq (Nat.mod n 2) 1)) (.node v t.lt t.rt) (Nat.beq n 0) : Tr α) = _
 rw [e]
 generalize Nat.beq n 0 = x
 generalize Nat.beq (Nat.mod n 2) 1 = y
 cases x <;> cases y <;> rfl
theorem lt_nil : (Tr.nil : Tr α).lt = .nil := rfl
theorem rt_nil : (Tr.nil : Tr α).rt = .nil := rfl
theorem val_nil : (Tr.nil : Tr α).val = none := rfl
theorem lt_node (v : Option α) (l r : Tr α) : (Tr.node v l r).lt = l := rfl
theorem rt_node (v : Option α) (l r : Tr α) : (Tr.node v l r).rt = r := rfl
theorem val_node (v : Option α) (l r : Tr α) : (Tr.node v l r).val = v := rfl
end Tr

def Zhg : Bool := false
inductive AObj where
 | cells (c : List Value) (t : TypeId)
 | ro (O : Obj)
def isC : Option AObj → Bool
 | some (.cells _ _) => true
 | _ => false

inductive Cell where
 | i (n : Int)
 | b (q : Bool)
 | k (kk : IntKind) (n : Int)
 | s (x : ByteArray)
 | any
inductive Zbi where
 | st (c : List Value)
 | ap (m : Nat) (l c : List Value)
 | ap0
 | mk (l cp : Nat) (c : List Value)
 | sl (lo hi : Nat)
 | at (v : Int) (c : List Value)
 | call (pre : List (Nat × AObj)) (v : Value) (post : List (Nat × Option AObj)) (dn : Nat)
 | dv
 | api (m : Nat) (l c : List Value)
 | cut (h : Nat) (c : List Value)
 | sh (n : Nat)
 | bs (ns : List Int)
structure Orc where
 b : List (Option Bool)
 v : List (Option Int)
 x : List (Option Nat)
 l : List (Option (List Cell))
 w : List (Option Zbi)
noncomputable section
structure St where
 h : Tr AObj
 n : Nat
 wr : List Nat
 orc : Orc
 ob : List (Bool × Bool)
def St.add (s : St) (c : List Value) (t : TypeId) : St := match s with | ⟨h, n, wr, orc, ob⟩ => ⟨h.set n (some (.cells c t)), n + 1, wr, orc, ob⟩
def St.putK (s : St) (k : Nat) (c : List Value) (t : TypeId) : St := match s with | ⟨h, n, wr, orc, ob⟩ => ⟨h.set k (some (.cells c t)), n, k :: wr, orc, ob⟩
def St.turn (s : St) (k : Nat) (c : List Value) (t : TypeId) : St := ⟨(s.h.set k none).set s.n (some (.cells c t)), s.n + 1, k :: s.wr, s.orc, s.ob⟩
def St.keep {β : Type} (s : St) (k : St → β) : β := match s with | ⟨h, n, wr, orc, ob⟩ => k ⟨h, n, wr, orc, ob⟩
theorem St.keep_eq {β : Type} (s : St) (k : St → β) : s.keep k = k s := by cases s; rfl
def St.tst (s : St) (t : Bool) : Bool × St :=
 match s.orc.b with
 | [] => (t, s)
 | none :: r => (t, ⟨s.h, s.n, s.wr, ⟨r, s.orc.v, s.orc.x, s.orc.l, s.orc.w⟩, s.ob⟩)
 | some b :: r => (b, ⟨s.h, s.n, s.wr, ⟨r, s.orc.v, s.orc.x, s.orc.l, s.orc.w⟩, (t, b) :: s.ob⟩)
def St.vst (s : St) (x : Int) : Int × St :=
 match s.orc.v with
 | [] => (x, s)
 | none :: r => (x, ⟨s.h, s.n, s.wr, ⟨s.orc.b, r, s.orc.x, s.orc.l, s.orc.w⟩, s.ob⟩)
 | some y :: r => (y, ⟨s.h, s.n, s.wr, ⟨s.orc.b, r, s.orc.x, s.orc.l, s.orc.w⟩, (x == y, true) :: s.ob⟩)

def St.nextX (s : St) : Option Nat × St :=
 match s.orc.x with
 | [] => (none, s)
 | a :: r => (a, ⟨s.h, s.n, s.wr, ⟨s.orc.b, s.orc.v, r, s.orc.l, s.orc.w⟩, s.ob⟩)
def St.nextL (s : St) : Option (List Cell) × St :=
 match s.orc.l with
 | [] => (none, s)
 | a :: r => (a, ⟨s.h, s.n, s.wr, ⟨s.orc.b, s.orc.v, s.orc.x, r, s.orc.w⟩, s.ob⟩)
def St.nextW (s : St) : Option Zbi × St :=
 match s.orc.w with
 | [] => (none, s)
 | a :: r => (a, ⟨s.h, s.n, s.wr, ⟨s.orc.b, s.orc.v, s.orc.x, s.orc.l, r⟩, s.ob⟩)
def St.told (s : St) (q : Bool) : St := ⟨s.h, s.n, s.wr, s.orc, (q, true) :: s.ob⟩
noncomputable def dP (p : Prop) : Bool := @decide p (Classical.propDecidable p)

def atom : Value → Bool
 | .bool _ | .int .. | .float .. | .complex .. | .string _ | .pointer none | .map none | .chan none | .nilFunc | .nilIface => true
 | .slice none n c => Nat.beq n 0 && Nat.beq c 0
 | .func (.func _) a b => a.isEmpty && b.isEmpty
 | _ => false
def Zu {α : Type} (p : α → Bool) : List α → Bool
 | [] => true
 | x :: l => p x && Zu p l
def ZlJ : Value → Bool
 | .agg cs => Zu atom cs.toList
 | v => atom v
def Zdm : Value → Bool
 | .tuple vs => Zu ZlJ vs.toList
 | v => ZlJ v
def opnd (T : Tr Value) : Operand → Value
 | .tmp t => (T.get t).getD undef
 | .const v => bif Zdm v then v else undef
 | .global g => .chan (some g)
 | .func f => .func (.func f) #[] #[]
def Zd5 : Operand → Bool
 | .const v => Zdm v
 | _ => true
def ZC : Value → Bool
 | .agg _ | .tuple _ => false
 | _ => true

def Zi5 {α : Type} (P : Program) : Sem α → Option α
 | .pure a => some a
 | .program k => Zi5 P (k P)
 | .mark _ k => Zi5 P k
 | _ => none

def Zgp (P : Program) (t : TypeId) : Option (Bool × Nat) :=
 match P.underlying t, P.info? t with
 | some (.struct _), some i | some (.array _ _), some i => some (true, i.size)
 | some _, some i => some (false, i.size)
 | _, _ => none
def Zv {α : Type} : Nat → List α → Option (List α)
 | 0, _ => some []
 | _ + 1, [] => none
 | n + 1, x :: l => match Zv n l with | some r => some (x :: r) | none => none
def Zdp (s : St) (k o m : Nat) : Option (List Value) :=
 match s.h.get k with
 | some (.cells c _) => Zv m (c.drop o)
 | _ => none
def Zq (O : Obj) (o m : Nat) : Option (List Value) :=
 match O with
 | .cells C _ _ => Zv m (C.toList.drop o)
 | _ => none
def Zi6 (s : St) (k o m : Nat) : Option (List Value) :=
 match s.h.get k with
 | some (.cells c _) => Zv m (c.drop o)
 | some (.ro O) => bif Nat.beq m 0 then some [] else match Zq O o m with
  | some l => bif Zu atom l then some l else none
  | none => none
 | none => none
def Zgq (P : Program) (s : St) (t : TypeId) (k o : Nat) : Option Value :=
 match Zgp P t with
 | some (true, m) => match Zdp s k o m with | some l => some (.agg l.toArray) | none => none
 | some (false, _) => match Zdp s k o 1 with | some [v] => some v | _ => none
 | none => none
def Ze2 (c : List Value) (o : Nat) (l : List Value) : List Value := c.take o ++ l ++ c.drop (o + l.length)
def Zcj (s : St) (k o : Nat) (l : List Value) : Option St :=
 match s.h.get k with
 | some (.cells c t) => bif Nat.ble (o + l.length) c.length && Zu ZC l then some (s.putK k (Ze2 c o l) t) else none
 | _ => none
def Zfu (P : Program) (t : TypeId) (cs : Array Value) (o : Nat) : Option Value :=
 match Zgp P t with
 | some (true, m) => some (.agg (cs.extract o (o + m)))
 | some (false, _) => cs[o]?
 | none => none
def Zeu (P : Program) (t : TypeId) : Option (List Value) :=
 match P.info? t with
 | some i => match i.zero with
  | some z => bif Zu atom z.cells.toList then some z.cells.toList else none
  | none => none
 | none => none
abbrev Out := Option (Value × St)
def at0 (k : Nat) : Value := .pointer (some ⟨k, 0, none⟩)
def Zd6 (P : Program) (ρ : Operand → Value) (o : Oper) (s : St) : Out :=
 bif Zu (fun x => Zdm (ρ x)) o.op.operands.toList then
  match Zi5 P (execOp ρ o) with
  | some (.value v) => bif Zdm v then some (v, s) else none
  | _ => none
 else none
def ZfS : Value → Option Nat
 | .int _ (.ofNat n) => some n
 | _ => none
def Zee (ρ : Operand → Value) (d : Nat) : Option Operand → Option Nat
 | none => some d
 | some x => ZfS (ρ x)
def rep (z : List Value) (n : Nat) : List Value := (List.range n).map fun j => z.getD (j % z.length) undef
def Zfg (P : Program) (s : St) (z : List Value) (size : Nat) (tx : TypeId) (x : Value) : Option (Nat × List Value) :=
 match P.underlying tx, x with
 | some (.slice _), .slice none 0 0 => some (0, [])
 | some (.slice _), .slice (some ⟨k, o, none⟩) n _ => match Zi6 s k o (n * size) with
  | some l => bif Zu ZC l then some (n, l) else none
  | none => none
 | some (.int _), .int _ (.ofNat n) => bif Nat.blt 0 n && Nat.blt 0 size && Nat.ble n 100000 then some (n, rep z (n * z.length)) else none
 | _, _ => none
def Zc1 (P : Program) (s : St) (ts tx : TypeId) (x y : Value) : Out :=
 match P.underlying ts with
 | some (.slice e) => match P.info? e, Zeu P e with
  | some i, some z => match Zfg P s z i.size tx y with
   | some (m, l) => bif Nat.ble m 100000 && Nat.ble i.bytes 1000 && Nat.beq z.length i.size then match x with
    | .slice none 0 0 => bif Nat.beq m 0 then some (x, s) else some (.slice (some ⟨s.n, 0, none⟩) m m, s.add l e)
    | .slice (some ⟨k, o, none⟩) n c =>
     bif Nat.beq m 0 then some (x, s)
     else bif Nat.ble (n + m) c then match Zcj s k (o + n * i.size) l with
      | some s' => some (.slice (some ⟨k, o, none⟩) (n + m) c, s')
      | none => none
     else bif Nat.beq o 0 && Nat.ble n 100000 then match s.h.get k with
      | some (.cells cs e') => bif Nat.beq e e' then match Zv (n * i.size) cs with
       | some old => some (.slice (some ⟨s.n, 0, none⟩) (n + m) (n + m), s.turn k (old ++ l) e)
       | none => none
       else none
      | _ => none
     else none
    | _ => none
    else none
   | none => none
  | _, _ => none
 | _ => none
def Zel (P : Program) (ρ : Operand → Value) (t n : Nat) (ps : Array (Nat × Operand)) (s : St) : Out :=
 match P.underlying t with
 | some (.slice e) => match P.info? e, Zeu P e with
  | some i, some z => bif Nat.beq n 0 && ps.isEmpty then some (.slice (some ⟨s.n, 0, none⟩) 0 0, s.add [] e)
   else bif Nat.ble (n * i.size) 100000 && Nat.blt 0 (n * i.size) && Nat.blt 0 z.length then
    match Instr.fill (fun j => some (j * i.size, i.size)) (rep z (n * i.size)).toArray (ps.toList.map fun p => (p.1, ρ p.2)) with
    | some c => some (.slice (some ⟨s.n, 0, none⟩) n n, s.add c.toList e)
    | none => none
   else none
  | _, _ => none
 | _ => none
def Zhh (P : Program) (ρ : Operand → Value) (t : TypeId) (ps : Array (Nat × Operand)) (s : St) : Out :=
 match Zeu P t, P.built t (ps.toList.map fun p => (p.1, ρ p.2)) with
 | some _, some cs => some (.agg cs, s)
 | _, _ => none
def Zfh (P : Program) (ρ : Operand → Value) (t : TypeId) (a x : Operand) (s : St) : Out :=
 match ρ a, P.info? t with
 | .pointer (some ⟨k, o, none⟩), some i =>
  bif Nat.beq (ρ x).cells.size i.size then match Zcj s k o (ρ x).cells.toList with
   | some s' => some (undef, s')
   | none => none
  else none
 | _, _ => none
def Zgr (P : Program) (ρ : Operand → Value) (t : TypeId) (a x : Operand) (c' : List Value) (s : St) : Out :=
 match ρ a, P.info? t with
 | .pointer (some ⟨k, o, none⟩), some i =>
  bif Nat.beq (ρ x).cells.size i.size && Zu ZC (ρ x).cells.toList then match s.h.get k with
   | some (.cells c t) => some (undef, (s.putK k c' t).told (dP (o + (ρ x).cells.toList.length ≤ c.length ∧ Ze2 c o (ρ x).cells.toList = c')))
   | _ => none
  else none
 | _, _ => none
def ZlR (P : Program) (s : St) (size : Nat) (tx : TypeId) (x : Value) : Option (Nat → List Value → Prop) :=
 match P.underlying tx, x with
 | some (.slice _), .slice (some ⟨k, o, none⟩) n _ => match s.h.get k with
  | some (.cells c _) => some fun m l => m = n ∧ Zv (n * size) (c.drop o) = some l ∧ Zu ZC l = true
  | some (.ro O) => some fun m l => m = n ∧ ((n * size = 0 ∧ l = []) ∨ (n * size ≠ 0 ∧ Zq O o (n * size) = some l ∧ Zu atom l = true))
  | _ => none
 | _, _ => none
def Zhi (P : Program) (s : St) (ts tx : TypeId) (x y : Value) (m : Nat) (l c : List Value) : Out :=
 match P.underlying ts with
 | some (.slice e) => match P.info? e, Zeu P e with
  | some i, some z => match ZlR P s i.size tx y with
   | some p => bif Nat.ble i.bytes 1000 && Nat.beq z.length i.size then match x with
    | .slice none 0 0 => some (.slice (some ⟨s.n, 0, none⟩) m m, (s.add c e).told (dP (p m l ∧ 0 < m ∧ m ≤ 100000 ∧ l = c)))
    | .slice (some ⟨k, o, none⟩) n cp => bif Nat.beq o 0 then match s.h.get k with
     | some (.cells cs e') => bif Nat.beq e e' then some (.slice (some ⟨s.n, 0, none⟩) (n + m) (n + m), (s.turn k c e).told (dP (p m l ∧ 0 < m ∧ m ≤ 100000 ∧ cp < n + m ∧ n ≤ 100000 ∧ n * i.size ≤ cs.length ∧ cs.take (n * i.size) ++ l = c))) else none
     | _ => none
     else none
    | _ => none
    else none
   | none => none
  | _, _ => none
 | _ => none
def Zgs (P : Program) (s : St) (ts tx : TypeId) (x y : Value) (m : Nat) (l c : List Value) : Out :=
 match P.underlying ts with
 | some (.slice e) => match P.info? e, Zeu P e with
  | some i, some z => match ZlR P s i.size tx y with
   | some p => bif Nat.ble i.bytes 1000 && Nat.beq z.length i.size then match x with
    | .slice (some ⟨k, o, none⟩) n cp => match s.h.get k with
     | some (.cells cs e') => some (.slice (some ⟨k, o, none⟩) (n + m) cp, (s.putK k c e').told (dP ((p m l ∧ Zu ZC l = true) ∧ 0 < m ∧ m ≤ 100000 ∧ n + m ≤ cp ∧ (o + n * i.size + l.length ≤ cs.length ∧ Ze2 cs (o + n * i.size) l = c))))
     | _ => none
    | _ => none
    else none
   | none => none
  | _, _ => none
 | _ => none
def Zgt (P : Program) (s : St) (ts tx : TypeId) (x y : Value) : Out :=
 match P.underlying ts with
 | some (.slice e) => match P.info? e, Zeu P e with
  | some i, some z => match ZlR P s i.size tx y with
   | some p => bif Nat.ble i.bytes 1000 && Nat.beq z.length i.size then match x with
    | .slice none 0 0 => some (x, s.told (dP (p 0 [])))
    | .slice (some ⟨_, _, none⟩) _ _ => some (x, s.told (dP (p 0 [])))
    | _ => none
    else none
   | none => none
  | _, _ => none
 | _ => none
def Ze6 (P : Program) (ρ : Operand → Value) (t : TypeId) (x : Operand) (f : Nat) (s : St) : Out :=
 match P.underlying t, ρ x with
 | some (.struct fs), .pointer (some ⟨k, o, none⟩) => match fs[f]? with
  | some f => match P.info? f.type with
   | some i => bif Nat.beq i.size 0 then none else some (.pointer (some ⟨k, o + f.offset, none⟩), s)
   | none => none
  | none => none
 | _, _ => none
def Zhj (P : Program) (ρ : Operand → Value) (t : TypeId) (x : Operand) (f : Nat) (s : St) : Out :=
 match P.underlying t, ρ x with
 | some (.struct fs), .agg cs => match fs[f]? with
  | some f => match Zfu P f.type cs f.offset with | some v => some (v, s) | none => none
  | none => none
 | _, _ => none
def Zhk (P : Program) (ρ : Operand → Value) (t : TypeId) (x ix : Operand) (s : St) : Out :=
 match P.underlying t, ρ x, ZfS (ρ ix) with
 | some (.array len e), .agg cs, some i => match P.info? e with
  | some ie => bif Nat.blt i len then match Zfu P e cs (i * ie.size) with | some v => some (v, s) | none => none else none
  | none => none
 | _, _, _ => none
def Zdy (P : Program) (ρ : Operand → Value) (t : TypeId) (x ix : Operand) (s : St) : Out :=
 match P.underlying t, ρ x, ZfS (ρ ix) with
 | some (.slice e), .slice (some ⟨k, o, none⟩) n _, some i => match P.info? e with
  | some ie => bif Nat.blt i n then some (.pointer (some ⟨k, o + i * ie.size, none⟩), s) else none
  | none => none
 | some (.array n e), .pointer (some ⟨k, o, none⟩), some i => match P.info? e with
  | some ie => bif Nat.blt i n then some (.pointer (some ⟨k, o + i * ie.size, none⟩), s) else none
  | none => none
 | _, _, _ => none
def Zdb (v : Value) (n : Nat) : Bool :=
 match v with
 | .int _ b => b == Int.ofNat n
 | _ => false
def Zem (P : Program) (ρ : Operand → Value) (t : TypeId) (x ix : Operand) (i : Nat) (s : St) : Out :=
 match P.underlying t, ρ x with
 | some (.slice e), .slice (some ⟨k, o, none⟩) n _ => match P.info? e with
  | some ie => some (.pointer (some ⟨k, o + i * ie.size, none⟩), (s.told (Zdb (ρ ix) i)).told (Nat.blt i n))
  | none => none
 | some (.array n e), .pointer (some ⟨k, o, none⟩) => match P.info? e with
  | some ie => some (.pointer (some ⟨k, o + i * ie.size, none⟩), (s.told (Zdb (ρ ix) i)).told (Nat.blt i n))
  | none => none
 | _, _ => none
def ZcQ (ρ : Operand → Value) (d : Nat) (x : Option Operand) (n : Nat) : Bool :=
 match x with
 | none => dP (d = n)
 | some x => Zdb (ρ x) n
def Zgu (P : Program) (ρ : Operand → Value) (t : TypeId) (x : Operand) (lo hi : Option Operand) (l h : Nat) (s : St) : Out :=
 match P.underlying t, ρ x with
 | some (.slice e), .slice (some ⟨k, o, none⟩) n c => match P.info? e with
  | some ie => bif Nat.blt 0 ie.size then some (.slice (some ⟨k, o + l * ie.size, none⟩) (h - l) (c - l), ((s.told (ZcQ ρ 0 lo l)).told (ZcQ ρ n hi h)).told (dP (l ≤ h ∧ h ≤ c))) else none
  | none => none
 | some (.slice e), .slice none 0 0 => match P.info? e with
  | some _ => some (.slice none 0 0, ((s.told (ZcQ ρ 0 lo l)).told (ZcQ ρ 0 hi h)).told (dP (l = 0 ∧ h = 0)))
  | none => none
 | _, _ => none
def Zi7 (P : Program) (ρ : Operand → Value) (t : TypeId) (x : Operand) (lo hi : Option Operand) (h : Nat) (c' : List Value) (s : St) : Out :=
 match P.underlying t, ρ x with
 | some (.slice e), .slice (some ⟨k, o, none⟩) n c => match P.info? e, s.h.get k with
  | some ie, some (.cells cs e') => bif Nat.beq e e' && Nat.beq o 0 then some (.slice (some ⟨s.n, 0, none⟩) h h, (((s.turn k c' e).told (ZcQ ρ 0 lo 0)).told (ZcQ ρ n hi h)).told (dP (h ≤ c ∧ 0 < ie.size ∧ c * ie.size ≤ cs.length ∧ cs.take (h * ie.size) = c'))) else none
  | _, _ => none
 | _, _ => none
def ZfT : Cell → Value
 | .i n => .int .i64 n
 | .b q => .bool q
 | .k kk n => .int kk n
 | .s x => .string x
 | .any => .chan (some 0)
def ZbM (l : List Cell) : List Value := l.map ZfT
def Zaz : List Value → List Cell → Bool
 | [], [] => true
 | .int .i64 a :: r, .i b :: l => (a == b) && Zaz r l
 | .bool a :: r, .b b :: l => (a == b) && Zaz r l
 | .int k a :: r, .k k' b :: l => (decide (k = k') && (a == b)) && Zaz r l
 | .string a :: r, .s b :: l => dP (a = b) && Zaz r l
 | v :: r, .any :: l => dP (v.oneCell' = true) && Zaz r l
 | _, _ => false
def Zo (r : Option (List Value)) (l : List Cell) : Bool :=
 match r with
 | some c => Zaz c l
 | none => false
def Zh9 (s : St) (k o m : Nat) : Option (List Value) :=
 match s.h.get k with
 | some (.cells c _) => Zv m (c.drop o)
 | some (.ro O) => Zq O o m
 | none => none
def Zhl (P : Program) (ρ : Operand → Value) (t : TypeId) (a : Operand) (l : List Cell) (s : St) : Out :=
 match ρ a with
 | .pointer (some ⟨k, o, none⟩) => match Zgp P t with
  | some (true, m) => some (.agg (ZbM l).toArray, s.told (Zo (Zh9 s k o m) l))
  | some (false, _) => match l with
   | [x] => some (ZfT x, s.told (Zo (Zh9 s k o 1) l))
   | _ => none
  | none => none
 | _ => none
def ZdT (P : Program) (ρ : Operand → Value) (t : TypeId) (x : Operand) (lo hi : Option Operand) (s : St) : Out :=
 match P.underlying t, ρ x with
 | some (.slice e), .slice (some ⟨k, o, none⟩) n c => match P.info? e, Zee ρ 0 lo, Zee ρ n hi with
  | some ie, some l, some h => bif Nat.ble l h && Nat.ble h c && Nat.blt 0 ie.size then some (.slice (some ⟨k, o + l * ie.size, none⟩) (h - l) (c - l), s) else none
  | _, _, _ => none
 | some (.slice e), .slice none 0 0 => match P.info? e, Zee ρ 0 lo, Zee ρ 0 hi with
  | some _, some 0, some 0 => some (.slice none 0 0, s)
  | _, _, _ => none
 | some (.array n e), .pointer (some ⟨k, o, none⟩) => match P.info? e, Zee ρ 0 lo, Zee ρ n hi with
  | some ie, some l, some h => bif Nat.ble l h && Nat.ble h n && Nat.blt 0 ie.size then some (.slice (some ⟨k, o + l * ie.size, none⟩) (h - l) (n - l), s) else none
  | _, _, _ => none
 | _, _ => none
def Zgv (P : Program) (ρ : Operand → Value) (t : TypeId) (x : Operand) (lo hi : Option Operand) (s : St) : Out :=
 match P.underlying t, ρ x, hi with
 | some .string, .string b, some y => match Zee ρ 0 lo, ZfS (ρ y) with
  | some l, some h => bif Nat.ble l h then (match s.tst (Nat.ble h b.size) with
   | (true, s1) => some (.string (b.extract l h), s1)
   | (false, _) => none) else none
  | _, _ => none
 | _, _, _ => none
def Zky : Option TypeDesc → Value → Value → Option Bool
 | some (.pointer _), .pointer none, .pointer b => some b.isNone
 | some (.pointer _), .pointer _, .pointer none => some false
 | some (.slice _), .slice none _ _, .slice none _ _ => some true
 | some (.slice _), .slice none _ _, .slice (some _) _ c => bif Zhg && Nat.beq c 0 then none else some false
 | some (.slice _), .slice (some _) _ c, .slice none _ _ => bif Zhg && Nat.beq c 0 then none else some false
 | some (.func ..), .nilFunc, .func .. => some false
 | some (.func ..), .func .., .nilFunc => some false
 | _, _, _ => none
def ZlS (P : Program) (g : TypeId → Value → Value → Option Bool) (xs ys : Array Value) : List Field → Option Bool
 | [] => some true
 | f :: fs => bif f.name == "_" then none else match Zfu P f.type xs f.offset, Zfu P f.type ys f.offset, ZlS P g xs ys fs with
  | some a, some b, some r => match g f.type a b with | some q => some (q && r) | none => none
  | _, _, _ => none
def ZlT (P : Program) (g : Value → Value → Option Bool) (e : TypeId) (sz : Nat) (xs ys : Array Value) : Nat → Nat → Option Bool
 | 0, _ => some true
 | n + 1, i => match Zfu P e xs (i * sz), Zfu P e ys (i * sz), ZlT P g e sz xs ys n (i + 1) with
  | some a, some b, some r => match g a b with | some q => some (q && r) | none => none
  | _, _, _ => none
def eqV (P : Program) : Nat → TypeId → Value → Value → Option Bool
 | 0, _, _, _ => none
 | d + 1, t, x, y => match P.underlying t, x, y with
  | some (.int _), .int k a, .int k' b => if k = k' then some (a == b) else none
  | some .bool, .bool a, .bool b => some (a == b)
  | some (.struct fs), .agg xs, .agg ys => bif P.stoodInHeld t then none else ZlS P (eqV P d) xs ys fs.toList
  | some (.array n e), .agg xs, .agg ys => match P.info? e with | some i => ZlT P (eqV P d e) e i.size xs ys n 0 | none => none
  | _, _, _ => none
def Znu (P : Program) (t : TypeId) (x y : Value) : Option Bool :=
 match x, y with
 | .agg _, .agg _ => bif P.eqGuardType P.depth t then none else eqV P 8 t x y
 | _, _ => none
def Zfr (P : Program) (ρ : Operand → Value) (o : Oper) (op : BinOp) (t : TypeId) (x y : Operand) (s : St) : Out :=
 match Znu P t (ρ x) (ρ y), op with
 | some q, .eql => some (.bool q, s)
 | some q, .neq => some (.bool (!q), s)
 | _, _ => match Zd6 P ρ o s with
 | some r => some r
 | none => match Zky (P.underlying t) (ρ x) (ρ y), op with
  | some q, .eql => some (.bool q, s)
  | some q, .neq => some (.bool (!q), s)
  | _, _ => none
def Zi8 (ρ : Operand → Value) (x y : Operand) (s : St) : Out :=
 match ρ x, ρ y with
 | .int k a, .int k' b => some (.int k (Int.tmod a b), s.told (dP (k = k' ∧ b ≠ 0)))
 | _, _ => none
def Zjp (ρ : Operand → Value) (op : BinOp) (x y : Operand) (n : Nat) (s : St) : Out :=
 match ρ x, ρ y, op with
 | .int k a, .int _ b, .shl => some (.int k (k.wrap (a * 2 ^ n)), s.told (dP (b = Int.ofNat n ∧ n ≤ k.bits)))
 | .int k a, .int _ b, .shr => some (.int k (a / 2 ^ n), s.told (dP (b = Int.ofNat n ∧ n ≤ k.bits)))
 | _, _, _ => none
def Zkz (ρ : Operand → Value) (x y : Operand) (s : St) : Out :=
 match ρ x, ρ y with
 | .string a, .string b => some (.string (a ++ b), s.told (dP (((a.size + b.size : Nat) : Int) ≤ IntKind.i64.max)))
 | _, _ => none
def Zdz (P : Program) (ρ : Operand → Value) (t : TypeId) (l c : Operand) (s : St) : Out :=
 match P.underlying t, ZfS (ρ l), ZfS (ρ c) with
 | some (.slice e), some l, some c => match P.info? e, Zeu P e with
  | some i, some z => bif Nat.ble l c && Nat.ble c 100000 && Nat.ble i.bytes 1000 && Nat.blt 0 z.length then
    some (.slice (some ⟨s.n, 0, none⟩) l c, s.add (rep z (c * i.size)) e)
   else none
  | _, _ => none
 | _, _, _ => none
def Zhm (P : Program) (ρ : Operand → Value) (t : TypeId) (l c : Operand) (n cp : Nat) (cs : List Value) (s : St) : Out :=
 match P.underlying t with
 | some (.slice e) => match P.info? e, Zeu P e with
  | some i, some z => bif Nat.ble i.bytes 1000 && Nat.blt 0 z.length then
    some (.slice (some ⟨s.n, 0, none⟩) n cp, (((s.add cs e).told (Zdb (ρ l) n)).told (Zdb (ρ c) cp)).told (dP (n ≤ cp ∧ cp ≤ 100000 ∧ rep z (cp * i.size) = cs)))
   else none
  | _, _ => none
 | _ => none
def Zhn : List Value → Option (List Int)
 | [] => some []
 | .int .u8 n :: l => match Zhn l with | some r => some (n :: r) | none => none
 | _ => none
def ZeK (P : Program) (ρ : Operand → Value) (a b : TypeId) (x : Operand) (s : St) : Out :=
 match P.underlying a, P.underlying b, ρ x with
 | some (.slice e), some .string, .slice (some ⟨k, o, none⟩) n _ => match P.underlying e, Zdp s k o n with
  | some (.int .u8), some l => match Zhn l with
   | some ns => some (.string (ns.foldl (fun r n => r.push (UInt8.ofNat n.toNat)) ByteArray.empty), s)
   | none => none
  | _, _ => none
 | some (.pointer t), some .unsafePointer, .pointer (some ⟨k, o, none⟩) => match P.info? t, Zdp s k o 1 with
  | some i, some [_] => bif Nat.beq i.size 0 then none else some (.pointer (some ⟨k, o, none⟩), s)
  | _, _ => none
 | _, _, _ => none
def ZeO (P : Program) (ρ : Operand → Value) (a b : TypeId) (x : Operand) (ns : List Int) (s : St) : Out :=
 match P.underlying a, P.underlying b, ρ x with
 | some (.slice e), some .string, .slice (some ⟨k, o, none⟩) n _ => match P.underlying e with
  | some (.int .u8) => some (.string (ns.foldl (fun r n => r.push (UInt8.ofNat n.toNat)) ByteArray.empty), s.told (dP (Zi6 s k o n = some (ns.map (Value.int .u8)))))
  | _ => none
 | _, _, _ => none
def Zde (kk : IntKind) (e : Nat) (args : Array Value) (s : St) : Out :=
 match args.toList with
 | .pointer (some ⟨k, o, none⟩) :: r => match Zdp s k o 1 with
  | some [.int ck v] => if ck = kk then match e, r with
   | 0, [] => some (.int kk v, s)
   | 1, [.int xk x] => if xk = kk then (match Zcj s k o [.int kk x] with | some s' => some (.tuple #[], s') | none => none) else none
   | 2, [.int xk d] => if xk = kk then (match Zcj s k o [.int kk (kk.wrap (v + d))] with | some s' => some (.int kk (kk.wrap (v + d)), s') | none => none) else none
   | 3, [.int xk x, .int yk y] => if xk = kk ∧ yk = kk then (match s.tst (v == x) with
    | (true, s1) => match Zcj s1 k o [.int kk y] with | some s' => some (.bool true, s') | none => none
    | (false, s1) => some (.bool false, s1)) else none
   | _, _ => none
   else none
  | _ => none
 | _ => none
def Zfv (kk : IntKind) (e : Nat) (args : Array Value) (v : Int) (c' : List Value) (s : St) : Out :=
 match args.toList with
 | .pointer (some ⟨k, o, none⟩) :: r => match s.h.get k with
  | some (.cells c t) => match e, r with
   | 0, [] => some (.int kk v, s.told (dP (Zv 1 (c.drop o) = some [.int kk v])))
   | 1, [.int xk x] => if xk = kk then some (.tuple #[], (s.putK k c' t).told (dP (Zv 1 (c.drop o) = some [.int kk v] ∧ o + 1 ≤ c.length ∧ Ze2 c o [.int kk x] = c'))) else none
   | 2, [.int xk d] => if xk = kk then some (.int kk (kk.wrap (v + d)), (s.putK k c' t).told (dP (Zv 1 (c.drop o) = some [.int kk v] ∧ o + 1 ≤ c.length ∧ Ze2 c o [.int kk (kk.wrap (v + d))] = c'))) else none
   | 3, [.int xk x, .int yk y] => if xk = kk ∧ yk = kk then (match (s.told (dP (Zv 1 (c.drop o) = some [.int kk v]))).tst (v == x) with
    | (true, s1) => some (.bool true, (s1.putK k c' t).told (dP (o + 1 ≤ c.length ∧ Ze2 c o [.int kk y] = c')))
    | (false, s1) => some (.bool false, s1)) else none
   | _, _ => none
  | _ => none
 | _ => none
def Zi9 (n : Nat) (args : Array Value) (s : St) : Out :=
 match n, args.toList with
 | 0, [] => some (.tuple #[], s)
 | 1, [.pointer (some ⟨_, _, none⟩)] => some (.tuple #[], s)
 | _, _ => none
def callee (ρ : Operand → Value) (c : Call) : Option (FuncId × Array Value) :=
 match c.callee with
 | .value f => match ρ f with
  | .func (.func f) a b => some (f, a ++ c.args.map ρ ++ b)
  | _ => none
 | _ => none
def Zfw (P : Program) (ρ : Operand → Value) (o : Oper) (c : Call) (b : Builtin) (s : St) : Out :=
 match b with
 | .append => match c.argTypes.toList, c.args.toList with
  | [t, tx], [x, y] => match s.nextW with
   | (some (.ap m l c), s1) => Zhi P s1 t tx (ρ x) (ρ y) m l c
   | (some (.api m l c), s1) => Zgs P s1 t tx (ρ x) (ρ y) m l c
   | (some .ap0, s1) => Zgt P s1 t tx (ρ x) (ρ y)
   | (some _, _) => none
   | (none, s1) => Zc1 P s1 t tx (ρ x) (ρ y)
  | _, _ => none
 | .len => match c.argTypes.toList, c.args.toList with
  | [t], [x] => match P.underlying t, ρ x with
   | some (.slice _), .slice (some _) n _ => some (goInt n, s)
   | _, _ => Zd6 P ρ o s
  | _, _ => none
 | _ => Zd6 P ρ o s
def Znv (P : Program) (ρ : Operand → Value) (o : Oper) (t : TypeId) (x : Operand) (lo hi : Option Operand) (s : St) : Out :=
 match s.nextW with
 | (some (.sl l h), s1) => Zgu P ρ t x lo hi l h s1
 | (some (.cut h c), s1) => Zi7 P ρ t x lo hi h c s1
 | (some _, _) => none
 | (none, s1) => match ZdT P ρ t x lo hi s1 with | some r => some r | none => match Zgv P ρ t x lo hi s1 with | some r => some r | none => Zd6 P ρ o s1
def ev1 (P : Program) (ρ : Operand → Value) (o : Oper) (s : St) : Out :=
 match o.op with
 | .move x | .assign x => some (ρ x, s)
 | .pick c a b => match ρ c with
  | .bool t => match t with
   | true => some (ρ a, s)
   | false => some (ρ b, s)
  | _ => none
 | .alloc t => match Zeu P t with | some z => some (at0 s.n, s.add z t) | none => none
 | .box t x => some (at0 s.n, s.add (ρ x).cells.toList t)
 | .build t ps => Zhh P ρ t ps s
 | .buildSlice t n ps => Zel P ρ t n ps s
 | .load t a => match s.nextL with
  | (some l, s1) => Zhl P ρ t a l s1
  | (none, s1) => match ρ a with
   | .pointer (some ⟨k, o, none⟩) => match Zgq P s1 t k o with | some v => some (v, s1) | none => none
   | _ => none
 | .store t a x => match s.nextW with
  | (some (.st c), s1) => Zgr P ρ t a x c s1
  | (some _, _) => none
  | (none, s1) => Zfh P ρ t a x s1
 | .nilCheck x => match ρ x with
  | .pointer (some a) => some (.pointer (some a), s)
  | .func (.func f) a b => some (.func (.func f) a b, s)
  | _ => none
 | .fieldAddr t x f => Ze6 P ρ t x f s
 | .field t x f => Zhj P ρ t x f s
 | .index t x ix => match Zhk P ρ t x ix s with | some r => some r | none => Zd6 P ρ o s
 | .indexAddr t x ix => match s.nextX with
  | (some n, s1) => Zem P ρ t x ix n s1
  | (none, s1) => Zdy P ρ t x ix s1
 | .extract x i => match ρ x with | .tuple vs => (match (vs[i]? : Option Value) with | some v => some (v, s) | none => none) | _ => none
 | .slice t x lo hi mx => match mx with
  | none => Znv P ρ o t x lo hi s
  | some _ => none
 | .binOp .rem t x y _ => match s.nextW with
  | (some .dv, s1) => Zi8 ρ x y s1
  | (some _, _) => none
  | (none, s1) => Zfr P ρ o .rem t x y s1
 | .binOp .shl t x y _ => match s.nextW with
  | (some (.sh n), s1) => Zjp ρ .shl x y n s1
  | (some _, _) => none
  | (none, s1) => Zfr P ρ o .shl t x y s1
 | .binOp .shr t x y _ => match s.nextW with
  | (some (.sh n), s1) => Zjp ρ .shr x y n s1
  | (some _, _) => none
  | (none, s1) => Zfr P ρ o .shr t x y s1
 | .binOp .add t x y _ => match ρ x with
  | .string _ => Zkz ρ x y s
  | _ => Zfr P ρ o .add t x y s
 | .binOp op t x y _ => Zfr P ρ o op t x y s
 | .makeSlice t l c => match s.nextW with
  | (some (.mk n cp cs), s1) => Zhm P ρ t l c n cp cs s1
  | (some _, _) => none
  | (none, s1) => Zdz P ρ t l c s1
 | .makeFunc fn a b => some (.func fn (a.map ρ) (b.map ρ), s)
 | .unOp .. => Zd6 P ρ o s
 | .convert a b x => match ρ x with
  | .slice (some _) _ _ => match s.nextW with
   | (some (.bs ns), s1) => ZeO P ρ a b x ns s1
   | (some _, _) => none
   | (none, s1) => ZeK P ρ a b x s1
  | _ => match ZeK P ρ a b x s with | some r => some r | none => Zd6 P ρ o s
 | .call c => match c.callee with
  | .builtin b => Zfw P ρ o c b s
  | _ => none
 | _ => none
def ZlU (o : Oper) (v : Value) (s : St) : Value × St :=
 match o.op, v with
 | .binOp .., .bool t | .unOp .., .bool t | .load .., .bool t | .field .., .bool t | .index .., .bool t => match s.tst t with | (b, s') => (.bool b, s')
 | .binOp .., .int k x | .unOp .., .int k x | .convert .., .int k x => match s.vst x with | (y, s') => (.int k y, s')
 | _, _ => (v, s)
def ZiA (o : Oper) : Option Call :=
 match o.op with
 | .call c => match c.callee with
  | .value _ => some c
  | _ => none
 | _ => none

def ZdU (ops : Array Oper) (T : Tr Value) (o : Oper) (s : St) : Option (Bool × St) :=
 match o.guard with
 | none => some (true, s)
 | some (j, want) => match (ops[j]?).bind (·.dst) with
  | some d => match T.get d with
   | some (.bool b) => some (b == want, s)
   | some (.tuple _) => some (false, s)
   | _ => none
  | none => none
def Zd0 (T : Tr Value) (dst : Option Tmp) (v : Value) : Tr Value := match dst with | some d => T.set d (some v) | none => T
inductive Ex where | normal | exit (id : Nat) | ret
def ZcW : Nat → List Value → Tr Value → Tr Value
 | _, [], T => T
 | i, v :: l, T => ZcW (i + 1) l (T.set i (some v))
def ZaR (P : Program) (T : Tr Value) (s : St) : List ResultVar → Option (List Value)
 | [] => some []
 | .tmp t :: l => match ZaR P T s l with | some r => some ((T.get t).getD undef :: r) | none => none
 | .cell a t :: l => match (T.get a).getD undef with
  | .pointer (some ⟨k, o, none⟩) => match Zgq P s t k o, ZaR P T s l with
   | some v, some r => some (v :: r)
   | _, _ => none
  | _ => none
def ZeD (nt : Nat) : Option Tmp → Bool
 | none => true
 | some d => Nat.blt d nt
/-! ### A region that draws its order: each operation is run on what it ZeL alone, and those that may change places must not meet -/
inductive Ext where
 | at (k : IntKind) (e : Nat)
 | mark (n : Nat)
 | fn (g : List Value → Option Value)
 | hp (g : Array Value → St → Out)
 | tc (S : Array Value → List (Nat × AObj) → Value → List (Nat × Option AObj) → Nat → Nat → Prop)
def AObj.sameAs (o : Option AObj) (p : AObj) : Bool :=
 match o, p with
 | some (.cells c t), .cells c' t' => bif Nat.beq t t' then dP (c = c') else false
 | some (.ro O), .ro O' => dP (O = O')
 | _, _ => false
def ZH {α : Type} (k : Nat) : List (Nat × α) → Option α
 | [] => none
 | x :: l => bif Nat.beq x.1 k then some x.2 else ZH k l
def behind (pre : List (Nat × AObj)) (post : List (Nat × Option AObj)) (k : Nat) : Option AObj :=
 match ZH k post with
 | some o => o
 | none => ZH k pre
def Zk0 (pre : List (Nat × AObj)) (n n' : Nat) : List (Nat × Option AObj) → Bool
 | [] => true
 | x :: l => ((ZH x.1 pre).isSome || (x.2.isSome && (Nat.ble n x.1 && Nat.blt x.1 n'))) && Zk0 pre n n' l
def Zjq (h : Tr AObj) : List (Nat × Option AObj) → Tr AObj
 | [] => h
 | x :: l => (Zjq h l).set x.1 x.2
def Zjr (s : St) : List (Nat × AObj) → List (Bool × Bool)
 | [] => s.ob
 | x :: l => (AObj.sameAs (s.h.get x.1) x.2, true) :: Zjr s l
def ZlV (S : Array Value → List (Nat × AObj) → Value → List (Nat × Option AObj) → Nat → Nat → Prop) (args : Array Value) (pre : List (Nat × AObj)) (v : Value) (post : List (Nat × Option AObj)) (dn : Nat) (s : St) : Out :=
 bif Zk0 pre s.n (s.n + dn) post && Zu (fun x => Nat.blt x.1 s.n) pre then
  some (v, ⟨Zjq s.h post, s.n + dn, post.map (·.1) ++ s.wr, s.orc, (dP (S args pre v post s.n dn), true) :: Zjr s pre⟩)
 else none
def Znw (g : List Value → Option Value) (args : Array Value) (s : St) : Out :=
 bif Zu Zdm args.toList then match g args.toList with
  | some v => bif Zdm v then some (v, s) else none
  | none => none
 else none
def isBig (ext : FuncId → Option Ext) (ρ : Operand → Value) (o : Oper) : Bool :=
 match ZiA o with
 | some c => match callee ρ c with
  | some (f, _) => (match ext f with | none => true | some (.hp _) => true | some (.tc _) => true | _ => false)
  | none => true
 | none => false
structure Rec where
 small : Bool
 w : Bool
 t : List Nat
 n0 : Nat
 n1 : Nat
 q : List Nat
structure Ent where
 o : Oper
 m : Nat
 r : Rec
 T : Tr Value
 s : St
 v : Value
 s' : St
def ZjR : Value → List Nat
 | .pointer (some a) => [a.block]
 | .slice (some a) _ _ => [a.block]
 | _ => []
def ZeL (s : St) (ρ : Operand → Value) (o : Oper) : Bool × List Nat :=
 match o.op with
 | .slice _ x _ _ _ => match s.orc.w with
  | some (.cut _ _) :: _ => (true, ZjR (ρ x))
  | _ => (false, [])
 | .convert _ _ x => (false, ZjR (ρ x))
 | .load _ a => (false, ZjR (ρ a))
 | .store _ a _ => (true, ZjR (ρ a))
 | .call c => match c.callee with
  | .builtin .append => match c.args.toList with
   | [x, _] => (true, ZjR (ρ x))
   | _ => (true, [])
  | .builtin _ => (false, [])
  | _ => match c.args.toList with
   | x :: _ => (true, ZjR (ρ x))
   | [] => (true, [])
 | _ => (false, [])
def Zho (ρ : Operand → Value) (o : Oper) : List Nat :=
 match o.op with
 | .call c => match c.callee with
  | .builtin .append => match c.args.toList with
   | [_, y] => ZjR (ρ y)
   | _ => []
  | _ => []
 | _ => []
def ZgF (h : Tr AObj) : List Nat → Tr AObj
 | [] => .nil
 | k :: l => (ZgF h l).set k (h.get k)
def Zjs (r : Tr AObj) : List Nat → Tr AObj → Tr AObj
 | [], h => h
 | k :: l, h => (Zjs r l h).set k (r.get k)
def ZgY (k : Nat) : List Nat → Bool
 | [] => false
 | x :: l => Nat.beq k x || ZgY k l
def Zfx (a b : List Nat) : Bool := Zu (fun k => !ZgY k b) a
def ZiB (n0 n1 : Nat) (l : List Nat) : Bool := Zu (fun k => !(Nat.ble n0 k && Nat.blt k n1)) l
def Zgw (n : Nat) : List Nat → List Nat
 | [] => []
 | k :: l => bif Nat.blt k n then k :: Zgw n l else Zgw n l
def Zk1 (a b : Rec) : Bool :=
 match a.small, b.small with
 | true, true => (!(a.w || b.w) || Zfx a.t b.t) && ZiB a.n0 a.n1 b.t && ((!b.w || Zfx a.q b.t) && (!a.w || Zfx a.t b.q) && ZiB a.n0 a.n1 b.q)
 | true, false => !a.w && Nat.beq a.n0 a.n1 && Zfx a.t b.t && Zfx a.q b.t
 | false, true => !b.w && Zfx a.t b.t && ZiB a.n0 a.n1 b.t && (Zfx a.t b.q && ZiB a.n0 a.n1 b.q)
 | false, false => false
def ZcD (done : List Ent) : List Edge → Nat
 | [] => 0
 | e :: l => bif Region.binds .any e then (2 ^ e.on ||| (match done[e.on]? with | some d => d.m | none => 0)) ||| ZcD done l else ZcD done l
def ZeP : List Operand → List Tmp
 | [] => []
 | .tmp t :: l => t :: ZeP l
 | _ :: l => ZeP l
def Zjt (T : Tr Value) : List Tmp → Tr Value
 | [] => .nil
 | t :: l => (Zjt T l).set t (T.get t)
def Zhp (i : Nat) : List Edge → Bool
 | [] => true
 | e :: l => (!Region.binds .any e || Nat.blt e.on i) && Zhp i l
def Zgh (ops : Array Oper) (o : Oper) (r : Rec) (m : Nat) : Nat → List Ent → Bool
 | _, [] => true
 | j, d :: l => (m.testBit j || (Oper.apart ops d.o o && Zk1 d.r r)) && Zgh ops o r m (j + 1) l
def Zgx (s : St) : Rec := ⟨true, false, [], s.n, s.n, []⟩
mutual
def ZI (P : Program) (ext : FuncId → Option Ext) (nt : Nat) : Nat → Code → Tr Value → St → Option (Ex × Tr Value × St)
 | 0, _, _, _ => none
 | fu + 1, c, T, s => match c with
  | .skip => some (.normal, T, s)
  | .label _ => some (.normal, T, s)
  | .scope c => ZI P ext nt fu c T s
  | .ret => some (.ret, T, s)
  | .exit id => some (.exit id, T, s)
  | .seq a b => match ZI P ext nt fu a T s with
   | some (.normal, T', s') => ZI P ext nt fu b T' s'
   | some (.exit i, T', s') => some (.exit i, T', s')
   | some (.ret, T', s') => some (.ret, T', s')
   | none => none
  | .cond x a b => match opnd T x with
   | .bool t => match t with
    | true => ZI P ext nt fu a T s
    | false => ZI P ext nt fu b T s
   | _ => none
  | .block id a => match ZI P ext nt fu a T s with
   | some (.exit i, T', s') => bif Nat.beq i id then some (.normal, T', s') else some (.exit i, T', s')
   | some (.normal, T', s') => some (.normal, T', s')
   | some (.ret, T', s') => some (.ret, T', s')
   | none => none
  | .loop a => match ZI P ext nt fu a T s with
   | some (.normal, T', s') => ZI P ext nt fu (.loop a) T' s'
   | some (.exit i, T', s') => some (.exit i, T', s')
   | some (.ret, T', s') => some (.ret, T', s')
   | none => none
  | .region _ ops draw => bif draw then match Zdq P ext nt fu ops [] ops.toList T s with
    | some (_, T', s') => some (.normal, T', s')
    | none => none
   else match ZeQ P ext nt fu ops ops.toList T s with
   | some (T', s') => some (.normal, T', s')
   | none => none
  | _ => none
termination_by structural fu _ _ _ => fu
def ZeQ (P : Program) (ext : FuncId → Option Ext) (nt : Nat) : Nat → Array Oper → List Oper → Tr Value → St → Option (Tr Value × St)
 | 0, _, _, _, _ => none
 | _ + 1, _, [], T, s => some (T, s)
 | fu + 1, ops, o :: l, T, s =>
  bif ZeD nt o.dst && Zu Zd5 o.op.operands.toList then
   match ZdU ops T o s with
   | some (true, s1) => match ZeG P ext fu (opnd T) o s1 with
    | some (v, s') => s'.keep fun s' => ZeQ P ext nt fu ops l (Zd0 T o.dst v) s'
    | none => none
   | some (false, s1) => ZeQ P ext nt fu ops l (Zd0 T o.dst undef) s1
   | none => none
  else none
termination_by structural fu _ _ _ _ => fu
def Zdq (P : Program) (ext : FuncId → Option Ext) (nt : Nat) : Nat → Array Oper → List Ent → List Oper → Tr Value → St → Option (List Ent × Tr Value × St)
 | 0, _, _, _, _, _ => none
 | _ + 1, _, done, [], T, s => some (done, T, s)
 | fu + 1, ops, done, o :: l, T, s =>
  bif ZeD nt o.dst && Zu Zd5 o.op.operands.toList && Zhp done.length o.after.toList then
   match ZdU ops T o s with
   | some (true, s1) => match ZfU P ext fu (opnd (Zjt T (ZeP o.op.operands.toList))) o s1 with
    | some (v, s', r) => s'.keep fun s' => bif Zgh ops o r (ZcD done o.after.toList) 0 done then Zdq P ext nt fu ops (done ++ [⟨o, ZcD done o.after.toList, r, T, s1, v, s'⟩]) l (Zd0 T o.dst v) s' else none
    | none => none
   | some (false, s1) => bif Zgh ops o (Zgx s1) (ZcD done o.after.toList) 0 done then Zdq P ext nt fu ops (done ++ [⟨o, ZcD done o.after.toList, Zgx s1, T, s1, undef, s1⟩]) l (Zd0 T o.dst undef) s1 else none
   | none => none
  else none
termination_by structural fu _ _ _ _ _ => fu
def ZfU (P : Program) (ext : FuncId → Option Ext) : Nat → (Operand → Value) → Oper → St → Option (Value × St × Rec)
 | 0, _, _, _ => none
 | fu + 1, ρ, o, s =>
  match isBig ext ρ o with
  | true => match ZeG P ext fu ρ o ⟨s.h, s.n, [], s.orc, s.ob⟩ with
   | some (v, s') => bif Zu (fun k => Nat.blt k s'.n) s'.wr then some (v, ⟨s'.h, s'.n, s'.wr ++ s.wr, s'.orc, s'.ob⟩, ⟨false, true, Zgw s.n s'.wr, s.n, s'.n, []⟩) else none
   | none => none
  | false => match ZeL s ρ o with
   | (w, t) => bif Zu (fun k => Nat.blt k s.n) t && Zu (fun k => Nat.blt k s.n) (Zho ρ o) then match ZeG P ext fu ρ o ⟨ZgF s.h (t ++ Zho ρ o), s.n, [], s.orc, s.ob⟩ with
     | some (v, s') => bif Zu (fun k => w && ZgY k t) s'.wr && Nat.ble s'.n (s.n + 1) then some (v, ⟨(bif w then Zjs s'.h t s.h else s.h).set s.n (bif Nat.beq s'.n s.n then s.h.get s.n else s'.h.get s.n), s'.n, s'.wr ++ s.wr, s'.orc, s'.ob⟩, ⟨true, w, t, s.n, s'.n, Zho ρ o⟩) else none
     | none => none
    else none
termination_by structural fu _ _ _ => fu
def ZeG (P : Program) (ext : FuncId → Option Ext) : Nat → (Operand → Value) → Oper → St → Out
 | 0, _, _, _ => none
 | fu + 1, ρ, o, s => match ZiA o with
  | some c => match callee ρ c with
   | some (f, args) => match ext f with
    | some (.at k e) => match s.nextW with
     | (some (.at v c), s1) => Zfv k e args v c s1
     | (some _, _) => none
     | (none, s1) => Zde k e args s1
    | some (.mark n) => Zi9 n args s
    | some (.hp g) => g args s
    | some (.tc S) => match s.nextW with
     | (some (.call pre v post dn), s1) => ZlV S args pre v post dn s1
     | _ => none
    | some (.fn g) => Znw g args s
    | none => Zdf P ext fu f args s
   | none => none
  | none => match ev1 P ρ o s with
   | some (v, s1) => some (ZlU o v s1)
   | none => none
termination_by structural fu _ _ _ => fu
def Zdf (P : Program) (ext : FuncId → Option Ext) : Nat → FuncId → Array Value → St → Out
 | 0, _, _, _ => none
 | fu + 1, f, args, s => match P.funcs[f]? with
  | some fn => match fn.body with
   | some c => bif Nat.ble args.size fn.ntmps then match ZI P ext fn.ntmps fu c (ZcW 0 args.toList .nil) s with
    | some (.exit _, _, _) => none
    | some (_, T, s') => match ZaR P T s' fn.results.toList with
     | some [v] => some (v, s')
     | some vs => some (.tuple vs.toArray, s')
     | none => none
    | none => none
    else none
   | none => none
  | none => none
termination_by structural fu _ _ _ => fu
end
end
end Ev
end Go.Proofs.Ytgnmjjakmeomiaa
