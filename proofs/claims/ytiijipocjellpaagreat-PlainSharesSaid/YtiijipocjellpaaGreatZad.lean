/- Part 4. -/
import Derived.Test.YtiijipocjellpaaGreatZac
import Derived.RangeFuncLeaves
import Derived.OrdersIn
import Derived.LoopNIn
import Derived.TacticsIn
import Derived.RangeFuncRecord
import Derived.Laws.Externs
set_option linter.unusedSimpArgs false
set_option linter.unusedVariables false
/- A round's frame: what the runner says of code holds there too. -/
namespace Go.Proofs.YtiijipocjellpaaGreat
open Go.RowKit
namespace Ev
def ZhO (o : Oper) : Bool := match o.op with | .defer _ => false | _ => true
def Zds : Code → Bool
 | .seq a b => Zds a && Zds b
 | .cond _ a b => Zds a && Zds b
 | .block _ a => Zds a
 | .loop a => Zds a
 | .region _ ops _ => Zp ZhO ops.toList
 | .scope _ => false
 | _ => true
abbrev Fr (r : Option Nat) : Fence := { Fence.wide with round := r }
theorem ZiP {o : Oper} (h : ZhO o = true) : ∀ c, o.op ≠ .defer c := fun c e => by unfold ZhO at h; rw [e] at h; cases h
section
variable {P : Program} {ext : FuncId → Option Ext} {r : Option Nat}
theorem Zup {n : Nat} {row : String} {args : Array Value} {w : World} {R : Value → World → Prop} (h : Rows P row args w R) : RowsIn (Fr r) n P row args w R := fun c cs _ => by
 obtain ⟨v, w', q, s⟩ := h c cs
 exact ⟨v, w', q, stepsIn_wide.2 s⟩
theorem Ztr {n f : Nat} {args : Array Value} {w : World} {R : Ending → World → Prop} (h : Calls P f args w R) : CallsIn (Fr r) n P f args w R := (callsIn_wide (n := n)).2 h
theorem Zn5 {o : Oper} {a : Act} {w : World} {K : Act → World → Prop} {Q0 Q : Exit → Act → World → Prop} (hq : ∀ e a w, e ≠ .normal → ¬ Q0 e a w) (hnd : ∀ c, o.op ≠ .defer c) (h : o.wp P a w K Q0) : o.wpIn (Fr r) 0 P a w K Q := by
 refine ⟨fun _ _ => trivial, ?_⟩
 rw [Oper.semAt_eq _ _ _ hnd]
 unfold Oper.wp at h
 generalize (execOp a.eval o).run P w = x at h ⊢
 have no : ∀ (e : Exit) (a : Act) (w : World), e ≠ .normal → Q0 e a w → False := fun e a w he hx => hq e a w he hx
 cases x with
 | ok nx w' =>
  cases nx with
  | value v => exact h
  | skip => exact h
  | defer d => exact h
  | enter f args =>
   refine ⟨fun e => (by cases e), Ztr (Calls.mono h ?_)⟩
   intro e w2 h2
   cases e with
   | returned v => exact h2
   | panicked chain => exact (no _ _ _ (by simp) h2).elim
   | outgrown => obtain ⟨a0, w0, h0⟩ := h2; exact (no _ _ _ (by simp) h0).elim
  | row row args => exact ⟨fun e => (by cases e), Zup h⟩
  | _ => exact h.elim
 | halt x w' =>
  cases x with
  | panic v => exact (no _ _ _ (by simp) h).elim
  | _ => exact h.elim
def ZrJ (Q : Exit → Act → World → Prop) : Exit → Act → World → Prop := fun e a w => e = .normal ∧ Q .normal a w
theorem Zp4 {Q : Exit → Act → World → Prop} : ∀ e a w, e ≠ .normal → ¬ ZrJ Q e a w := fun e a w he h => he h.1
theorem Zn6 {ops : Array Oper} {Q : Exit → Act → World → Prop} : ∀ (l : List Oper) (a : Act) (w : World), Zp ZhO l = true → wpList P ops (ZrJ Q) l a w → wpListIn (Fr r) 0 P ops Q l a w
 | [], a, w, _, h => h.2
 | o :: l, a, w, hn, h => by
  have ho := ZiP (ZJ hn o (List.mem_cons_self ..))
  have hl : Zp ZhO l = true := Zn1 fun x hx => ZJ hn x (List.mem_cons_of_mem _ hx)
  unfold wpList at h
  unfold wpListIn
  split
  ·rename_i hw
   rw [if_pos hw] at h
   rcases h with h | ⟨_, a0, w0, h0⟩
   ·exact Zn5 Zp4 ho (Oper.wp_mono (fun a w => Zn6 l a w hl) h)
   ·cases h0.1
  ·rename_i hw
   rw [if_neg hw] at h
   exact ⟨fun _ _ => trivial, Zn6 l _ w hl h⟩
theorem ZmW {ops : Array Oper} {Q : Exit → Act → World → Prop} {md : Region.Mode} (hn : Zp ZhO ops.toList = true) : ∀ (fuel : Nat) (listed : Array Bool) (a : Act) (w : World), wpAny P md ops (ZrJ Q) fuel listed a w → wpAnyIn (Fr r) 0 P md ops Q fuel listed a w
 | 0, listed, a, w, h => ⟨h.1, h.2.2⟩
 | fuel + 1, listed, a, w, h => by
  refine ⟨fun e => (h.1 e).2, fun i hi => ?_⟩
  have hi := h.2 i hi
  unfold wpOp at hi
  unfold wpOpIn
  split
  ·rename_i ho
   rw [ho] at hi
   exact ZmW hn fuel _ a w hi
  ·rename_i o ho
   rw [ho] at hi
   simp only at hi
   have hd := ZiP (ZJ hn o (by simpa using Array.mem_of_getElem? ho))
   split
   ·rename_i hw
    rw [if_pos hw] at hi
    rcases hi with hi | ⟨_, a0, w0, h0⟩
    ·exact Zn5 Zp4 hd (Oper.wp_mono (fun a w => ZmW hn fuel _ a w) hi)
    ·cases h0.1
   ·rename_i hw
    rw [if_neg hw] at hi
    exact ⟨fun _ _ => trivial, ZmW hn fuel _ _ w hi⟩
theorem Zha {c : Code} {Q Q' : Exit → Act → World → Prop} (hq : ∀ e a w, Q e a w → Q' e a w) : ∀ (n : Nat) (a : Act) (w : World), Code.roundsIn (Fr r) 0 P c Q n a w → Code.roundsIn (Fr r) 0 P c Q' n a w
 | 0, _, _, h => h
 | n + 1, a, w, h => by
  rw [roundsIn_succ] at h ⊢
  refine wpIn_mono h ?_
  intro e a1 w1 h1
  cases e with
  | normal => exact Zha hq n a1 w1 h1
  | _ => exact hq _ _ _ h1
theorem Zp5 (F : Fit P ext) : ∀ fu : Nat,
  (∀ nt c T s e T' s', ZR P ext nt fu c T s = some (e, T', s') → Zds c = true → (∀ p ∈ s'.ob, p.1 = p.2) → ∀ ι D a w, TR ι nt D T a → Emb P ι s.h.get w → Fresh ι s.n s'.n → c.wpIn (Fr r) 0 P (Zeb P ι s w nt D e T' s') a w) ∧
  (∀ nt c T s e T' s', ZR P ext nt fu (.loop c) T s = some (e, T', s') → Zds c = true → (∀ p ∈ s'.ob, p.1 = p.2) → ∀ ι D a w, TR ι nt D T a → Emb P ι s.h.get w → Fresh ι s.n s'.n → Code.roundsIn (Fr r) 0 P c (Zeb P ι s w nt D e T' s') fu a w) := by
 intro fu
 induction fu with
 | zero => exact ⟨fun _ _ _ _ _ _ _ h => by simp [ZR] at h, fun _ _ _ _ _ _ _ h => by simp [ZR] at h⟩
 | succ fu ih =>
  obtain ⟨ihC, ihL⟩ := ih
  obtain ⟨upC, upO, upP, upF, upD, upE⟩ := ZbA (P := P) (ext := ext) (fun f g hg => (F.hp f g hg).up) fu
  have loops : ∀ nt c T s e T' s', ZR P ext nt (fu + 1) (.loop c) T s = some (e, T', s') → Zds c = true → (∀ p ∈ s'.ob, p.1 = p.2) → ∀ ι D a w, TR ι nt D T a → Emb P ι s.h.get w → Fresh ι s.n s'.n → Code.roundsIn (Fr r) 0 P c (Zeb P ι s w nt D e T' s') (fu + 1) a w := by
   intro nt x T s e T' s' h hn ho ι D a w hT he hf
   simp only [ZR] at h
   rw [roundsIn_succ]
   split at h
   ·rename_i T1 s1 h1
    have u1 := upC _ _ _ _ _ _ _ h1
    have u2 := upC _ _ _ _ _ _ _ h
    refine wpIn_mono (ihC nt x T s .normal T1 s1 h1 hn (Za3 u2.ob ho) ι D a w hT he (hf.mono (Nat.le_refl _) u2.n)) ?_
    rintro ex a1 w1 ⟨rfl, ι1, g1, g2, g3⟩
    refine Zha ?_ fu a1 w1 (ihL nt x T1 s1 e T' s' h hn ho ι1 D a1 w1 g3 g1.emb (hf.after g2 u1.n))
    rintro ex2 a2 w2 ⟨rfl, ι2, k1, k2, k3⟩
    exact ⟨rfl, ι2, g1.trans k1, g2.trans k2 u1.n u2.n, k3⟩
   ·rename_i i T1 s1 h1
    injection h with h; simp only [Prod.mk.injEq] at h; obtain ⟨rfl, rfl, rfl⟩ := h
    refine wpIn_mono (ihC nt x T s _ _ _ h1 hn ho ι D a w hT he hf) ?_
    rintro ex a1 w1 ⟨rfl, hq⟩
    exact ⟨rfl, hq⟩
   ·rename_i T1 s1 h1
    injection h with h; simp only [Prod.mk.injEq] at h; obtain ⟨rfl, rfl, rfl⟩ := h
    refine wpIn_mono (ihC nt x T s _ _ _ h1 hn ho ι D a w hT he hf) ?_
    rintro ex a1 w1 ⟨rfl, hq⟩
    exact ⟨rfl, hq⟩
   ·cases h
  refine ⟨fun nt c T s e T' s' h hn ho ι D a w hT he hf => ?_, loops⟩
  have base : Zeb P ι s w nt D .normal T s .normal a w ∧ Zeb P ι s w nt D .ret T s .ret a w ∧ ∀ i, Zeb P ι s w nt D (.exit i) T s (.exit i) a w :=
   ⟨⟨rfl, ι, Step.refl he, Dom.refl, hT⟩, ⟨rfl, ι, Step.refl he, Dom.refl, hT⟩, fun i => ⟨rfl, ι, Step.refl he, Dom.refl, hT⟩⟩
  have chain : ∀ {s1 : St} {T1 : Tr Value} {c2 : Code} {a1 : Act} {w1 : World} {ι1 : Ren}, Zds c2 = true → Up s s1 → Up s1 s' → Step P ι s.h.get w ι1 s1.h.get w1 → Dom ι ι1 s.n s1.n → TR ι1 nt D T1 a1 → ZR P ext nt fu c2 T1 s1 = some (e, T', s') →
    c2.wpIn (Fr r) 0 P (Zeb P ι s w nt D e T' s') a1 w1 := fun {s1 T1 c2 a1 w1 ι1} n2 u1 u2 h1 h2 h3 h4 => by
   refine wpIn_mono (ihC nt c2 T1 s1 e T' s' h4 n2 ho ι1 D a1 w1 h3 h1.emb ((hf.mono (Nat.le_refl _) (Nat.le_refl _)).after h2 u1.n)) ?_
   rintro ex a2 w2 ⟨rfl, ι2, g1, g2, g3⟩
   exact ⟨rfl, ι2, (Step.two ⟨h1, h2⟩ ⟨g1, g2⟩ u1.n u2.n).1, (Step.two ⟨h1, h2⟩ ⟨g1, g2⟩ u1.n u2.n).2, g3⟩
  have h0 := h
  cases c <;> simp only [ZR] at h
  case skip => injection h with h; simp only [Prod.mk.injEq] at h; obtain ⟨rfl, rfl, rfl⟩ := h; exact wpIn_skip base.1
  case label l => injection h with h; simp only [Prod.mk.injEq] at h; obtain ⟨rfl, rfl, rfl⟩ := h; exact wpIn_label base.1
  case scope c => cases hn
  case ret => injection h with h; simp only [Prod.mk.injEq] at h; obtain ⟨rfl, rfl, rfl⟩ := h; exact wpIn_ret base.2.1
  case exit id => injection h with h; simp only [Prod.mk.injEq] at h; obtain ⟨rfl, rfl, rfl⟩ := h; exact wpIn_exit (base.2.2 id)
  case seq x y =>
   simp only [Zds, Bool.and_eq_true] at hn
   split at h
   ·rename_i T1 s1 h1
    have u1 := upC _ _ _ _ _ _ _ h1
    have u2 := upC _ _ _ _ _ _ _ h
    refine wpIn_seq (wpIn_mono (ihC nt x T s .normal T1 s1 h1 hn.1 (Za3 u2.ob ho) ι D a w hT he (hf.mono (Nat.le_refl _) u2.n)) ?_)
    rintro ex a1 w1 ⟨rfl, ι1, g1, g2, g3⟩
    exact chain hn.2 u1 u2 g1 g2 g3 h
   ·rename_i i T1 s1 h1
    injection h with h; simp only [Prod.mk.injEq] at h; obtain ⟨rfl, rfl, rfl⟩ := h
    refine wpIn_seq (wpIn_mono (ihC nt x T s _ _ _ h1 hn.1 ho ι D a w hT he hf) ?_)
    rintro ex a1 w1 ⟨rfl, hq⟩
    exact ⟨rfl, hq⟩
   ·rename_i T1 s1 h1
    injection h with h; simp only [Prod.mk.injEq] at h; obtain ⟨rfl, rfl, rfl⟩ := h
    refine wpIn_seq (wpIn_mono (ihC nt x T s _ _ _ h1 hn.1 ho ι D a w hT he hf) ?_)
    rintro ex a1 w1 ⟨rfl, hq⟩
    exact ⟨rfl, hq⟩
   ·cases h
  case cond x y z =>
   simp only [Zds, Bool.and_eq_true] at hn
   split at h
   ·rename_i t ht
    have hx : a.eval x = .bool t := Zea ((ht ▸ hT.opnd x : VR ι (.bool t) (Zbl a x)).bool_inv)
    split at h
    ·exact wpIn_cond_true hx (ihC nt y T s e T' s' h hn.1 ho ι D a w hT he hf)
    ·exact wpIn_cond_false hx (ihC nt z T s e T' s' h hn.2 ho ι D a w hT he hf)
   ·cases h
  case block id x =>
   simp only [Zds] at hn
   split at h
   ·rename_i i T1 s1 h1
    cases hb : Nat.beq i id with
    | true =>
     rw [hb] at h
     injection h with h; simp only [Prod.mk.injEq] at h; obtain ⟨rfl, rfl, rfl⟩ := h
     refine wpIn_block (wpIn_mono (ihC nt x T s _ _ _ h1 hn ho ι D a w hT he hf) ?_)
     rintro ex a1 w1 ⟨rfl, hq⟩
     show if i = id then _ else _
     rw [if_pos (Nat.eq_of_beq_eq_true hb)]
     exact ⟨rfl, hq⟩
    | false =>
     rw [hb] at h
     injection h with h; simp only [Prod.mk.injEq] at h; obtain ⟨rfl, rfl, rfl⟩ := h
     refine wpIn_block (wpIn_mono (ihC nt x T s _ _ _ h1 hn ho ι D a w hT he hf) ?_)
     rintro ex a1 w1 ⟨rfl, hq⟩
     show if i = id then _ else _
     rw [if_neg (fun e => by rw [Zga e] at hb; cases hb)]
     exact ⟨rfl, hq⟩
   ·rename_i T1 s1 h1
    injection h with h; simp only [Prod.mk.injEq] at h; obtain ⟨rfl, rfl, rfl⟩ := h
    refine wpIn_block (wpIn_mono (ihC nt x T s _ _ _ h1 hn ho ι D a w hT he hf) ?_)
    rintro ex a1 w1 ⟨rfl, hq⟩
    exact ⟨rfl, hq⟩
   ·rename_i T1 s1 h1
    injection h with h; simp only [Prod.mk.injEq] at h; obtain ⟨rfl, rfl, rfl⟩ := h
    refine wpIn_block (wpIn_mono (ihC nt x T s _ _ _ h1 hn ho ι D a w hT he hf) ?_)
    rintro ex a1 w1 ⟨rfl, hq⟩
    exact ⟨rfl, hq⟩
   ·cases h
  case loop x =>
   simp only [Zds] at hn
   exact wpIn_loop_rounds (fu + 1) (loops nt x T s e T' s' h0 hn ho ι D a w hT he hf)
  case region id ops draw =>
   simp only [Zds] at hn
   cases draw with
   | true =>
    simp only [cond_true] at h
    split at h
    ·rename_i es T1 s1 h1
     injection h with h; simp only [Prod.mk.injEq] at h; obtain ⟨rfl, rfl, rfl⟩ := h
     exact wpIn_region_any F.mixed (ZmW hn _ _ _ _ (Zp0 F (fun fu' _ => (Zcz F fu').2.2.1) h1 ho hT he hf fun ι' a' w' g1 g2 g3 => ⟨rfl, rfl, ι', g1, g2, g3⟩))
    ·cases h
   | false =>
   simp only [cond_false] at h
   split at h
   ·rename_i T1 s1 h1
    injection h with h; simp only [Prod.mk.injEq] at h; obtain ⟨rfl, rfl, rfl⟩ := h
    exact wpIn_region_list (Zn6 _ _ _ hn ((Zcz F fu).2.1 nt ops ops.toList T s T1 s1 h1 ho ι D a w _ hT he hf fun ι' a' w' g1 g2 g3 => ⟨rfl, rfl, ι', g1, g2, g3⟩))
   ·cases h
  all_goals cases h
end
noncomputable section
structure Cx where
 nt : Nat
 T : Tr Value
 ps : Array Tmp
 asg : Code
 body : Code
def Zts : List Tmp → List Value → Tr Value → Tr Value
 | t :: ts, v :: vs, T => Zts ts vs (T.set t (some v))
 | _, _, T => T
def isN : Ex → Bool
 | .normal => true
 | _ => false
def pend : Ex → Option Ex
 | .normal => none
 | e => some e
def Zjw (P : Program) (ext : FuncId → Option Ext) (cx : Cx) (fu : Nat) (xs : List Value) (s : St) : Option (Ex × St) :=
 bif Nat.beq xs.length cx.ps.toList.length && Zp (fun t => Nat.blt t cx.nt) cx.ps.toList && Zds cx.asg && Zds cx.body then
  match ZR P ext cx.nt fu cx.asg (Zts cx.ps.toList xs cx.T) s with
  | some (.normal, T1, s1) => match ZR P ext cx.nt fu cx.body T1 s1 with
   | some (e, _, s2) => some (e, s2)
   | none => none
  | _ => none
 else none
def ZqX (ys : List Tmp) (o : Oper) : Option (Array Operand) :=
 match o.op with
 | .call c => match c.callee with
  | .value (.tmp t) => bif ZhH t ys then some c.args else none
  | _ => none
 | _ => none
def ZmX (ys : List Tmp) (o : Oper) : Bool :=
 match o.op with
 | .move (.tmp t) => ZhH t ys
 | _ => false
def ZrK (dst : Option Tmp) (ys : List Tmp) : List Tmp := match dst with | some d => ys.filter (fun t => !Nat.beq t d) | none => ys
def addY (dst : Option Tmp) (ys : List Tmp) : List Tmp := match dst with | some d => d :: ys | none => ys
def Zfo (P : Program) (ext : FuncId → Option Ext) (nt : Nat) (cx : Cx) (fu : Nat) (ops : Array Oper) : List Oper → Tr Value → St → List Tmp → Option Ex → Option (Tr Value × St × List Tmp × Option Ex)
 | [], T, s, ys, pe => some (T, s, ys, pe)
 | o :: l, T, s, ys, pe =>
  bif Zez nt o.dst && Zp Zdn o.op.operands.toList && (ZhO o && o.guard.isNone) then
   match ZqX ys o with
   | some xs => match pe with
    | none => match Zjw P ext cx fu (xs.toList.map (opnd T)) s with
     | some (e, s1) => Zfo P ext nt cx fu ops l (ZdB T o.dst (.bool (isN e))) s1 (ZrK o.dst ys) (pend e)
     | none => none
    | some _ => none
   | none => bif ZmX ys o then Zfo P ext nt cx fu ops l (ZdB T o.dst (.chan (some 0))) s (addY o.dst ys) pe
    else match Zf6 P ext fu (opnd T) o s with
     | some (v, s1) => Zfo P ext nt cx fu ops l (ZdB T o.dst v) s1 (ZrK o.dst ys) pe
     | none => none
  else none
def evI (P : Program) (ext : FuncId → Option Ext) (nt : Nat) (cx : Cx) : Nat → Code → Tr Value → St → List Tmp → Option Ex → Option (Ex × Tr Value × St × List Tmp × Option Ex)
 | 0, _, _, _, _, _ => none
 | fu + 1, c, T, s, ys, pe => match c with
  | .skip => some (.normal, T, s, ys, pe)
  | .ret => some (.ret, T, s, ys, pe)
  | .exit id => some (.exit id, T, s, ys, pe)
  | .seq a b => match evI P ext nt cx fu a T s ys pe with
   | some (.normal, T', s', ys', pe') => evI P ext nt cx fu b T' s' ys' pe'
   | some (.exit i, r) => some (.exit i, r)
   | some (.ret, r) => some (.ret, r)
   | none => none
  | .cond x a b => match opnd T x with
   | .bool t => match t with
    | true => evI P ext nt cx fu a T s ys pe
    | false => evI P ext nt cx fu b T s ys pe
   | _ => none
  | .block id a => match evI P ext nt cx fu a T s ys pe with
   | some (.exit i, r) => bif Nat.beq i id then some (.normal, r) else some (.exit i, r)
   | some (.normal, r) => some (.normal, r)
   | some (.ret, r) => some (.ret, r)
   | none => none
  | .loop a => match evI P ext nt cx fu a T s ys pe with
   | some (.normal, T', s', ys', pe') => evI P ext nt cx fu (.loop a) T' s' ys' pe'
   | some (.exit i, r) => some (.exit i, r)
   | some (.ret, r) => some (.ret, r)
   | none => none
  | .region _ ops draw => match draw with
   | true => none
   | false => match Zfo P ext nt cx fu ops ops.toList T s ys pe with
    | some (T', s', ys', pe') => some (.normal, T', s', ys', pe')
    | none => none
  | _ => none
def Zp6 (P : Program) (ext : FuncId → Option Ext) (nt fu : Nat) (g : Operand) (ps : Array Tmp) (asg body : Code) (T : Tr Value) (s : St) : Option (Ex × St) :=
 match opnd T g with
 | .func (.func gf) av bv => match P.funcs[gf]? with
  | some fn => match fn.body with
   | some c => bif Zdn g && Nat.ble (av ++ #[Value.chan (some 0)] ++ bv).size fn.ntmps && Nat.beq fn.results.toList.length 0 then
     match evI P ext fn.ntmps ⟨nt, T, ps, asg, body⟩ fu c (ZcF 0 (av ++ #[Value.chan (some 0)] ++ bv).toList .nil) s [av.size] none with
     | some (.exit _, _) => none
     | some (_, _, s', _, none) => some (.normal, s')
     | some (_, _, s', _, some e) => bif isN e then none else some (e, s')
     | none => none
    else none
   | none => none
  | none => none
 | _ => none
def evR (P : Program) (ext : FuncId → Option Ext) (nt : Nat) : Nat → Code → Tr Value → St → Bool → Option (Ex × Tr Value × St × Bool)
 | 0, _, _, _, _ => none
 | fu + 1, c, T, s, m => match c with
  | .seq a b => match evR P ext nt fu a T s m with
   | some (.normal, T', s', m') => evR P ext nt fu b T' s' m'
   | some (.exit i, r) => some (.exit i, r)
   | some (.ret, r) => some (.ret, r)
   | none => none
  | .cond x a b => match opnd T x with
   | .bool t => match t with
    | true => evR P ext nt fu a T s m
    | false => evR P ext nt fu b T s m
   | _ => none
  | .block id a => match evR P ext nt fu a T s m with
   | some (.exit i, r) => bif Nat.beq i id then some (.normal, r) else some (.exit i, r)
   | some (.normal, r) => some (.normal, r)
   | some (.ret, r) => some (.ret, r)
   | none => none
  | .rangeFunc g ps asg body => bif m then none else match Zp6 P ext nt fu g ps asg body T s with
   | some (e, s') => some (e, T, s', true)
   | none => none
  | .region i ops draw => match ZR P ext nt (fu + 1) (.region i ops draw) T s with
   | some (e, T', s') => some (e, T', s', m)
   | none => none
  | .loop a => match ZR P ext nt (fu + 1) (.loop a) T s with
   | some (e, T', s') => some (e, T', s', m)
   | none => none
  | .skip => some (.normal, T, s, m)
  | .ret => some (.ret, T, s, m)
  | .exit id => some (.exit id, T, s, m)
  | _ => none
def Zjx (P : Program) (ext : FuncId → Option Ext) (fu : Nat) (f : FuncId) (args : Array Value) (s : St) : Out :=
 match P.funcs[f]? with
 | some fn => match fn.body with
  | some c => bif Nat.ble args.size fn.ntmps then match evR P ext fn.ntmps fu c (ZcF 0 args.toList .nil) s false with
   | some (.exit _, _) => none
   | some (_, T, s', _) => match Zbp P T s' fn.results.toList with
    | some [v] => some (v, s')
    | some vs => some (.tuple vs.toArray, s')
    | none => none
   | none => none
   else none
  | none => none
 | none => none
end
section
variable {P : Program} {ext : FuncId → Option Ext}
theorem Step.put {ι0 ι : Ren} {h0 h : AH} {w0 W : World} (st : Step P ι0 h0 w0 ι h W) {l : Nat} (hl : w0.heap.size ≤ l) (hn : ∀ k b, ZY (h k) b = true ∨ ZW k → ι k = some b → b.1 ≠ l) (o : Obj) : Step P ι0 h0 w0 ι h (W.putObj l o) where
 ext := st.ext
 emb := ⟨fun k c t q hk => by
   obtain ⟨b, q1, hz⟩ := st.emb.obj k c t q hk
   exact ⟨b, q1, hz.imp id fun ⟨q0, C, q2, q3⟩ => ⟨q0, C, q2.on (World.putObj_heap_other (hn k b (.inl (by rw [hk]; exact ZbR q0)) q1)), q3⟩⟩,
  fun k O hk => by
   obtain ⟨b, q1, q2⟩ := st.emb.ro k O hk
   exact ⟨b, q1, q2.on (World.putObj_heap_other (hn k b (.inl (by rw [hk]; rfl)) q1))⟩, st.emb.inj, fun k b hk => by
   have := st.emb.lt k b hk
   simpa [World.putObj] using this, fun b base id q hq => by
   obtain ⟨m1, m2, m3⟩ := st.emb.mks b base id q hq
   exact ⟨m1, ⟨m2.1.ext (fun _ _ h => h) (World.putObj_heap_other (by rw [← m1]; exact hn _ q (.inr (Zd1 b base id)) hq)), m2.2⟩, m3⟩, st.emb.tb⟩
 os := st.os
 tape := st.tape
 output := st.output
 size := by have := st.size; simpa [World.putObj] using this
 frame := fun b hb hc => (World.putObj_heap_other (by omega)).trans (st.frame b hb hc)
 new := st.new
 alive := st.alive
 kind := st.kind
structure IS (P : Program) (ι0 : Ren) (h0 : AH) (w0 : World) (n0 : Nat) (cn : Nat) (cT : Tr Value) (ac : Act) (l K : Nat) (R : Loop) (ι : Ren) (s : St) (W : World) : Prop where
 st : Step P ι0 h0 w0 ι s.h.get W
 dm : Dom ι0 ι n0 s.n
 hn : n0 ≤ s.n
 tr : TR ι cn [] cT { tmps := ac.tmps, defers := [] }
 lo : W.heap[l]? = some (.loop R)
 de : W.heap[K]? = some (.deferred (some []))
 ll : w0.heap.size ≤ l
 lk : K ≠ l
 nl : ∀ k b, ZY (s.h.get k) b = true ∨ ZW k → ι k = some b → b.1 ≠ l ∧ b.1 ≠ K
theorem ZjS {ι ι1 : Ren} {h h1 : AH} {W W1 : World} (g : Step P ι h W ι1 h1 W1) {l : Nat} (hl : l < W.heap.size) (hn : ∀ k b, ZY (h k) b = true ∨ ZW k → ι k = some b → b.1 ≠ l) : (∀ k b, ZY (h1 k) b = true ∨ ZW k → ι1 k = some b → b.1 ≠ l) ∧ W1.heap[l]? = W.heap[l]? := by
 refine ⟨fun k b hs hk => ?_, g.frame l hl fun k c hc0 hc => hn k c (.inl (ZbR hc0)) hc⟩
 cases hi : ι k with
 | some c =>
  have := g.ext k c hi
  rw [hk] at this
  injection this with this
  subst this
  exact hn k _ (hs.imp (fun h => g.alive k _ h hi) id) hi
 | none =>
  rcases g.new k b hi hk hs with h | ⟨j, c, hj0, hj, e⟩
  ·omega
  ·rw [← e]; exact hn j c (.inl (ZbR hj0)) hj
section
variable {ι0 : Ren} {h0 : AH} {w0 : World} {n0 cn : Nat} {cT : Tr Value} {ac : Act} {l K : Nat} {R : Loop}
theorem IS.step {ι ι1 : Ren} {s s1 : St} {W W1 : World} (I : IS P ι0 h0 w0 n0 cn cT ac l K R ι s W) (g1 : Step P ι s.h.get W ι1 s1.h.get W1) (g2 : Dom ι ι1 s.n s1.n) (hle : s.n ≤ s1.n) : IS P ι0 h0 w0 n0 cn cT ac l K R ι1 s1 W1 := by
 have hl : l < W.heap.size := (Array.getElem?_eq_some_iff.1 I.lo).1
 have hk : K < W.heap.size := (Array.getElem?_eq_some_iff.1 I.de).1
 obtain ⟨a1, a2⟩ := ZjS g1 hl fun k b hs h => (I.nl k b hs h).1
 obtain ⟨b1, b2⟩ := ZjS g1 hk fun k b hs h => (I.nl k b hs h).2
 exact ⟨I.st.trans g1, I.dm.trans g2 I.hn hle, Nat.le_trans I.hn hle, I.tr.on g1.ext, a2.trans I.lo, b2.trans I.de, I.ll, I.lk, fun k b hs h => ⟨a1 k b hs h, b1 k b hs h⟩⟩
theorem IS.put {ι : Ren} {s : St} {W : World} (I : IS P ι0 h0 w0 n0 cn cT ac l K R ι s W) (R' : Loop) : IS P ι0 h0 w0 n0 cn cT ac l K R' ι s (W.putObj l (.loop R')) := by
 have hl : l < W.heap.size := (Array.getElem?_eq_some_iff.1 I.lo).1
 exact ⟨I.st.put I.ll (fun k b hs h => (I.nl k b hs h).1) _, I.dm, I.hn, I.tr, World.putObj_heap_same hl, (World.putObj_heap_other I.lk).trans I.de, I.ll, I.lk, I.nl⟩
end
def ZuQ : Ex → Code
 | .exit i => .exit i
 | _ => .ret
def Rp (R : Loop) : Option Ex → Loop
 | none => { R with state := .ready, pending := none }
 | some e => { R with state := .done, pending := some (ZuQ e) }
theorem Zs2 {ι : Ren} {nt : Nat} : ∀ (ps : List Tmp) (xs xs' : List Value) (T : Tr Value) (t : Array Value), TR ι nt [] T { tmps := t, defers := [] } → xs.length = ps.length → VRs ι xs.toArray xs'.toArray → Zp (fun t => Nat.blt t nt) ps = true →
  TR ι nt [] (Zts ps xs T) { tmps := (ps.zip xs').foldl (fun t p => t.setIfInBounds p.1 p.2) t, defers := [] }
 | [], xs, xs', T, t, hT, hl, hx, hp => by
  cases xs with
  | nil => exact hT
  | cons x xs => simp at hl
 | p :: ps, [], xs', T, t, hT, hl, hx, hp => by simp at hl
 | p :: ps, x :: xs, [], T, t, hT, hl, hx, hp => by have := hx.1; simp at this
 | p :: ps, x :: xs, x' :: xs', T, t, hT, hl, hx, hp => by
  have hp1 : Zez nt (some p) = true := ZJ hp p (List.mem_cons_self ..)
  have hp2 : Zp (fun t => Nat.blt t nt) ps = true := Zn1 fun y hy => ZJ hp y (List.mem_cons_of_mem _ hy)
  have h1 : VR ι x x' := hx.2 0 x x' (by simp) (by simp)
  have h2 : VRs ι xs.toArray xs'.toArray := ⟨by have := hx.1; simpa using this, fun i y y' hy hy' => hx.2 (i + 1) y y' (by simpa using hy) (by simpa using hy')⟩
  exact Zs2 ps xs xs' (T.set p (some x)) (t.setIfInBounds p x') (hT.put (dst := some p) hp1 h1) (by simpa using hl) h2 hp2
section
variable {ι0 : Ren} {h0 : AH} {w0 : World} {n0 : Nat} {ac : Act} {l K : Nat} {R : Loop} {cx : Cx}
theorem Zq2 (F : Fit P ext) {fu : Nat} {xs : List Value} {s s' : St} {e : Ex} (h : Zjw P ext cx fu xs s = some (e, s')) (ho : ∀ p ∈ s'.ob, p.1 = p.2) {ι : Ren} {W : World}
  (hR : R.tmps = ac.tmps ∧ R.params = cx.ps ∧ R.assign = cx.asg ∧ R.body = cx.body) (I : IS P ι0 h0 w0 n0 cx.nt cx.T ac l K (Rp R none) ι s W) (hf : Fresh ι s.n s'.n) {xs' : Array Value} (hx : VRs ι xs.toArray xs') :
  ∃ tm, (Instr.yield l xs').run P W = .ok (.round l R.fn tm cx.asg cx.body) W ∧
   RoundIn (Fr none) 0 P l R.fn tm cx.asg cx.body W fun en W' => en = .returned (.bool (isN e)) ∧ ∃ ι', (∀ k b, ι k = some b → ι' k = some b) ∧ Dom ι ι' s.n s'.n ∧ IS P ι0 h0 w0 n0 cx.nt cx.T ac l K (Rp R (pend e)) ι' s' W' := by
 unfold Zjw at h
 obtain ⟨hg, h⟩ := Zl h
 simp only [Bool.and_eq_true] at hg
 obtain ⟨⟨⟨hl, hps⟩, hna⟩, hnb⟩ := hg
 have hl := Nat.eq_of_beq_eq_true hl
 obtain ⟨upC, _⟩ := ZbA (P := P) (ext := ext) (fun f g hg => (F.hp f g hg).up) fu
 split at h
 ·rename_i T1 s1 h1
  split at h
  ·rename_i e' T2 s2 h2
   injection h with h; injection h with q1 q2; subst q1 q2
   have u1 := upC _ _ _ _ _ _ _ h1
   have u2 := upC _ _ _ _ _ _ _ h2
   have hy := run_yield (P := P) (args := xs') I.lo (by
    show xs'.size = R.params.size
    rw [hR.2.1]
    have a := hx.1
    have b := hl
    simp only [List.size_toArray, Array.length_toList] at a b
    omega)
   have e1 : (Rp R none).tmps = ac.tmps := hR.1
   have e2 : (Rp R none).params = cx.ps := hR.2.1
   have e3 : (Rp R none).assign = cx.asg := hR.2.2.1
   have e4 : (Rp R none).body = cx.body := hR.2.2.2
   have e5 : (Rp R none).fn = R.fn := rfl
   rw [e1, e2, e3, e4, e5] at hy
   refine ⟨_, hy, ?_⟩
   have htr := Zs2 cx.ps.toList xs xs'.toList cx.T ac.tmps I.tr hl (by simpa using hx) hps
   have hfold : (cx.ps.zip xs').foldl (fun (tmps : Array Value) (x : Tmp × Value) => match x with | (t, a) => tmps.setIfInBounds t a) ac.tmps = (cx.ps.toList.zip xs'.toList).foldl (fun t p => t.setIfInBounds p.1 p.2) ac.tmps := by
    rw [← Array.foldl_toList, Array.toList_zip]
   rw [hfold]
   refine roundIn_of_wpIn (F := Fr none) trivial ?_
   refine wpIn_mono (((Zp5 (r := some l) F fu).1 cx.nt cx.asg _ s .normal T1 s1 h1 hna (Za3 u2.ob ho) ι [] _ W htr I.st.emb (hf.mono (Nat.le_refl _) u2.n)) : Code.wpIn (Fr (some l)) 0 P _ _ _ W) ?_
   rintro ex a1 w1 ⟨rfl, ι1, g1, g2, g3⟩
   have I1 := I.step g1 g2 u1.n
   refine ⟨_, run_beginRound I1.lo rfl, ?_⟩
   have I2 := I1.put { Rp R none with state := .busy }
   refine wpIn_mono (((Zp5 (r := some l) F fu).1 cx.nt cx.body T1 s1 e' T2 s2 h2 hnb ho ι1 [] a1 _ g3 I2.st.emb (hf.after g2 u1.n)) : Code.wpIn (Fr (some l)) 0 P _ _ _ _) ?_
   rintro ex a2 w2 ⟨rfl, ι2, k1, k2, k3⟩
   have I3 := I2.step k1 k2 u2.n
   have hext : ∀ k b, ι k = some b → ι2 k = some b := fun k b hk => k1.ext k b (g1.ext k b hk)
   have hdom : Dom ι ι2 s.n s2.n := g2.trans k2 u1.n u2.n
   cases e' with
   | normal => exact ⟨_, _, run_endRound none I3.lo, rfl, ι2, hext, hdom, I3.put _⟩
   | ret => exact ⟨_, _, run_endRound (some .ret) I3.lo, rfl, ι2, hext, hdom, I3.put _⟩
   | exit i => exact ⟨_, _, run_endRound (some (.exit i)) I3.lo, rfl, ι2, hext, hdom, I3.put _⟩
  ·cases h
 ·cases h
end
end
section
variable {P : Program} {ext : FuncId → Option Ext}
theorem Zp7 (F : Fit P ext) {cx : Cx} {fu : Nat} {xs : List Value} {s s' : St} {e : Ex} (h : Zjw P ext cx fu xs s = some (e, s')) : Up s s' := by
 unfold Zjw at h
 obtain ⟨_, h⟩ := Zl h
 obtain ⟨upC, _⟩ := ZbA (P := P) (ext := ext) (fun f g hg => (F.hp f g hg).up) fu
 split at h
 ·rename_i T1 s1 h1
  split at h
  ·rename_i e' T2 s2 h2
   injection h with h; injection h with q1 q2; subst q1 q2
   exact (upC _ _ _ _ _ _ _ h1).trans (upC _ _ _ _ _ _ _ h2)
  ·cases h
 ·cases h
theorem Zh1 (F : Fit P ext) {nt : Nat} {cx : Cx} {fu : Nat} {ops : Array Oper} : ∀ (l : List Oper) (T : Tr Value) (s : St) (ys : List Tmp) (pe : Option Ex) (T' : Tr Value) (s' : St) (ys' : List Tmp) (pe' : Option Ex), Zfo P ext nt cx fu ops l T s ys pe = some (T', s', ys', pe') → Up s s'
 | [], T, s, ys, pe, T', s', ys', pe', h => by
  simp only [Zfo] at h
  injection h with h; simp only [Prod.mk.injEq] at h; obtain ⟨rfl, rfl, rfl, rfl⟩ := h
  exact Up.refl _
 | o :: l, T, s, ys, pe, T', s', ys', pe', h => by
  simp only [Zfo] at h
  obtain ⟨_, h⟩ := Zl h
  split at h
  ·split at h
   ·split at h
    ·rename_i e s1 h1
     exact (Zp7 F h1).trans (Zh1 F l _ _ _ _ _ _ _ _ h)
    ·cases h
   ·cases h
  ·cases hm : ZmX ys o with
   | true => rw [hm] at h; exact Zh1 F l _ _ _ _ _ _ _ _ h
   | false =>
    rw [hm] at h
    simp only [cond_false] at h
    split at h
    ·rename_i v s1 h1
     exact ((ZbA (P := P) (ext := ext) (fun f g hg => (F.hp f g hg).up) fu).2.2.1 _ _ _ _ _ h1).trans (Zh1 F l _ _ _ _ _ _ _ _ h)
    ·cases h
theorem ZdH (F : Fit P ext) {nt : Nat} {cx : Cx} : ∀ (fu : Nat) (c : Code) (T : Tr Value) (s : St) (ys : List Tmp) (pe : Option Ex) (e : Ex) (T' : Tr Value) (s' : St) (ys' : List Tmp) (pe' : Option Ex), evI P ext nt cx fu c T s ys pe = some (e, T', s', ys', pe') → Up s s'
 | 0, _, _, _, _, _, _, _, _, _, _, h => by simp [evI] at h
 | fu + 1, c, T, s, ys, pe, e, T', s', ys', pe', h => by
  cases c <;> simp only [evI] at h
  case skip => injection h with h; simp only [Prod.mk.injEq] at h; obtain ⟨rfl, rfl, rfl, rfl, rfl⟩ := h; exact Up.refl _
  case ret => injection h with h; simp only [Prod.mk.injEq] at h; obtain ⟨rfl, rfl, rfl, rfl, rfl⟩ := h; exact Up.refl _
  case exit id => injection h with h; simp only [Prod.mk.injEq] at h; obtain ⟨rfl, rfl, rfl, rfl, rfl⟩ := h; exact Up.refl _
  case seq x y =>
   split at h
   ·rename_i T1 s1 ys1 pe1 h1; exact (ZdH F fu _ _ _ _ _ _ _ _ _ _ h1).trans (ZdH F fu _ _ _ _ _ _ _ _ _ _ h)
   ·rename_i i r h1; injection h with h; simp only [Prod.mk.injEq] at h; obtain ⟨rfl, rfl⟩ := h; exact ZdH F fu _ _ _ _ _ _ _ _ _ _ h1
   ·rename_i r h1; injection h with h; simp only [Prod.mk.injEq] at h; obtain ⟨rfl, rfl⟩ := h; exact ZdH F fu _ _ _ _ _ _ _ _ _ _ h1
   ·cases h
  case cond x y z =>
   split at h
   ·split at h
    ·exact ZdH F fu _ _ _ _ _ _ _ _ _ _ h
    ·exact ZdH F fu _ _ _ _ _ _ _ _ _ _ h
   ·cases h
  case block id x =>
   split at h
   ·rename_i i r h1
    cases hb : Nat.beq i id with
    | true => rw [hb] at h; injection h with h; simp only [Prod.mk.injEq] at h; obtain ⟨rfl, rfl⟩ := h; exact ZdH F fu _ _ _ _ _ _ _ _ _ _ h1
    | false => rw [hb] at h; injection h with h; simp only [Prod.mk.injEq] at h; obtain ⟨rfl, rfl⟩ := h; exact ZdH F fu _ _ _ _ _ _ _ _ _ _ h1
   ·rename_i r h1; injection h with h; simp only [Prod.mk.injEq] at h; obtain ⟨rfl, rfl⟩ := h; exact ZdH F fu _ _ _ _ _ _ _ _ _ _ h1
   ·rename_i r h1; injection h with h; simp only [Prod.mk.injEq] at h; obtain ⟨rfl, rfl⟩ := h; exact ZdH F fu _ _ _ _ _ _ _ _ _ _ h1
   ·cases h
  case loop x =>
   split at h
   ·rename_i T1 s1 ys1 pe1 h1; exact (ZdH F fu _ _ _ _ _ _ _ _ _ _ h1).trans (ZdH F fu _ _ _ _ _ _ _ _ _ _ h)
   ·rename_i i r h1; injection h with h; simp only [Prod.mk.injEq] at h; obtain ⟨rfl, rfl⟩ := h; exact ZdH F fu _ _ _ _ _ _ _ _ _ _ h1
   ·rename_i r h1; injection h with h; simp only [Prod.mk.injEq] at h; obtain ⟨rfl, rfl⟩ := h; exact ZdH F fu _ _ _ _ _ _ _ _ _ _ h1
   ·cases h
  case region id ops draw =>
   split at h
   ·cases h
   ·split at h
    ·rename_i T1 s1 ys1 pe1 h1
     injection h with h; simp only [Prod.mk.injEq] at h; obtain ⟨rfl, rfl, rfl, rfl, rfl⟩ := h
     exact Zh1 F _ _ _ _ _ _ _ _ _ h1
    ·cases h
  all_goals cases h
def YS (l : Nat) (ys : List Tmp) (a : Act) : Prop := ∀ t ∈ ys, a.tmps.getD t undef = .func (.yield l) #[] #[]
theorem YS.drop {l : Nat} {ys : List Tmp} {a : Act} {nt : Nat} (h : YS l ys a) (hs : a.tmps.size = nt) {dst : Option Tmp} (hd : Zez nt dst = true) (v : Value) : YS l (ZrK dst ys) (a.put dst v) := fun t ht => by
 rw [Zmo hs hd]
 cases dst with
 | none => rw [if_neg (by simp)]; exact h t ht
 | some d =>
  have ht : t ∈ ys.filter (fun t => !Nat.beq t d) := ht
  obtain ⟨h1, h2⟩ := List.mem_filter.1 ht
  have : ¬ d = t := fun e => by subst e; simp at h2
  rw [if_neg (by simpa using this)]
  exact h t h1
theorem YS.add {l : Nat} {ys : List Tmp} {a : Act} {nt : Nat} (h : YS l ys a) (hs : a.tmps.size = nt) {dst : Option Tmp} (hd : Zez nt dst = true) : YS l (addY dst ys) (a.put dst (.func (.yield l) #[] #[])) := fun t ht => by
 rw [Zmo hs hd]
 split
 ·rfl
 ·rename_i hne
  cases dst with
  | none => exact h t ht
  | some d =>
   rcases List.mem_cons.1 (show t ∈ d :: ys from ht) with rfl | ht
   ·exact absurd rfl hne
   ·exact h t ht
section
variable {ι0 : Ren} {h0 : AH} {w0 : World} {n0 : Nat} {ac : Act} {l0 K : Nat} {R : Loop} {cx : Cx}
theorem Zhs (F : Fit P ext) (hR : R.tmps = ac.tmps ∧ R.params = cx.ps ∧ R.assign = cx.asg ∧ R.body = cx.body) {nt fu : Nat} {ops : Array Oper} : ∀ (l : List Oper) (T : Tr Value) (s : St) (ys : List Tmp) (pe : Option Ex) (T' : Tr Value) (s' : St) (ys' : List Tmp) (pe' : Option Ex), Zfo P ext nt cx fu ops l T s ys pe = some (T', s', ys', pe') → (∀ p ∈ s'.ob, p.1 = p.2) →
  ∀ ι a W (Q : Exit → Act → World → Prop), TR ι nt [] T a → YS l0 ys a → IS P ι0 h0 w0 n0 cx.nt cx.T ac l0 K (Rp R pe) ι s W → Fresh ι s.n s'.n →
   (∀ ι' a' W', TR ι' nt [] T' a' → YS l0 ys' a' → IS P ι0 h0 w0 n0 cx.nt cx.T ac l0 K (Rp R pe') ι' s' W' → Dom ι ι' s.n s'.n → Q .normal a' W') → wpListIn (Fr none) 0 P ops Q l a W
 | [], T, s, ys, pe, T', s', ys', pe', h, ho, ι, a, W, Q, hT, hY, I, hf, hQ => by
  simp only [Zfo] at h
  injection h with h; simp only [Prod.mk.injEq] at h; obtain ⟨rfl, rfl, rfl, rfl⟩ := h
  exact hQ ι a W hT hY I Dom.refl
 | o :: l, T, s, ys, pe, T', s', ys', pe', h, ho, ι, a, W, Q, hT, hY, I, hf, hQ => by
  simp only [Zfo] at h
  obtain ⟨hg, h⟩ := Zl h
  simp only [Bool.and_eq_true] at hg
  obtain ⟨⟨hd, hgo⟩, hnd, hgu⟩ := hg
  have hnd := ZiP hnd
  have hgu : o.guard = none := by simpa using hgu
  have hwant : Region.wanted o (yielded ops a.tmps) = true := (ZdE (ops := ops) (s := s) (s' := s) (b := true) (fun t _ => hT.2.2 t) (by simp [Zeo, hgu])).1
  unfold wpListIn
  rw [if_pos hwant]
  split at h
  ·rename_i xs hy
   have hy : ∃ c t, o.op = .call c ∧ c.callee = .value (.tmp t) ∧ t ∈ ys ∧ c.args = xs := by
    unfold ZqX at hy
    split at hy
    ·rename_i c hop
     split at hy
     ·rename_i t hc
      obtain ⟨hm, hy⟩ := Zl hy
      injection hy with hy
      exact ⟨c, t, hop, hc, ZeD.1 hm, hy⟩
     ·cases hy
    ·cases hy
   obtain ⟨c, t, hop, hc, ht, rfl⟩ := hy
   split at h
   ·split at h
    ·rename_i e s1 h1
     have u1 := Zp7 F h1
     have u2 := Zh1 F _ _ _ _ _ _ _ _ _ h
     have hx : VRs ι (c.args.toList.map (opnd T)).toArray (c.args.map (Zbl a)) := by
      have := Zjt hT.opnd c.args
      rwa [show (c.args.toList.map (opnd T)).toArray = c.args.map (opnd T) by rw [← Array.toList_map]]
     obtain ⟨tm, hrun, hround⟩ := Zq2 F h1 (Za3 u2.ob ho) hR I (hf.mono (Nat.le_refl _) u2.n) hx
     have hex : (execOp a.eval o).run P W = .ok (.round l0 R.fn tm cx.asg cx.body) W := by
      rw [← ZfG (fun cs b e => by rw [hop] at e; cases e) hgo, ← hrun]
      have hv : Zbl a (.tmp t) = .func (.yield l0) #[] #[] := hY t ht
      simp [execOp, hop, resolve, hc, hv, Deferred.ofValue, invoke, Result.andThen, Sem.run]
     refine ⟨fun _ _ => trivial, ?_⟩
     rw [show (Fr none).round = none from rfl, Oper.semAt_none, hex, Oper.uponIn_round]
     refine ⟨fun e => (by cases e), hround.mono ?_⟩
     rintro en W' ⟨rfl, ι', hext, hdom, I'⟩
     refine Zhs F hR l _ s1 _ _ T' s' ys' pe' h ho ι' _ W' Q ((hT.on hext).put hd (VR.of_free rfl)) (hY.drop hT.1 hd _) I' (hf.after hdom u1.n) fun ι2 a2 W2 k1 k2 k3 k4 => hQ ι2 a2 W2 k1 k2 k3 (hdom.trans k4 u1.n u2.n)
    ·cases h
   ·cases h
  ·cases hm : ZmX ys o with
   | true =>
    rw [hm] at h
    simp only [cond_true] at h
    have hm : ∃ t, o.op = .move (.tmp t) ∧ t ∈ ys := by
     unfold ZmX at hm
     split at hm
     ·rename_i t hop; exact ⟨t, hop, ZeD.1 hm⟩
     ·cases hm
    obtain ⟨t, hop, ht⟩ := hm
    have hv : a.eval (.tmp t) = .func (.yield l0) #[] #[] := hY t ht
    refine ⟨fun _ _ => trivial, ?_⟩
    rw [show (Fr none).round = none from rfl, Oper.semAt_none]
    have hex : (execOp a.eval o).run P W = .ok (.value (.func (.yield l0) #[] #[])) W := by
     unfold execOp; rw [hop]; simp only; rw [hv]; rfl
    rw [hex, Oper.uponIn_value]
    exact Zhs F hR l _ s _ pe T' s' ys' pe' h ho ι _ W Q (hT.put hd (VR.glob rfl)) (hY.add hT.1 hd) I hf hQ
   | false =>
    rw [hm] at h
    simp only [cond_false] at h
    split at h
    ·rename_i v s1 hv
     have u1 := (ZbA (P := P) (ext := ext) (fun f g hg => (F.hp f g hg).up) fu).2.2.1 _ _ _ _ _ hv
     have u2 := Zh1 F _ _ _ _ _ _ _ _ _ h
     refine Zn5 (r := none) (Q0 := fun _ _ _ => False) (fun _ _ _ _ h => h) hnd ((Zcz F fu).2.2.1 (opnd T) (Zbl a) o s v s1 hv (Za3 u2.ob ho) ι W hT.opnd I.st.emb (hf.mono (Nat.le_refl _) u2.n) a _ _ (ZfG (ZjP hv) hgo).symm fun v' w' ι' g1 g2 g3 => ?_)
     exact Zhs F hR l _ s1 _ pe T' s' ys' pe' h ho ι' _ w' Q ((hT.on g1.ext).put hd g3) (hY.drop hT.1 hd _) (I.step g1 g2 u1.n) (hf.after g2 u1.n) fun ι2 a2 W2 k1 k2 k3 k4 => hQ ι2 a2 W2 k1 k2 k3 (g2.trans k4 u1.n u2.n)
    ·cases h
end
end
section
variable {P : Program} {ext : FuncId → Option Ext}
section
variable {ι0 : Ren} {h0 : AH} {w0 : World} {n0 : Nat} {ac : Act} {l0 K : Nat} {R : Loop} {cx : Cx}
def ZmY (P : Program) (ι0 : Ren) (h0 : AH) (w0 : World) (n0 : Nat) (cx : Cx) (ac : Act) (l0 K : Nat) (R : Loop) (nt : Nat) (ι : Ren) (s : St) (e : Ex) (T' : Tr Value) (s' : St) (ys' : List Tmp) (pe' : Option Ex) (ex : Exit) (a' : Act) (W' : World) : Prop :=
 ex = e.out ∧ ∃ ι', TR ι' nt [] T' a' ∧ YS l0 ys' a' ∧ IS P ι0 h0 w0 n0 cx.nt cx.T ac l0 K (Rp R pe') ι' s' W' ∧ Dom ι ι' s.n s'.n
theorem Zn7 (F : Fit P ext) (hR : R.tmps = ac.tmps ∧ R.params = cx.ps ∧ R.assign = cx.asg ∧ R.body = cx.body) {nt : Nat} : ∀ fu : Nat,
  (∀ c T s ys pe e T' s' ys' pe', evI P ext nt cx fu c T s ys pe = some (e, T', s', ys', pe') → (∀ p ∈ s'.ob, p.1 = p.2) → ∀ ι a W, TR ι nt [] T a → YS l0 ys a → IS P ι0 h0 w0 n0 cx.nt cx.T ac l0 K (Rp R pe) ι s W → Fresh ι s.n s'.n →
   c.wpIn (Fr none) 0 P (ZmY P ι0 h0 w0 n0 cx ac l0 K R nt ι s e T' s' ys' pe') a W) ∧
  (∀ c T s ys pe e T' s' ys' pe', evI P ext nt cx fu (.loop c) T s ys pe = some (e, T', s', ys', pe') → (∀ p ∈ s'.ob, p.1 = p.2) → ∀ ι a W, TR ι nt [] T a → YS l0 ys a → IS P ι0 h0 w0 n0 cx.nt cx.T ac l0 K (Rp R pe) ι s W → Fresh ι s.n s'.n →
   Code.roundsIn (Fr none) 0 P c (ZmY P ι0 h0 w0 n0 cx ac l0 K R nt ι s e T' s' ys' pe') fu a W) := by
 intro fu
 induction fu with
 | zero => exact ⟨fun _ _ _ _ _ _ _ _ _ _ h => by simp [evI] at h, fun _ _ _ _ _ _ _ _ _ _ h => by simp [evI] at h⟩
 | succ fu ih =>
  obtain ⟨ihC, ihL⟩ := ih
  have two : ∀ {ι ι1 : Ren} {s s1 s' : St} {e : Ex} {T' : Tr Value} {ys' : List Tmp} {pe' : Option Ex}, Dom ι ι1 s.n s1.n → s.n ≤ s1.n → s1.n ≤ s'.n → ∀ ex a W, ZmY P ι0 h0 w0 n0 cx ac l0 K R nt ι1 s1 e T' s' ys' pe' ex a W → ZmY P ι0 h0 w0 n0 cx ac l0 K R nt ι s e T' s' ys' pe' ex a W :=
   fun hd h1 h2 ex a W ⟨hx, ι', k1, k2, k3, k4⟩ => ⟨hx, ι', k1, k2, k3, hd.trans k4 h1 h2⟩
  have loops : ∀ c T s ys pe e T' s' ys' pe', evI P ext nt cx (fu + 1) (.loop c) T s ys pe = some (e, T', s', ys', pe') → (∀ p ∈ s'.ob, p.1 = p.2) → ∀ ι a W, TR ι nt [] T a → YS l0 ys a → IS P ι0 h0 w0 n0 cx.nt cx.T ac l0 K (Rp R pe) ι s W → Fresh ι s.n s'.n →
    Code.roundsIn (Fr none) 0 P c (ZmY P ι0 h0 w0 n0 cx ac l0 K R nt ι s e T' s' ys' pe') (fu + 1) a W := by
   intro x T s ys pe e T' s' ys' pe' h ho ι a W hT hY I hf
   simp only [evI] at h
   rw [roundsIn_succ]
   split at h
   ·rename_i T1 s1 ys1 pe1 h1
    have u1 := ZdH F fu _ _ _ _ _ _ _ _ _ _ h1
    have u2 := ZdH F fu _ _ _ _ _ _ _ _ _ _ h
    refine wpIn_mono (ihC x T s ys pe .normal T1 s1 ys1 pe1 h1 (Za3 u2.ob ho) ι a W hT hY I (hf.mono (Nat.le_refl _) u2.n)) ?_
    rintro ex a1 w1 ⟨rfl, ι1, g1, g2, g3, g4⟩
    exact Zha (two g4 u1.n u2.n) fu a1 w1 (ihL x T1 s1 ys1 pe1 e T' s' ys' pe' h ho ι1 a1 w1 g1 g2 g3 (hf.after g4 u1.n))
   ·rename_i i r h1
    injection h with h; simp only [Prod.mk.injEq] at h; obtain ⟨rfl, rfl⟩ := h
    refine wpIn_mono (ihC x T s ys pe _ _ _ _ _ h1 ho ι a W hT hY I hf) ?_
    rintro ex a1 w1 ⟨rfl, hq⟩
    exact ⟨rfl, hq⟩
   ·rename_i r h1
    injection h with h; simp only [Prod.mk.injEq] at h; obtain ⟨rfl, rfl⟩ := h
    refine wpIn_mono (ihC x T s ys pe _ _ _ _ _ h1 ho ι a W hT hY I hf) ?_
    rintro ex a1 w1 ⟨rfl, hq⟩
    exact ⟨rfl, hq⟩
   ·cases h
  refine ⟨fun c T s ys pe e T' s' ys' pe' h ho ι a W hT hY I hf => ?_, loops⟩
  have h0' := h
  cases c <;> simp only [evI] at h
  case skip => injection h with h; simp only [Prod.mk.injEq] at h; obtain ⟨rfl, rfl, rfl, rfl, rfl⟩ := h; exact wpIn_skip ⟨rfl, ι, hT, hY, I, Dom.refl⟩
  case ret => injection h with h; simp only [Prod.mk.injEq] at h; obtain ⟨rfl, rfl, rfl, rfl, rfl⟩ := h; exact wpIn_ret ⟨rfl, ι, hT, hY, I, Dom.refl⟩
  case exit id => injection h with h; simp only [Prod.mk.injEq] at h; obtain ⟨rfl, rfl, rfl, rfl, rfl⟩ := h; exact wpIn_exit ⟨rfl, ι, hT, hY, I, Dom.refl⟩
  case seq x y =>
   split at h
   ·rename_i T1 s1 ys1 pe1 h1
    have u1 := ZdH F fu _ _ _ _ _ _ _ _ _ _ h1
    have u2 := ZdH F fu _ _ _ _ _ _ _ _ _ _ h
    refine wpIn_seq (wpIn_mono (ihC x T s ys pe .normal T1 s1 ys1 pe1 h1 (Za3 u2.ob ho) ι a W hT hY I (hf.mono (Nat.le_refl _) u2.n)) ?_)
    rintro ex a1 w1 ⟨rfl, ι1, g1, g2, g3, g4⟩
    exact wpIn_mono (ihC y T1 s1 ys1 pe1 e T' s' ys' pe' h ho ι1 a1 w1 g1 g2 g3 (hf.after g4 u1.n)) (two g4 u1.n u2.n)
   ·rename_i i r h1
    injection h with h; simp only [Prod.mk.injEq] at h; obtain ⟨rfl, rfl⟩ := h
    refine wpIn_seq (wpIn_mono (ihC x T s ys pe _ _ _ _ _ h1 ho ι a W hT hY I hf) ?_)
    rintro ex a1 w1 ⟨rfl, hq⟩
    exact ⟨rfl, hq⟩
   ·rename_i r h1
    injection h with h; simp only [Prod.mk.injEq] at h; obtain ⟨rfl, rfl⟩ := h
    refine wpIn_seq (wpIn_mono (ihC x T s ys pe _ _ _ _ _ h1 ho ι a W hT hY I hf) ?_)
    rintro ex a1 w1 ⟨rfl, hq⟩
    exact ⟨rfl, hq⟩
   ·cases h
  case cond x y z =>
   split at h
   ·rename_i t ht
    have hx : a.eval x = .bool t := Zea ((ht ▸ hT.opnd x : VR ι (.bool t) (Zbl a x)).bool_inv)
    split at h
    ·exact wpIn_cond_true hx (ihC y T s ys pe e T' s' ys' pe' h ho ι a W hT hY I hf)
    ·exact wpIn_cond_false hx (ihC z T s ys pe e T' s' ys' pe' h ho ι a W hT hY I hf)
   ·cases h
  case block id x =>
   split at h
   ·rename_i i r h1
    cases hb : Nat.beq i id with
    | true =>
     rw [hb] at h
     injection h with h; simp only [Prod.mk.injEq] at h; obtain ⟨rfl, rfl⟩ := h
     refine wpIn_block (wpIn_mono (ihC x T s ys pe _ _ _ _ _ h1 ho ι a W hT hY I hf) ?_)
     rintro ex a1 w1 ⟨rfl, hq⟩
     show if i = id then _ else _
     rw [if_pos (Nat.eq_of_beq_eq_true hb)]
     exact ⟨rfl, hq⟩
    | false =>
     rw [hb] at h
     injection h with h; simp only [Prod.mk.injEq] at h; obtain ⟨rfl, rfl⟩ := h
     refine wpIn_block (wpIn_mono (ihC x T s ys pe _ _ _ _ _ h1 ho ι a W hT hY I hf) ?_)
     rintro ex a1 w1 ⟨rfl, hq⟩
     show if i = id then _ else _
     rw [if_neg (fun e => by rw [Zga e] at hb; cases hb)]
     exact ⟨rfl, hq⟩
   ·rename_i r h1
    injection h with h; simp only [Prod.mk.injEq] at h; obtain ⟨rfl, rfl⟩ := h
    refine wpIn_block (wpIn_mono (ihC x T s ys pe _ _ _ _ _ h1 ho ι a W hT hY I hf) ?_)
    rintro ex a1 w1 ⟨rfl, hq⟩
    exact ⟨rfl, hq⟩
   ·rename_i r h1
    injection h with h; simp only [Prod.mk.injEq] at h; obtain ⟨rfl, rfl⟩ := h
    refine wpIn_block (wpIn_mono (ihC x T s ys pe _ _ _ _ _ h1 ho ι a W hT hY I hf) ?_)
    rintro ex a1 w1 ⟨rfl, hq⟩
    exact ⟨rfl, hq⟩
   ·cases h
  case loop x => exact wpIn_loop_rounds (fu + 1) (loops x T s ys pe e T' s' ys' pe' h0' ho ι a W hT hY I hf)
  case region id ops draw =>
   split at h
   ·cases h
   ·split at h
    ·rename_i T1 s1 ys1 pe1 h1
     injection h with h; simp only [Prod.mk.injEq] at h; obtain ⟨rfl, rfl, rfl, rfl, rfl⟩ := h
     exact wpIn_region_list (Zhs F hR ops.toList T s ys pe T1 s1 ys1 pe1 h1 ho ι a W _ hT hY I hf fun ι' a' W' k1 k2 k3 k4 => ⟨rfl, ι', k1, k2, k3, k4⟩)
    ·cases h
  all_goals cases h
end
def Mk (b : Nat) (m : Bool) (D : List Deferred) (ι : Ren) (h : AH) (w : World) : Prop := match m with
 | false => D = []
 | true => ∃ K, b ≤ K ∧ D = [{ target := .collected K, args := #[] }] ∧ w.heap[K]? = some (.deferred (some [])) ∧ ∀ k b, ZY (h k) b = true ∨ ZW k → ι k = some b → b.1 ≠ K
theorem Mk.step {b : Nat} {m : Bool} {D : List Deferred} {ι ι1 : Ren} {h h1 : AH} {w w1 : World} (hm : Mk b m D ι h w) (g : Step P ι h w ι1 h1 w1) : Mk b m D ι1 h1 w1 := by
 cases m with
 | false => exact hm
 | true =>
  obtain ⟨K, hb, e, hk, hn⟩ := hm
  obtain ⟨a1, a2⟩ := ZjS g (Array.getElem?_eq_some_iff.1 hk).1 hn
  exact ⟨K, hb, e, a2.trans hk, a1⟩
def ZjT (b : Nat) (P : Program) (ι : Ren) (s : St) (w : World) (nt : Nat) (e : Ex) (T' : Tr Value) (s' : St) (m' : Bool) (ex : Exit) (a' : Act) (w' : World) : Prop :=
 ex = e.out ∧ ∃ ι' D', Step P ι s.h.get w ι' s'.h.get w' ∧ Dom ι ι' s.n s'.n ∧ TR ι' nt D' T' a' ∧ Mk b m' D' ι' s'.h.get w'
theorem up_rf (F : Fit P ext) {nt fu : Nat} {g : Operand} {ps : Array Tmp} {asg body : Code} {T : Tr Value} {s s' : St} {e : Ex} (h : Zp6 P ext nt fu g ps asg body T s = some (e, s')) : Up s s' := by
 unfold Zp6 at h
 split at h
 ·split at h
  ·split at h
   ·obtain ⟨_, h⟩ := Zl h
    split at h
    ·cases h
    ·rename_i h1; injection h with h; injection h with q1 q2; subst q2; exact ZdH F _ _ _ _ _ _ _ _ _ _ _ h1
    ·rename_i h1; obtain ⟨_, h⟩ := ZjN h; injection h with h; injection h with q1 q2; subst q2; exact ZdH F _ _ _ _ _ _ _ _ _ _ _ h1
    ·cases h
   ·cases h
  ·cases h
 ·cases h
theorem Ztt (F : Fit P ext) {nt fu : Nat} {g : Operand} {ps : Array Tmp} {asg body : Code} {T : Tr Value} {s s' : St} {e : Ex} (h : Zp6 P ext nt fu g ps asg body T s = some (e, s')) (ho : ∀ p ∈ s'.ob, p.1 = p.2) {b : Nat} {ι : Ren} {a : Act} {w : World} (hbw : b ≤ w.heap.size)
  (hT : TR ι nt [] T a) (he : Emb P ι s.h.get w) (hf : Fresh ι s.n s'.n) : (Code.rangeFunc g ps asg body).wpIn (Fr none) 0 P (ZjT b P ι s w nt e T s' true) a w := by
 unfold Zp6 at h
 split at h
 ·rename_i gf av bv hg
  split at h
  ·rename_i fn hfn
   split at h
   ·rename_i c hb
    obtain ⟨hgd, h⟩ := Zl h
    simp only [Bool.and_eq_true] at hgd
    obtain ⟨⟨hgd, hsz⟩, hres⟩ := hgd
    have hsz := Nat.le_of_ble_eq_true hsz
    have hres := Nat.eq_of_beq_eq_true hres
    have key : ∃ e0 T1 ys1 pe, evI P ext fn.ntmps ⟨nt, T, ps, asg, body⟩ fu c (ZcF 0 (av ++ #[Value.chan (some 0)] ++ bv).toList .nil) s [av.size] none = some (e0, T1, s', ys1, pe) ∧ (e0 = .normal ∨ e0 = .ret) ∧ e = (match pe with | none => .normal | some e => e) ∧ (∀ e1, pe = some e1 → isN e1 = false) := by
     split at h
     ·cases h
     ·rename_i e0 T1 s1 ys1 hne h1
      injection h with h; injection h with q1 q2; subst q1 q2
      refine ⟨e0, T1, ys1, none, h1, ?_, rfl, fun e1 he => by cases he⟩
      cases e0 with
      | normal => exact .inl rfl
      | ret => exact .inr rfl
      | exit i => exact (hne i rfl).elim
     ·rename_i e0 T1 s1 ys1 e1 hne h1
      obtain ⟨hn1, h⟩ := ZjN h
      injection h with h; injection h with q1 q2; subst q1 q2
      refine ⟨e0, T1, ys1, some e1, h1, ?_, rfl, fun e2 he => by injection he with he; rw [← he]; exact hn1⟩
      cases e0 with
      | normal => exact .inl rfl
      | ret => exact .inr rfl
      | exit i => exact (hne i rfl).elim
     ·cases h
    obtain ⟨e0, T1, ys1, pe, h1, he0, hepe, hnn⟩ := key
    have hgv : ∃ av' bv', Zbl a g = .func (.func gf) av' bv' ∧ VRs ι av av' ∧ VRs ι bv bv' := by
     have hv := hg ▸ hT.opnd g
     generalize Zbl a g = x' at hv
     cases hv with
     | atom h =>
      simp [Ev.atom] at h
      obtain ⟨rfl, rfl⟩ := h
      exact ⟨_, _, rfl, ⟨rfl, fun i x y hx => by simp at hx⟩, ⟨rfl, fun i x y hx => by simp at hx⟩⟩
     | func hs ht h1 h2 => exact ⟨_, _, rfl, ⟨hs, h1⟩, ⟨ht, h2⟩⟩
    obtain ⟨av', bv', hgv, hav, hbv⟩ := hgv
    have hgv : a.eval g = .func (.func gf) av' bv' := by
     cases g with
     | const v => simp only [Zdn] at hgd; simpa [Zbl, hgd, Act.eval] using hgv
     | _ => exact hgv
    refine wpIn_rangeFunc ?_
    intro fn0 _
    obtain ⟨R, hRd⟩ : ∃ R : Loop, R = { state := .ready, pending := none, fn := fn0, tmps := a.tmps, params := ps, assign := asg, body, defers := w.heap.size } := ⟨_, rfl⟩
    obtain ⟨W1, hW1⟩ : ∃ W1, (w.alloc (.deferred (some []))).alloc (.loop R) = W1 := ⟨_, rfl⟩
    have hL1 : W1.heap[w.heap.size + 1]? = some (.loop (Rp R none)) := by
     rw [show Rp R none = R by rw [hRd]; rfl]
     rw [← hW1]; have := World.alloc_heap_new (w.alloc (.deferred (some []))) (.loop R); rwa [World.size_alloc] at this
    have hK1 : W1.heap[w.heap.size]? = some (.deferred (some [])) := by
     rw [← hW1]; exact (Below.heap_alloc _ _ _ (by simp)).trans (World.alloc_heap_new w _)
    have hb1 : Below w.heap.size w W1 := by
     rw [← hW1]; exact ((Below.refl _ w).alloc (Nat.le_refl _) _).alloc (by simp) _
    have I1 : IS P ι s.h.get w s.n nt T a (w.heap.size + 1) w.heap.size (Rp R none) ι s W1 :=
     ⟨Step.below he hb1, Dom.refl, Nat.le_refl _, ⟨hT.1, rfl, hT.2.2⟩, hL1, hK1, by omega, by omega, fun k b _ hk => by have := he.lt k b hk; omega⟩
    have hargs : VRs ι (av ++ #[Value.chan (some 0)] ++ bv) (av' ++ #[Value.func (.yield (w.heap.size + 1)) #[] #[]] ++ bv') :=
     Zec (Zec hav ⟨rfl, fun i x y hx hy => by
      cases i with
      | zero => simp at hx hy; rw [← hx, ← hy]; exact .glob rfl
      | succ i => simp at hx⟩) hbv
    refine ⟨w.heap.size + 1, [{ target := .collected w.heap.size, args := #[] }], W1, { target := .fn (.func gf) bv', args := av' ++ #[.func (.yield (w.heap.size + 1)) #[] #[]] }, W1, gf,
     av' ++ #[.func (.yield (w.heap.size + 1)) #[] #[]] ++ bv', W1, ?_, ?_, fun _ _ => trivial, ?_, fun e => (by cases e), ?_⟩
    ·rw [← hW1, hRd]; exact run_enterLoop_outer _ _ _ _ _
    ·simp only [resolve, hgv]
     simp [go_sem, Deferred.ofValue]
    ·simp [invoke, ZbU hfn (F.go gf fn hfn) hb]
    ·refine callsIn_of_wp_marks hfn hb trivial ?_
     refine wpIn_mono ((Zn7 (R := R) (cx := ⟨nt, T, ps, asg, body⟩) (ac := a) F ⟨by rw [hRd], by rw [hRd], by rw [hRd], by rw [hRd]⟩ fu).1 c _ s _ none e0 T1 s' ys1 pe h1 ho ι _ W1 (ZfH hargs hsz) ?_ I1 hf) ?_
     ·intro t ht
      rw [List.mem_singleton] at ht
      subst ht
      have hs := hav.1
      rw [Array.getD_eq_getD_getElem?, Array.getElem?_append_left (by simp; omega), Array.getElem?_append_left (by simp; omega), Array.getElem?_append_right (by omega)]
      simp [hs]
     ·rintro ex a2 w2 ⟨rfl, ι2, g1, _, I2, g4⟩
      have hr := run_endLoop (P := P) I2.lo (by cases pe <;> simp [Rp])
      have I3 := I2.put { Rp R pe with state := .exhausted }
      have hr2 : ∃ v', (results fn a2.tmps).run P w2 = .ok v' w2 := by
       have hnil : fn.results.toList = [] := List.eq_nil_of_length_eq_zero hres
       obtain ⟨v', q, _⟩ := ZcO (fn := fn) (v := .tuple #[]) g1 I2.st.emb (by rw [hnil]; rfl)
       exact ⟨v', q⟩
      obtain ⟨v', hrun⟩ := hr2
      have fin : LeavesInM (Fr none) (0 - 1) P fn a2.tmps (rangePost (Fr none) 0 P (w.heap.size + 1) (ZjT b P ι s w nt e T s' true) { a with defers := [{ target := .collected w.heap.size, args := #[] }] ++ a.defers }) a2.defers .returning w2 := by
       rw [g1.2.1]
       refine ⟨v', hrun, _, _, hr, ?_⟩
       have post : ZjT b P ι s w nt e T s' true e.out { a with defers := [{ target := .collected w.heap.size, args := #[] }] ++ a.defers } (w2.putObj (w.heap.size + 1) (.loop { Rp R pe with state := .exhausted })) := by
        refine ⟨rfl, ι2, _, I3.st, I3.dm, ⟨I3.tr.1, rfl, I3.tr.2.2⟩, w.heap.size, hbw, ?_, I3.de, fun k b hs hk => (I3.nl k b hs hk).2⟩
        rw [hT.2.1]; rfl
       cases pe with
       | none => rw [hepe] at post ⊢; exact post
       | some e1 =>
        cases e1 with
        | normal => exact absurd (hnn _ rfl) (by simp [isN])
        | ret => rw [hepe] at post ⊢; exact wpIn_ret post
        | exit i => rw [hepe] at post ⊢; exact wpIn_exit post
      rcases he0 with rfl | rfl
      ·exact fin
      ·exact fin
   ·cases h
  ·cases h
 ·cases h
end
section
variable {P : Program} {ext : FuncId → Option Ext}
theorem Zg7 (F : Fit P ext) {nt : Nat} : ∀ (fu : Nat) (c : Code) (T : Tr Value) (s : St) (m : Bool) (e : Ex) (T' : Tr Value) (s' : St) (m' : Bool), evR P ext nt fu c T s m = some (e, T', s', m') → Up s s'
 | 0, _, _, _, _, _, _, _, _, h => by simp [evR] at h
 | fu + 1, c, T, s, m, e, T', s', m', h => by
  have upC := (ZbA (P := P) (ext := ext) (fun f g hg => (F.hp f g hg).up) (fu + 1)).1
  cases c <;> simp only [evR] at h
  case skip => injection h with h; simp only [Prod.mk.injEq] at h; obtain ⟨rfl, rfl, rfl, rfl⟩ := h; exact Up.refl _
  case ret => injection h with h; simp only [Prod.mk.injEq] at h; obtain ⟨rfl, rfl, rfl, rfl⟩ := h; exact Up.refl _
  case exit id => injection h with h; simp only [Prod.mk.injEq] at h; obtain ⟨rfl, rfl, rfl, rfl⟩ := h; exact Up.refl _
  case seq x y =>
   split at h
   ·rename_i T1 s1 m1 h1; exact (Zg7 F fu _ _ _ _ _ _ _ _ h1).trans (Zg7 F fu _ _ _ _ _ _ _ _ h)
   ·rename_i i r h1; injection h with h; simp only [Prod.mk.injEq] at h; obtain ⟨rfl, rfl⟩ := h; exact Zg7 F fu _ _ _ _ _ _ _ _ h1
   ·rename_i r h1; injection h with h; simp only [Prod.mk.injEq] at h; obtain ⟨rfl, rfl⟩ := h; exact Zg7 F fu _ _ _ _ _ _ _ _ h1
   ·cases h
  case cond x y z =>
   split at h
   ·split at h
    ·exact Zg7 F fu _ _ _ _ _ _ _ _ h
    ·exact Zg7 F fu _ _ _ _ _ _ _ _ h
   ·cases h
  case block id x =>
   split at h
   ·rename_i i r h1
    cases hb : Nat.beq i id with
    | true => rw [hb] at h; injection h with h; simp only [Prod.mk.injEq] at h; obtain ⟨rfl, rfl⟩ := h; exact Zg7 F fu _ _ _ _ _ _ _ _ h1
    | false => rw [hb] at h; injection h with h; simp only [Prod.mk.injEq] at h; obtain ⟨rfl, rfl⟩ := h; exact Zg7 F fu _ _ _ _ _ _ _ _ h1
   ·rename_i r h1; injection h with h; simp only [Prod.mk.injEq] at h; obtain ⟨rfl, rfl⟩ := h; exact Zg7 F fu _ _ _ _ _ _ _ _ h1
   ·rename_i r h1; injection h with h; simp only [Prod.mk.injEq] at h; obtain ⟨rfl, rfl⟩ := h; exact Zg7 F fu _ _ _ _ _ _ _ _ h1
   ·cases h
  case rangeFunc g ps asg body =>
   obtain ⟨_, h⟩ := ZjN h
   split at h
   ·rename_i e1 s1 h1
    injection h with h; simp only [Prod.mk.injEq] at h; obtain ⟨rfl, rfl, rfl, rfl⟩ := h
    exact up_rf F h1
   ·cases h
  case region id ops draw =>
   split at h
   ·rename_i e1 T1 s1 h1
    injection h with h; simp only [Prod.mk.injEq] at h; obtain ⟨rfl, rfl, rfl, rfl⟩ := h
    exact upC _ _ _ _ _ _ _ h1
   ·cases h
  case loop x =>
   split at h
   ·rename_i e1 T1 s1 h1
    injection h with h; simp only [Prod.mk.injEq] at h; obtain ⟨rfl, rfl, rfl, rfl⟩ := h
    exact upC _ _ _ _ _ _ _ h1
   ·cases h
  all_goals cases h
theorem ZdI (F : Fit P ext) {nt : Nat} : ∀ (fu : Nat) (c : Code) (T : Tr Value) (s : St) (m : Bool) (e : Ex) (T' : Tr Value) (s' : St) (m' : Bool), evR P ext nt fu c T s m = some (e, T', s', m') → (∀ p ∈ s'.ob, p.1 = p.2) →
  ∀ b ι D a w, b ≤ w.heap.size → TR ι nt D T a → Mk b m D ι s.h.get w → Emb P ι s.h.get w → Fresh ι s.n s'.n → c.wpIn (Fr none) 0 P (ZjT b P ι s w nt e T' s' m') a w
 | 0, _, _, _, _, _, _, _, _, h => by simp [evR] at h
 | fu + 1, c, T, s, m, e, T', s', m', h => by
  intro ho b ι D a w hbw hT hM he hf
  have code : ∀ {c : Code} {e1 : Ex} {T1 : Tr Value} {s1 : St}, ZR P ext nt (fu + 1) c T s = some (e1, T1, s1) → (∀ p ∈ s1.ob, p.1 = p.2) → Fresh ι s.n s1.n → c.wpIn (Fr none) 0 P (ZjT b P ι s w nt e1 T1 s1 m) a w := fun h1 ho1 hf1 => by
   refine (wpIn_wide (n := 0)).2 (wp_mono ((Zcz F (fu + 1)).1 nt _ T s _ _ _ h1 ho1 ι D a w hT he hf1) ?_)
   rintro ex a1 w1 ⟨rfl, ι1, g1, g2, g3⟩
   exact ⟨rfl, ι1, D, g1, g2, g3, hM.step g1⟩
  have two : ∀ {ι1 : Ren} {s1 : St} {w1 : World}, Step P ι s.h.get w ι1 s1.h.get w1 → Dom ι ι1 s.n s1.n → s.n ≤ s1.n → s1.n ≤ s'.n → ∀ ex a W, ZjT b P ι1 s1 w1 nt e T' s' m' ex a W → ZjT b P ι s w nt e T' s' m' ex a W :=
   fun hS hd h1 h2 ex a W ⟨hx, ι', D', k1, k2, k3, k4⟩ => ⟨hx, ι', D', hS.trans k1, hd.trans k2 h1 h2, k3, k4⟩
  cases c <;> simp only [evR] at h
  case skip => injection h with h; simp only [Prod.mk.injEq] at h; obtain ⟨rfl, rfl, rfl, rfl⟩ := h; exact wpIn_skip ⟨rfl, ι, D, Step.refl he, Dom.refl, hT, hM⟩
  case ret => injection h with h; simp only [Prod.mk.injEq] at h; obtain ⟨rfl, rfl, rfl, rfl⟩ := h; exact wpIn_ret ⟨rfl, ι, D, Step.refl he, Dom.refl, hT, hM⟩
  case exit id => injection h with h; simp only [Prod.mk.injEq] at h; obtain ⟨rfl, rfl, rfl, rfl⟩ := h; exact wpIn_exit ⟨rfl, ι, D, Step.refl he, Dom.refl, hT, hM⟩
  case seq x y =>
   split at h
   ·rename_i T1 s1 m1 h1
    have u1 := Zg7 F fu _ _ _ _ _ _ _ _ h1
    have u2 := Zg7 F fu _ _ _ _ _ _ _ _ h
    refine wpIn_seq (wpIn_mono (ZdI F fu x T s m .normal T1 s1 m1 h1 (Za3 u2.ob ho) b ι D a w hbw hT hM he (hf.mono (Nat.le_refl _) u2.n)) ?_)
    rintro ex a1 w1 ⟨rfl, ι1, D1, g1, g2, g3, g4⟩
    exact wpIn_mono (ZdI F fu y T1 s1 m1 e T' s' m' h ho b ι1 D1 a1 w1 (Nat.le_trans hbw g1.size) g3 g4 g1.emb (hf.after g2 u1.n)) (two g1 g2 u1.n u2.n)
   ·rename_i i r h1
    injection h with h; simp only [Prod.mk.injEq] at h; obtain ⟨rfl, rfl⟩ := h
    refine wpIn_seq (wpIn_mono (ZdI F fu x T s m _ _ _ _ h1 ho b ι D a w hbw hT hM he hf) ?_)
    rintro ex a1 w1 ⟨rfl, hq⟩
    exact ⟨rfl, hq⟩
   ·rename_i r h1
    injection h with h; simp only [Prod.mk.injEq] at h; obtain ⟨rfl, rfl⟩ := h
    refine wpIn_seq (wpIn_mono (ZdI F fu x T s m _ _ _ _ h1 ho b ι D a w hbw hT hM he hf) ?_)
    rintro ex a1 w1 ⟨rfl, hq⟩
    exact ⟨rfl, hq⟩
   ·cases h
  case cond x y z =>
   split at h
   ·rename_i t ht
    have hx : a.eval x = .bool t := Zea ((ht ▸ hT.opnd x : VR ι (.bool t) (Zbl a x)).bool_inv)
    split at h
    ·exact wpIn_cond_true hx (ZdI F fu y T s m e T' s' m' h ho b ι D a w hbw hT hM he hf)
    ·exact wpIn_cond_false hx (ZdI F fu z T s m e T' s' m' h ho b ι D a w hbw hT hM he hf)
   ·cases h
  case block id x =>
   split at h
   ·rename_i i r h1
    cases hb : Nat.beq i id with
    | true =>
     rw [hb] at h
     injection h with h; simp only [Prod.mk.injEq] at h; obtain ⟨rfl, rfl⟩ := h
     refine wpIn_block (wpIn_mono (ZdI F fu x T s m _ _ _ _ h1 ho b ι D a w hbw hT hM he hf) ?_)
     rintro ex a1 w1 ⟨rfl, hq⟩
     show if i = id then _ else _
     rw [if_pos (Nat.eq_of_beq_eq_true hb)]
     exact ⟨rfl, hq⟩
    | false =>
     rw [hb] at h
     injection h with h; simp only [Prod.mk.injEq] at h; obtain ⟨rfl, rfl⟩ := h
     refine wpIn_block (wpIn_mono (ZdI F fu x T s m _ _ _ _ h1 ho b ι D a w hbw hT hM he hf) ?_)
     rintro ex a1 w1 ⟨rfl, hq⟩
     show if i = id then _ else _
     rw [if_neg (fun e => by rw [Zga e] at hb; cases hb)]
     exact ⟨rfl, hq⟩
   ·rename_i r h1
    injection h with h; simp only [Prod.mk.injEq] at h; obtain ⟨rfl, rfl⟩ := h
    refine wpIn_block (wpIn_mono (ZdI F fu x T s m _ _ _ _ h1 ho b ι D a w hbw hT hM he hf) ?_)
    rintro ex a1 w1 ⟨rfl, hq⟩
    exact ⟨rfl, hq⟩
   ·rename_i r h1
    injection h with h; simp only [Prod.mk.injEq] at h; obtain ⟨rfl, rfl⟩ := h
    refine wpIn_block (wpIn_mono (ZdI F fu x T s m _ _ _ _ h1 ho b ι D a w hbw hT hM he hf) ?_)
    rintro ex a1 w1 ⟨rfl, hq⟩
    exact ⟨rfl, hq⟩
   ·cases h
  case rangeFunc g ps asg body =>
   obtain ⟨hm, h⟩ := ZjN h
   split at h
   ·rename_i e1 s1 h1
    injection h with h; simp only [Prod.mk.injEq] at h; obtain ⟨rfl, rfl, rfl, rfl⟩ := h
    subst hm
    obtain rfl : D = [] := hM
    exact Ztt F h1 ho hbw hT he hf
   ·cases h
  case region id ops draw =>
   split at h
   ·rename_i e1 T1 s1 h1
    injection h with h; simp only [Prod.mk.injEq] at h; obtain ⟨rfl, rfl, rfl, rfl⟩ := h
    exact code h1 ho hf
   ·cases h
  case loop x =>
   split at h
   ·rename_i e1 T1 s1 h1
    injection h with h; simp only [Prod.mk.injEq] at h; obtain ⟨rfl, rfl, rfl, rfl⟩ := h
    exact code h1 ho hf
   ·cases h
  all_goals cases h
theorem ZmZ (F : Fit P ext) {fu : Nat} {f : FuncId} {fn : Func} {c : Code} (hfn : P.funcs[f]? = some fn) (hb : fn.body = some c) : Znz P f (Zjx P ext fu f) := by
 refine ⟨fun args s v s' h => ?_, fun args s v s' h ho ι w args' ha he hf => .inl ⟨⟨fn, c, hfn, hb⟩, ?_⟩⟩
 ·unfold Zjx at h
  rw [hfn] at h
  simp only [hb] at h
  replace h := (Zl h).2
  split at h
  ·cases h
  ·rename_i h1
   have u := Zg7 F fu _ _ _ _ _ _ _ _ h1
   split at h
   ·injection h with h; injection h with q1 q2; subst q2; exact u
   ·injection h with h; injection h with q1 q2; subst q2; exact u
   ·cases h
  ·cases h
 ·unfold Zjx at h
  rw [hfn] at h
  simp only [hb] at h
  obtain ⟨hsz, h⟩ := Zl h
  have hle : args.size ≤ fn.ntmps := Nat.le_of_ble_eq_true hsz
  split at h
  ·cases h
  ·rename_i ex T1 s1 m1 hne h1
   have hs : s' = s1 ∧ (match Zbp P T1 s1 fn.results.toList with | some [v] => some v | some vs => some (.tuple vs.toArray) | none => none) = some v := by
    split at h
    ·rename_i hr; injection h with h; injection h with q1 q2; subst q1 q2; exact ⟨rfl, by first | rw [hr] | rfl⟩
    ·rename_i vs hn hr; injection h with h; injection h with q1 q2; subst q1 q2
     refine ⟨rfl, ?_⟩
     try rw [hr]
     rcases vs with _ | ⟨x, _ | ⟨y, vs⟩⟩
     ·rfl
     ·exact absurd rfl (hn x)
     ·rfl
    ·cases h
   obtain ⟨rfl, hres⟩ := hs
   refine (callsIn_wide (n := 0)).1 (callsIn_of_wp_marks hfn hb trivial (wpIn_mono (ZdI F fu c _ s false ex T1 s' m1 h1 ho w.heap.size ι [] _ w (Nat.le_refl _) (ZfH ha hle) rfl he hf) ?_))
   rintro e2 a2 w2 ⟨rfl, ι2, D2, g1, g2, g3, g4⟩
   have fin : LeavesInM (Fr none) 0 P fn a2.tmps (ZmR P ι s w v s') a2.defers .returning w2 := by
    rw [g3.2.1]
    cases m1 with
    | false =>
     obtain rfl : D2 = [] := g4
     obtain ⟨v', hrun, hv⟩ := ZcO g3 g1.emb hres
     exact ⟨v', hrun, v', ι2, rfl, g1, g2, hv⟩
    | true =>
     obtain ⟨K, hKw, rfl, hk, hn⟩ := g4
     have g1' := g1.put hKw hn (.deferred none)
     obtain ⟨v', hrun, hv⟩ := ZcO g3 g1'.emb hres
     exact ⟨by simp, .inl ⟨K, _, rfl, run_takeDeferred hk, v', hrun, v', ι2, rfl, g1', g2, hv⟩⟩
   cases ex with
   | normal => exact fin
   | ret => exact fin
   | exit i => exact (hne i rfl).elim
  ·cases h
end
noncomputable section
end
section
variable {P : Program} {ext : FuncId → Option Ext}
end
noncomputable section
end
section
variable {P : Program}
end

def ZrL : FuncId → Option Ext := fun f =>
  bif Nat.beq f 132 then some (.at .i64 0) else
  bif Nat.beq f 171 then some (.at .i64 1) else
  bif Nat.beq f 170 then some (.at .i64 2) else
  bif Nat.beq f 169 then some (.at .i64 3) else
   none

theorem noGo : (Tryz.prog.funcs.toList.all fun fn => !(fn.name == "runtime.NumGoroutine")) = true := by kernel_rfl
theorem mixed : Tryz.prog.follows .mixedOrders = true := by kernel_rfl
def Zp8 (sp : FuncId → Option (List Value → Option Value)) (hp : FuncId → Option (Array Value → St → Out)) : FuncId → Option Ext := fun f => match ZrL f with
  | some e => some e
  | none => match sp f with
    | some g => some (.fn g)
    | none => match hp f with
      | some g => some (.hp g)
      | none => none
def ZoI (sp : FuncId → Option (List Value → Option Value)) : Prop := ∀ (f : Nat) (g : List Value → Option Value), sp f = some g → (∃ (fn : Func) (c : Code), Tryz.prog.funcs[f]? = some fn ∧ fn.body = some c) ∧
  ∀ (args : Array Value) (v : Value), Zp Zcj args.toList = true → g args.toList = some v → ∀ w, TabW w → Calls Tryz.prog f args w fun e w' => e = .returned v ∧ Below w.heap.size w w'
def Zp9 (hp : FuncId → Option (Array Value → St → Out)) : Prop := ∀ (f : Nat) (g : Array Value → St → Out), hp f = some g → Znz Tryz.prog f g
theorem ZlF {b : Bool} {x e : Ext} {y : Option Ext} (h : (bif b then some x else y) = some e) : (b = true ∧ x = e) ∨ y = some e := by
  cases b with
  | true => exact .inl ⟨rfl, by simpa using h⟩
  | false => exact .inr (by simpa using h)
theorem Zjy {f : Nat} {e : Ext} (he : ZrL f = some e) : (∀ (kk : IntKind) (c : Nat), e = .at kk c → ∃ fn : Func, Tryz.prog.funcs[f]? = some fn ∧ fn.body.isNone = true ∧ Extern.findNext fn = none ∧
    (c = 0 ∧ Extern.find fn = some (Extern.Atomic.loadT (.int kk)) ∨ c = 1 ∧ Extern.find fn = some Extern.Atomic.storeT ∨
     c = 2 ∧ Extern.find fn = some (Extern.Atomic.update (Op.intArith .add) kk true) ∨ c = 3 ∧ Extern.find fn = some (Extern.Atomic.casT (.int kk)))) ∧
    (∀ n : Nat, e = .mark n → ∃ fn : Func, Tryz.prog.funcs[f]? = some fn ∧ fn.body.isNone = true ∧ Extern.findNext fn = none ∧
    (n = 0 ∧ (∃ m : Mark, Extern.find fn = some (fun _ => do mark m; pure Extern.Race.none_)) ∨ n = 1 ∧ ∃ m : Addr → Mark, Extern.find fn = some (Extern.Race.marked m))) ∧ (∀ g, e ≠ .fn g) ∧ (∀ g, e ≠ .hp g) ∧ (∀ S, e ≠ .tc S) := by
  unfold ZrL at he
  rcases ZlF he with ⟨hb, hx⟩ | he
  · obtain rfl := Nat.eq_of_beq_eq_true hb; subst hx; refine ⟨fun kk c hc => ?_, fun n hn => (by cases hn), fun g hg => (by cases hg), fun g hg => (by cases hg), fun S hg => (by cases hg)⟩; injection hc with h1 h2; subst h1 h2; exact ⟨_, Tryz.func132, by kernel_rfl, by kernel_rfl, .inl ⟨rfl, by kernel_rfl⟩⟩
  rcases ZlF he with ⟨hb, hx⟩ | he
  · obtain rfl := Nat.eq_of_beq_eq_true hb; subst hx; refine ⟨fun kk c hc => ?_, fun n hn => (by cases hn), fun g hg => (by cases hg), fun g hg => (by cases hg), fun S hg => (by cases hg)⟩; injection hc with h1 h2; subst h1 h2; exact ⟨_, Tryz.func171, by kernel_rfl, by kernel_rfl, .inr (.inl ⟨rfl, by kernel_rfl⟩)⟩
  rcases ZlF he with ⟨hb, hx⟩ | he
  · obtain rfl := Nat.eq_of_beq_eq_true hb; subst hx; refine ⟨fun kk c hc => ?_, fun n hn => (by cases hn), fun g hg => (by cases hg), fun g hg => (by cases hg), fun S hg => (by cases hg)⟩; injection hc with h1 h2; subst h1 h2; exact ⟨_, Tryz.func170, by kernel_rfl, by kernel_rfl, .inr (.inr (.inl ⟨rfl, by kernel_rfl⟩))⟩
  rcases ZlF he with ⟨hb, hx⟩ | he
  · obtain rfl := Nat.eq_of_beq_eq_true hb; subst hx; refine ⟨fun kk c hc => ?_, fun n hn => (by cases hn), fun g hg => (by cases hg), fun g hg => (by cases hg), fun S hg => (by cases hg)⟩; injection hc with h1 h2; subst h1 h2; exact ⟨_, Tryz.func169, by kernel_rfl, by kernel_rfl, .inr (.inr (.inr ⟨rfl, by kernel_rfl⟩))⟩
  cases he
theorem Zgd {sp : FuncId → Option (List Value → Option Value)} {hp : FuncId → Option (Array Value → St → Out)} {f : Nat} {e : Ext} (h : Zp8 sp hp f = some e) : ZrL f = some e ∨ (∃ g, sp f = some g ∧ e = .fn g) ∨ ∃ g, hp f = some g ∧ e = .hp g := by
  unfold Zp8 at h
  split at h
  · rename_i e' he'
    injection h with h; subst h
    exact .inl he'
  · split at h
    · rename_i g hg
      injection h with h; subst h
      exact .inr (.inl ⟨g, hg, rfl⟩)
    · split at h
      · rename_i g hg
        injection h with h; subst h
        exact .inr (.inr ⟨g, hg, rfl⟩)
      · cases h
theorem fitH {sp : FuncId → Option (List Value → Option Value)} {hp : FuncId → Option (Array Value → St → Out)} (hsp : ZoI sp) (hhp : Zp9 hp) : Fit Tryz.prog (Zp8 sp hp) := by
  refine ⟨mixed, fun f fn hf => ?_, fun f g hg => ?_, fun f g hg => ?_, fun f S hS => ?_, fun f n hn => ?_, fun f kk e he => ?_⟩
  · have := List.all_eq_true.1 noGo fn (by
      obtain ⟨h, rfl⟩ := Array.getElem?_eq_some_iff.1 hf
      simp)
    simpa using this
  · rcases Zgd hg with h | ⟨g', h, hx⟩ | ⟨g', h, hx⟩
    · exact ((Zjy h).2.2.1 g rfl).elim
    · injection hx with hx; subst hx; exact hsp f g h
    · cases hx
  · rcases Zgd hg with h | ⟨g', h, hx⟩ | ⟨g', h, hx⟩
    · exact ((Zjy h).2.2.2.1 g rfl).elim
    · cases hx
    · injection hx with hx; subst hx; exact hhp f g h
  · rcases Zgd hS with h | ⟨g', h, hx⟩ | ⟨g', h, hx⟩
    · exact ((Zjy h).2.2.2.2 S rfl).elim
    · cases hx
    · cases hx
  · rcases Zgd hn with h | ⟨g', h, hx⟩ | ⟨g', h, hx⟩
    · exact (Zjy h).2.1 n rfl
    · cases hx
    · cases hx
  · rcases Zgd he with h | ⟨g', h, hx⟩ | ⟨g', h, hx⟩
    · exact (Zjy h).1 kk e rfl
    · cases hx
    · cases hx
def Ztu : FuncId → Option (List Value → Option Value) := fun _ => none
theorem ZqY : ZoI Ztu := fun f g h => by cases h
theorem hp_or {β : Type} {b : Bool} {x e : β} {y : Option β} (h : (bif b then some x else y) = some e) : (b = true ∧ x = e) ∨ y = some e := by
  cases b with
  | true => injection h with h; exact .inl ⟨rfl, h⟩
  | false => exact .inr h
noncomputable def hp0 : FuncId → Option (Array Value → St → Out) := fun f =>
   none
theorem Zs3 : Zp9 hp0 := by
  intro f g h
  unfold hp0 at h
  cases h
noncomputable def ext2 : FuncId → Option Ext := Zp8 Ztu hp0
theorem fit2 : Fit Tryz.prog ext2 := fitH ZqY Zs3
noncomputable def hp1 : FuncId → Option (Array Value → St → Out) := fun f =>
  bif Nat.beq f 18 then some (Zjx Tryz.prog ext2 20000 18) else
   hp0 f
theorem ZuR : Zp9 hp1 := by
  intro f g h
  unfold hp1 at h
  rcases hp_or h with ⟨hb, rfl⟩ | h
  · obtain rfl := Nat.eq_of_beq_eq_true hb; exact ZmZ fit2 Tryz.func18 rfl
  exact Zs3 f g h
noncomputable def Ztv (sp : FuncId → Option (List Value → Option Value)) : FuncId → Option Ext := Zp8 sp hp1
theorem fitS {sp : FuncId → Option (List Value → Option Value)} (hsp : ZoI sp) : Fit Tryz.prog (Ztv sp) := fitH hsp ZuR
noncomputable def ext : FuncId → Option Ext := Ztv Ztu
theorem fit : Fit Tryz.prog ext := fitS ZqY
def ZrM (e : FuncId → Option Ext) (tc : FuncId → Bool) : FuncId → Option Ext := fun f => bif tc f then some (.tc (ZbN Tryz.prog f)) else e f
theorem fitT {e : FuncId → Option Ext} {tc : FuncId → Bool} (F : Fit Tryz.prog e) (hb : ∀ f, tc f = true → ∃ (fn : Func) (c : Code), Tryz.prog.funcs[f]? = some fn ∧ fn.body = some c) : Fit Tryz.prog (ZrM e tc) := by
  have cs : ∀ {f : Nat} {x : Ext}, ZrM e tc f = some x → (tc f = true ∧ x = .tc (ZbN Tryz.prog f)) ∨ e f = some x := fun {f x} h => by
    unfold ZrM at h
    cases ht : tc f with
    | true => rw [ht] at h; injection h with h; exact .inl ⟨rfl, h.symm⟩
    | false => rw [ht] at h; exact .inr h
  refine ⟨F.mixed, F.go, fun f g hg => ?_, fun f g hg => ?_, fun f S hS => ?_, fun f n hn => ?_, fun f kk x hx => ?_⟩
  · rcases cs hg with ⟨_, h⟩ | h
    · cases h
    · exact F.fn f g h
  · rcases cs hg with ⟨_, h⟩ | h
    · cases h
    · exact F.hp f g h
  · rcases cs hS with ⟨ht, h⟩ | h
    · injection h with h; subst h; exact ⟨hb f ht, fun _ _ _ _ _ _ h => h⟩
    · exact F.tc f S h
  · rcases cs hn with ⟨_, h⟩ | h
    · cases h
    · exact F.mark f n h
  · rcases cs hx with ⟨_, h⟩ | h
    · cases h
    · exact F.ext f kk x h
def out (r : Out) : Option Value := match r with
  | some (v, s) => match s.ob with
    | [] => bif Zcj v && Nat.ble s.n 1000000000 then some v else none
    | _ => none
  | none => none
theorem ZuS (fu : Nat) {f : FuncId} {args : Array Value} {v : Value} (w : World) (h : out (ZeB Tryz.prog ext fu f args ⟨.nil, 0, [], ⟨[], [], [], [], []⟩, []⟩) = some v) (ha : Zp Zcj args.toList = true) (ht : TabW w := by first | assumption | (intro x hx; cases hx; done)) : Calls Tryz.prog f args w (Ret v w) := by
  unfold out at h
  split at h
  · rename_i u s hr
    split at h
    · rename_i ho
      obtain ⟨hf, h⟩ := Zl h
      injection h with h
      subst h
      exact (ZuP fit hr (by rw [ho]; simp) (VRs.of_free ha) (Bool.and_eq_true_iff.1 hf).1 (Nat.le_of_ble_eq_true (Bool.and_eq_true_iff.1 hf).2) w ht).mono fun e w' ⟨h1, h2⟩ => ⟨h1, h2⟩
    · cases h
  · cases h
def outO (r : Out) : Option (Value × List (Bool × Bool)) := match r with
  | some (v, s) => bif Zcj v && Nat.ble s.n 1000000000 then some (v, s.ob) else none
  | none => none
end Ev
end Go.Proofs.YtiijipocjellpaaGreat
namespace Go.Proofs.YtiijipocjellpaaGreat
open Go.ChangeShapes Go.WideShapes Go.ChangeAt Go.RowKit
namespace Ev
section
variable {P : Program} {w : World} {r : Reach} {base : Nat}
theorem ZrN {u : TypeId} {k : IntKind} {c : Value} (hu : P.underlying u = some (.int k)) (h : Cell.okWide P w r base u c) : ∃ n, c = .int k n ∧ k.has n := by
 unfold Cell.okWide Cell.ok at h
 rw [hu] at h
 cases c <;> simp at h
 obtain ⟨rfl, h⟩ := h
 exact ⟨_, rfl, h⟩
theorem ZrO {t : TypeId} {v : Value} (hu : (match P.underlying t with | some (.struct _) | some (.array _ _) => true | _ => false) = false) (h : Value.okWide P w r base t v) : Cell.okWide P w r base t v := by
 unfold Value.okWide at h
 split at h
 ·rename_i h1; rw [h1] at hu; cases hu
 ·rename_i h1; rw [h1] at hu; cases hu
 ·exact h
theorem okWide_slice {u e : TypeId} {c : Value} (hu : P.underlying u = some (.slice e)) (h : Cell.okWide P w r base u c) : c.oneCell' = true := by
 unfold Cell.okWide Cell.ok at h
 rw [hu] at h
 cases c <;> first | rfl | (simp at h)
def ZtT : Nat → List (Nat × Bool) → List (Option Bool)
 | _, [] => []
 | n, (i, b) :: l => List.replicate (i - n) none ++ (some b :: ZtT (i + 1) l)
def ZtU : Nat → List (Nat × Int) → List (Option Int)
 | _, [] => []
 | n, (i, b) :: l => List.replicate (i - n) none ++ (some b :: ZtU (i + 1) l)
def ZoJ {α : Type} : Nat → List (Nat × α) → List (Option α)
 | _, [] => []
 | n, (i, b) :: l => List.replicate (i - n) none ++ (some b :: ZoJ (i + 1) l)
def Zh (b : List (Nat × Bool)) (v : List (Nat × Int)) (x : List (Nat × Nat)) (l : List (Nat × List Cell)) (w : List (Nat × ZgV)) : Orc := ⟨ZtT 0 b, ZtU 0 v, ZoJ 0 x, ZoJ 0 l, ZoJ 0 w⟩
theorem Zi : ∀ p ∈ ([] : List (Bool × Bool)), p.1 = p.2 := by simp
theorem ZB {a b : Bool} {l : List (Bool × Bool)} (h : a = b) (hl : ∀ q ∈ l, q.1 = q.2) : ∀ q ∈ (a, b) :: l, q.1 = q.2 := by
 intro q hq
 rcases List.mem_cons.1 hq with rfl | hq
 ·exact h
 ·exact hl q hq
theorem Zs4 {x : Int} (h : -9223372036854775808 ≤ x ∧ x < 9223372036854775808) : IntKind.i64.wrap x = x := by
 rw [IntKind.wrap_i64]
 omega
theorem Zna {b : Int} (h : 0 ≤ b) : b = Int.ofNat b.toNat := (Int.toNat_of_nonneg h).symm
theorem ZuT {n m : Nat} (h : n < m) : Nat.blt n m = true := Nat.ble_eq_true_of_le h
end
end Ev
end Go.Proofs.YtiijipocjellpaaGreat
namespace Go.Proofs.YtiijipocjellpaaGreat
open Go.IntKind (i64)
open Go.RowKit
namespace Ev
/-! ### Where a loop stands -/
def ZbB : List Nat → Code → List ZaI → Code × List ZaI
  | [], .loop a, K => (a, K)
  | 0 :: p, .seq a b, K => ZbB p a (.seq b :: K)
  | 1 :: p, .seq _ b, K => ZbB p b K
  | 2 :: p, .scope a, K => ZbB p a (.scp :: K)
  | 3 :: p, .block i a, K => ZbB p a (.blk i :: K)
  | 4 :: p, .cond _ a _, K => ZbB p a K
  | 5 :: p, .cond _ _ b, K => ZbB p b K
  | (n + 6) :: p, .loop a, K => ZbB p a (.rnd n :: K)
  | _, _, K => (.skip, K)
def ZcG (fn : Func) : Code := match fn.body with | some c => c | none => .skip
noncomputable section
def Znb (live : List Nat) (r : Option Stop) : Option (Value × List (Option AObj) × List (Bool × Bool)) :=
  match r with
  | some (.fin u s) => bif Nat.ble s.n 1000000000 then some (u, live.map s.h.get, s.ob) else none
  | _ => none
end
theorem Zq3 {live : List Nat} {r : Option Stop} {u : Value} {bl : List (Option AObj)} {ob : List (Bool × Bool)} (h : Znb live r = some (u, bl, ob)) : ∃ s, r = some (.fin u s) ∧ live.map s.h.get = bl ∧ s.ob = ob ∧ s.n ≤ far := by
  unfold Znb at h
  split at h
  · rename_i u' s
    obtain ⟨hn, h⟩ := Zl h
    injection h with h
    simp only [Prod.mk.injEq] at h
    obtain ⟨rfl, rfl, rfl⟩ := h
    exact ⟨s, rfl, rfl, rfl, Nat.le_of_ble_eq_true hn⟩
  · cases h
def ZeZ (ρ : Nat → Nat) : AObj → AObj → Prop
  | .ro O, .ro O' => O = O'
  | .ro O true, .ro O' true => O = O'
  | .cells c t, .cells c' t' => t = t' ∧ (∃ r, c.map (ZO ρ 1) = c' ++ r) ∧ Zp (ZK 1) c = true
  | .cells c t true, .cells c' t' true => t = t' ∧ c.map (ZO ρ 1) = c' ∧ Zp (ZK 1) c = true
  | _, _ => False
def Z6 (ρ : Nat → Nat) : List (Option AObj) → List (Option AObj) → Prop
  | _, [] => True
  | some o :: bl, some p :: l => ZeZ ρ o p ∧ Z6 ρ bl l
  | _ :: bl, none :: l => Z6 ρ bl l
  | _, _ => False
def Zci (ρ : Nat → Nat) : List (Option Value) → List (Nat × Value) → Prop
  | _, [] => True
  | some u :: tv, x :: l => (x.2 = ZO ρ 3 u ∧ ZK 3 u = true) ∧ Zci ρ tv l
  | _, _ => False
theorem ZdS {ρ : Nat → Nat} {h : AH} : ∀ {live : List Nat} {l : List (Option AObj)}, Z6 ρ (live.map h) l → ∀ j o, lkO l j = some o → ∃ k, live[j]? = some k ∧ match o with
      | .ro O m => h k = some (.ro O m)
      | .cells c t q => ∃ c' r, h k = some (.cells c' t q) ∧ c'.map (ZO ρ 1) = c ++ r ∧ (q = true → r = []) ∧ Zp (ZK 1) c' = true
  | live, [], _, j, o, hj => by simp [lkO] at hj
  | [], x :: l, hb, j, o, hj => by cases x <;> exact hb.elim
  | k :: live, none :: l, hb, j, o, hj => by
    have hb' : Z6 ρ (live.map h) l := by
      simp only [List.map_cons] at hb
      cases hk : h k <;> rw [hk] at hb <;> exact hb
    cases j with
    | zero => simp [lkO] at hj
    | succ j => obtain ⟨k', q1, q2⟩ := ZdS hb' j o (by simpa [lkO] using hj); exact ⟨k', by simpa using q1, q2⟩
  | k :: live, some p :: l, hb, j, o, hj => by
    simp only [List.map_cons] at hb
    cases hk : h k with
    | none => rw [hk] at hb; exact hb.elim
    | some o1 =>
      rw [hk] at hb
      cases j with
      | zero =>
        have : p = o := by simpa [lkO] using hj
        subst this
        refine ⟨k, rfl, ?_⟩
        have h1 := hb.1
        cases o1 with
        | cells c1 t1 q1 =>
          cases p with
          | cells c2 t2 q2 =>
            cases q1 <;> cases q2
            · simp only [ZeZ] at h1; obtain ⟨rfl, ⟨r, hr⟩, hs⟩ := h1; exact ⟨_, r, hk, hr, (fun e => by cases e), hs⟩
            · exact h1.elim
            · exact h1.elim
            · simp only [ZeZ] at h1; obtain ⟨rfl, hr, hs⟩ := h1; exact ⟨_, [], hk, by rw [hr, List.append_nil], fun _ => rfl, hs⟩
          | ro O2 m2 => cases q1 <;> cases m2 <;> exact h1.elim
        | ro O1 m1 =>
          cases p with
          | cells c2 t2 q2 => cases m1 <;> cases q2 <;> exact h1.elim
          | ro O2 m2 =>
            cases m1 <;> cases m2
            · obtain rfl : O1 = O2 := h1; exact hk
            · exact h1.elim
            · exact h1.elim
            · obtain rfl : O1 = O2 := h1; exact hk
      | succ j => obtain ⟨k', q1, q2⟩ := ZdS hb.2 j o (by simpa [lkO] using hj); exact ⟨k', by simpa using q1, q2⟩
theorem ZpA {ρ : Nat → Nat} {T : Tr Value} : ∀ {l : List (Nat × Value)}, Zci ρ ((l.map (·.1)).map T.get) l → ∀ t v, ZQ t l = some v → v = ZO ρ 3 ((T.get t).getD undef) ∧ ZK 3 ((T.get t).getD undef) = true
  | [], _, t, v, h => by cases h
  | x :: l, ht, t, v, h => by
    simp only [List.map_cons] at ht
    cases hx : T.get x.1 with
    | none => rw [hx] at ht; exact ht.elim
    | some u =>
      rw [hx] at ht
      unfold ZQ at h
      cases hb : Nat.beq x.1 t with
      | true =>
        rw [hb] at h
        injection h with h
        obtain rfl := Nat.eq_of_beq_eq_true hb
        subst h
        rw [hx]
        exact ht.1
      | false => rw [hb] at h; exact ZpA ht.2 t v h
section
variable {P : Program} {ext : FuncId → Option Ext}
end
/-! ### Rows of numbers -/
theorem Zuq (n : Int) : i64.wrap (((BitVec.ofInt i64.bits n &&& BitVec.ofInt i64.bits 1).toNat : Nat) : Int) = n % 2 := by
  have hb : i64.bits = 64 := rfl
  have e1 : (BitVec.ofInt 64 n &&& BitVec.ofInt 64 1).toNat = (BitVec.ofInt 64 n).toNat % 2 := by
    rw [BitVec.toNat_and]
    have : (BitVec.ofInt 64 1).toNat = 1 := by decide
    rw [this, Nat.and_one_is_mod]
  have e2 : ((BitVec.ofInt 64 n).toNat : Int) = n % 18446744073709551616 := by
    rw [BitVec.toNat_ofInt]
    omega
  show i64.wrap (((BitVec.ofInt 64 n &&& BitVec.ofInt 64 1).toNat : Nat) : Int) = n % 2
  rw [e1, Zs4 (by omega)]
  omega
theorem Ztw {a b : Int} (h : 0 ≤ a) : Int.tmod a b = a % b := Int.tmod_eq_emod_of_nonneg h
theorem Ztx {a b : Int} (h : 0 ≤ a) : Int.tdiv a b = a / b := Int.tdiv_eq_ediv_of_nonneg h
theorem wrap_i64 {x : Int} (h : -9223372036854775808 ≤ x ∧ x ≤ 9223372036854775807) : i64.wrap x = x := Zs4 (by omega)
theorem Z3 {k o o' n n' c c' : Nat} (h1 : o = o') (h2 : n = n') (h3 : c = c') : Value.slice (some ⟨k, o, none⟩) n c = .slice (some ⟨k, o', none⟩) n' c' := by rw [h1, h2, h3]
theorem Zg {α : Type} {a b : α} {l r : List α} (h : a = b) (t : l = r) : a :: l = b :: r := by rw [h, t]
/-! ### Rows of bools -/
/-! ### Rows of the caller's -/
end Ev
end Go.Proofs.YtiijipocjellpaaGreat
namespace Go.Proofs.YtiijipocjellpaaGreat
open Go.RowKit
namespace Ev
section
variable {P : Program} {ext : FuncId → Option Ext}
def Zty (κ : List Nat) (n : Nat) (pre : List AObj) : List (Nat × AObj) := κ.zip (pre.map (Zf9 (kap κ n)))
def ZoK (κ : List Nat) (n : Nat) (ch : List Nat) (post : List (Option AObj)) : List (Nat × Option AObj) := ch.map fun j => (kap κ n j, (lkO post j).map (Zf9 (kap κ n)))
def ZhP (m : Nat) : List AObj → Prop
 | [] => True
 | o :: l => Zfn m o = true ∧ ZhP m l
def ZfI (m : Nat) : List (Option AObj) → Prop
 | [] => True
 | some o :: l => Zfn m o = true ∧ ZfI m l
 | none :: l => ZfI m l
theorem Zog {m : Nat} : ∀ {l : List AObj}, ZhP m l → ∀ o ∈ l, Zfn m o = true
 | x :: l, h, o, ho => by
  rcases List.mem_cons.1 ho with rfl | ho
  ·exact h.1
  ·exact Zog h.2 o ho
theorem ZjU {m : Nat} : ∀ {l : List (Option AObj)}, ZfI m l → ∀ o, some o ∈ l → Zfn m o = true
 | some x :: l, h, o, ho => by
  rcases List.mem_cons.1 ho with e | ho
  ·injection e with e; subst e; exact h.1
  ·exact ZjU h.2 o ho
 | none :: l, h, o, ho => by
  rcases List.mem_cons.1 ho with e | ho
  ·cases e
  ·exact ZjU (l := l) h o ho
def Zn8 (ch : List Nat) : Nat → List AObj → List (Option AObj) → Prop
 | _, _, [] => True
 | j, o :: l, p :: r => (j ∈ ch ∨ p = some o) ∧ Zn8 ch (j + 1) l r
 | j, [], _ :: r => j ∈ ch ∧ Zn8 ch (j + 1) [] r
theorem Zn9 {ch : List Nat} : ∀ {l : List AObj} {r : List (Option AObj)} {j : Nat}, Zn8 ch j l r → ∀ i, i < r.length → j + i ∈ ch ∨ (i < l.length ∧ r[i]? = some l[i]?)
 | o :: l, p :: r, j, h, 0, _ => by
  rcases h.1 with h | h
  ·exact .inl h
  ·exact .inr ⟨by simp, by simp [h]⟩
 | o :: l, p :: r, j, h, i + 1, hi => by
  rcases Zn9 h.2 i (by simpa using hi) with q | ⟨q1, q2⟩
  ·exact .inl (by rwa [show j + (i + 1) = j + 1 + i by omega])
  ·exact .inr ⟨by simpa using q1, by simpa using q2⟩
 | [], p :: r, j, h, 0, _ => .inl h.1
 | [], p :: r, j, h, i + 1, hi => by
  rcases Zn9 h.2 i (by simpa using hi) with q | ⟨q1, q2⟩
  ·exact .inl (by rwa [show j + (i + 1) = j + 1 + i by omega])
  ·simp at q1
theorem ZpB {α : Type} {k : Nat} {x : α} : ∀ {ks : List Nat} {l : List α} {j : Nat}, ks.Nodup → ks[j]? = some k → l[j]? = some x → ZQ k (ks.zip l) = some x
 | a :: ks, b :: l, 0, _, h1, h2 => by
  simp at h1 h2
  subst h1 h2
  simp [ZQ]
 | a :: ks, b :: l, j + 1, hn, h1, h2 => by
  have hm : k ∈ ks := List.mem_of_getElem? (by simpa using h1)
  have hne : a ≠ k := fun e => by subst e; exact (List.nodup_cons.1 hn).1 hm
  show ZQ k ((a, b) :: ks.zip l) = _
  unfold ZQ
  rw [ZfZ hne]
  exact ZpB (List.nodup_cons.1 hn).2 (by simpa using h1) (by simpa using h2)
 | [], _, j, _, h1, _ => by simp at h1
 | a :: ks, [], j, _, _, h2 => by simp at h2
theorem ZpC {f : Nat → Nat} {g : Nat → Option AObj} (hf : ∀ i j, f i = f j → i = j) (j : Nat) : ∀ ch : List Nat, ZQ (f j) (ch.map fun i => (f i, g i)) = if j ∈ ch then some (g j) else none
 | [] => rfl
 | a :: ch => by
  show ZQ (f j) ((f a, g a) :: ch.map fun i => (f i, g i)) = _
  unfold ZQ
  by_cases h : a = j
  ·subst h; rw [Zga rfl]; simp
  ·rw [ZfZ (fun e => h (hf _ _ e)), cond_false, ZpC hf j ch]
   simp [show ¬ j = a from fun e => h e.symm]
theorem LSpec.callL {f : FuncId} {A : Array Value} {pre : List AObj} {v : Value} {post : List (Option AObj)} (h : LSpec P f A pre v post) (κ : List Nat) (n : Nat) (ch : List Nat) (hκ : κ.length = pre.length) (hnd : κ.Nodup) (hlt : ∀ k ∈ κ, k < n) (hle : pre.length ≤ post.length) (hch : ∀ j ∈ ch, j < post.length)
  (hA : Zp (Zag pre.length 3) A.toList = true) (hpre : ZhP pre.length pre) (hv : (Zag post.length 3 v || Zb0 v) = true) (hpost : ZfI post.length post) (hk : Zn8 ch 0 pre post)
  {A' : Array Value} {pre' : List (Nat × AObj)} {v' : Value} {post' : List (Nat × Option AObj)} {dn : Nat} (eA : A' = Zfg (ZO (kap κ n) 3) A) (ev : v' = ZO (kap κ n) 3 v) (edn : pre.length + dn = post.length) (ep : pre' = Zty κ n pre) (eq : post' = ZoK κ n ch post) : ZbN P f A' pre' v' post' n dn := by
 have kl : ∀ j, j < pre.length → κ[j]? = some (kap κ n j) := fun j hj => ZmV (by omega)
 have kn : ∀ j, j < pre.length → kap κ n j < n := fun j hj => hlt _ (List.mem_of_getElem? (kl j hj))
 have kg : ∀ j, pre.length ≤ j → kap κ n j = n + (j - pre.length) := fun j hj => by rw [← hκ]; exact Zs0 (by omega)
 have kinj : ∀ i j, kap κ n i = kap κ n j → i = j := fun i j hij => by
  rcases Nat.lt_or_ge i pre.length with h1 | h1 <;> rcases Nat.lt_or_ge j pre.length with h2 | h2
  ·have a := kl i h1
   have b := kl j h2
   rw [hij, ← b] at a
   exact (List.getElem?_inj (by omega) hnd).1 a
  ·have := kn i h1; rw [hij, kg j h2] at this; omega
  ·have := kn j h2; rw [← hij, kg i h1] at this; omega
  ·rw [kg i h1, kg j h2] at hij; omega
 have lp : ∀ j o, pre[j]? = some o → ZQ (kap κ n j) pre' = some (Zf9 (kap κ n) o) := fun j o ho => by
  subst ep
  have hj : j < pre.length := (List.getElem?_eq_some_iff.1 ho).1
  exact ZpB hnd (kl j hj) (by rw [List.getElem?_map, ho]; rfl)
 have ip : ∀ k o, ZQ k pre' = some o → ∃ j, j < pre.length ∧ k = kap κ n j := fun k o ho => by
  subst ep
  obtain ⟨j, hj1, hj2⟩ := List.getElem_of_mem (List.of_mem_zip (Zg5 ho)).1
  have hj : j < pre.length := by omega
  refine ⟨j, hj, ?_⟩
  have := kl j hj
  rw [List.getElem?_eq_getElem hj1, hj2] at this
  exact Option.some.inj this
 have lq : ∀ j, ZQ (kap κ n j) post' = if j ∈ ch then some ((lkO post j).map (Zf9 (kap κ n))) else none := fun j => by
  subst eq
  exact ZpC (g := fun j => (lkO post j).map (Zf9 (kap κ n))) kinj j ch
 refine h.call κ n hκ hnd hlt hle hA (Zog hpre) hv (ZjU hpost) eA ev edn lp ip (fun j hj => ?_) (fun k o ho => ?_)
 ·unfold behind
  rw [lq j]
  rcases Zn9 hk j hj with hc | ⟨h1, h2⟩
  ·rw [Nat.zero_add] at hc
   rw [if_pos hc]
  ·by_cases hc : j ∈ ch
   ·rw [if_pos hc]
   ·rw [if_neg hc]
    have ho : pre[j]? = some pre[j] := List.getElem?_eq_getElem h1
    show ZQ (kap κ n j) pre' = _
    rw [lp j _ ho]
    simp [lkO, h2, ho]
 ·unfold behind at ho
  split at ho
  ·rename_i o' hl
   subst eq
   have := Zg5 hl
   unfold ZoK at this
   obtain ⟨j, hj, he⟩ := List.mem_map.1 this
   injection he with h1 h2
   exact ⟨j, hch j hj, h1.symm⟩
  ·obtain ⟨j, hj, hk⟩ := ip k o ho
   exact ⟨j, by omega, hk⟩
end
theorem ZfJ {α β : Type} {a a' : α} {b b' : β} (h : a = a') (k : b = b') : (a, b) = (a', b') := by rw [h, k]
theorem ZnA {α : Type} {a a' : α} (h : a = a') : some a = some a' := by rw [h]
theorem ZjV {l r : List Value} (h : l = r) : l.toArray = r.toArray := by rw [h]
section
variable {P : Program} {ext : FuncId → Option Ext}
variable {fn : Func} {pre : List AObj} {v : Value} {po : List (Option AObj)} {X : Type} {m i : Nat} {L : X → List (Nat × Value)} {H : X → List AObj} {μ : X → Nat} {bd : X → List Nat} {Gb : List Nat → Ren → World → (Nat → Act → World → Prop) → Prop} {x : X} {c : Code} {K : List ZaI} {T0 : Tr Value} {fu : Nat} {orc : Orc} {live : List Nat} {bl : List (Option AObj)} {ob : List (Bool × Bool)}
end
/-! ### A law -/
theorem ZuU (P : Program) {w : World} (ht : TabW w) : Emb P (ιMk w) (lk []) w := by
 rw [show lk [] = fun _ => none from funext fun k => by simp [lk]]
 exact ZqR P ht
theorem Ztz {v : Value} (h : Zcj v = true) : Zb0 v = false := by
 cases hz : Zb0 v with
 | false => rfl
 | true =>
  unfold Zb0 at hz
  split at hz
  ·simp only [Zcj, ZaN, atom] at h
   simp [h] at hz
  ·cases hz
theorem ZuV {P : Program} {f : FuncId} {A : Array Value} {post : List (Option AObj)} {v : Value} (h : LSpec P f A [] v post) {w : World} {args' : Array Value} (ha : VRs (ιMk w) A args') (hv : Zcj v = true) (ht : TabW w := by first | assumption | (intro x hx; cases hx; done)) : Calls P f args' w (Ret v w) := by
 refine (h (ιMk w) w args' (fun k hk => ?_) ha (ZuU P ht)).mono ?_
 ·cases hq : ιMk w k with
  | none => exact absurd hq hk
  | some q =>
   obtain ⟨b, base, id, rfl, _⟩ := ιMk_inv hq
   exact .inr (Zc7 b base id)
 ·rintro e w' (⟨v', ι', rfl, hS, _, hvr⟩ | ⟨ht, _⟩)
  rotate_left
  ·rw [Ztz hv] at ht; cases ht
  have := hvr.eq_of_free hv
  subst this
  exact ⟨rfl, hS.os, hS.tape, hS.output, hS.size, fun b hb => hS.frame b hb fun k c hk => by cases hk⟩
end Ev
end Go.Proofs.YtiijipocjellpaaGreat
/- Arguments that are slices of structs of ints, opened, over any program. -/
namespace Go.Proofs.YtiijipocjellpaaGreat
open Go.ChangeShapes Go.WideShapes Go.ChangeAt Go.RowKit Go.Deep
section
variable {H : Type} {enc : TypeId × Value → H} {P : Program} {w : World}

end
end Go.Proofs.YtiijipocjellpaaGreat
/- Arguments that are rows of numbers: blocks of the caller's, that are read alone. -/
namespace Go.Proofs.YtiijipocjellpaaGreat
open Go.ChangeShapes Go.WideShapes Go.ChangeAt Go.RowKit
namespace Ev
section
variable {P : Program} {w : World}
theorem Zkr {b o : Nat} {v : Value} (h : w.cell? ⟨b, o, none⟩ = some v) : ∃ C t fr, w.heap[b]? = some (.cells C t fr) ∧ C[o]? = some v := by
 unfold World.cell? at h
 split at h
 ·rename_i c e fr hb
  split at h
  ·cases h
  ·exact ⟨c, e, fr, hb, h⟩
 ·cases h
end
inductive StopC where
 | fin (v : Value) (s : St)
 | head (a : Code) (K : List ZaI) (T : Tr Value) (s : St)
 | next (i : Nat) (T : Tr Value) (s : St)
 | cut (b : Code) (K : List ZaI) (T : Tr Value) (s : St)
 | thr (u : Value) (s : St)
noncomputable section
def StopC.s : StopC → St
 | .fin _ s => s
 | .head _ _ _ s => s
 | .next _ _ s => s
 | .cut _ _ _ s => s
 | .thr _ s => s
def ZpD (s : St) : Option Value → Option StopC
 | some v => some (.fin v s)
 | none => none
def ZpE : Option (Value × Tr Value × St) → Option StopC
 | some (u, _, s) => bif Zb0 u then some (.thr u s) else none
 | none => none
def Zs5 (P : Program) (fn : Func) (e : Ex) (T : Tr Value) (s : St) : Option StopC :=
 match e with
 | .exit _ => none
 | .normal => ZpD s (ZrG P fn T s)
 | .ret => ZpD s (ZrG P fn T s)
mutual
def Zdt (P : Program) (ext : FuncId → Option Ext) (fn : Func) (nt : Nat) (cd : Nat) : Nat → Nat → Code → List ZaI → Tr Value → St → Option StopC
 | 0, _, _, _, _, _ => none
 | fu + 1, cm, c, K, T, s => match c with
  | .seq a b => Zdt P ext fn nt cd fu cm a (.seq b :: K) T s
  | .scope a => Zdt P ext fn nt cd fu cm a (.scp :: K) T s
  | .block id a => Zdt P ext fn nt cd fu cm a (.blk id :: K) T s
  | .cond x a b => match opnd T x with
   | .bool t => match t with
    | true => Zdt P ext fn nt cd fu cm a K T s
    | false => Zdt P ext fn nt cd fu cm b K T s
   | _ => none
  | .loop a => some (.head a K T s)
  | c => match ZR P ext nt fu c T s with
   | some (e, T', s') => Zcb P ext fn nt cd fu cm K e T' s'
   | none => ZpE (Zbg P ext nt (ZdG P ext fu) fu c T s)
termination_by structural fu _ _ _ _ _ => fu
def Zcb (P : Program) (ext : FuncId → Option Ext) (fn : Func) (nt : Nat) (cd : Nat) : Nat → Nat → List ZaI → Ex → Tr Value → St → Option StopC
 | 0, _, _, _, _, _ => none
 | fu + 1, cm, K, e, T, s => match K with
  | [] => Zs5 P fn e T s
  | .seq b :: K => match e with
   | .normal => match Nat.beq K.length cd with
    | false => Zdt P ext fn nt cd fu cm b K T s
    | true => match cm with
     | 0 => some (.cut b K T s)
     | m + 1 => Zdt P ext fn nt cd fu m b K T s
   | .exit i => Zcb P ext fn nt cd fu cm K (.exit i) T s
   | .ret => Zcb P ext fn nt cd fu cm K .ret T s
  | .blk id :: K => match e with
   | .exit i => bif Nat.beq i id then Zcb P ext fn nt cd fu cm K .normal T s else Zcb P ext fn nt cd fu cm K (.exit i) T s
   | .normal => Zcb P ext fn nt cd fu cm K .normal T s
   | .ret => Zcb P ext fn nt cd fu cm K .ret T s
  | .scp :: K => Zcb P ext fn nt cd fu cm K e T s
  | .rnd i :: K => match e with
   | .normal => some (.next i T s)
   | .exit j => Zcb P ext fn nt cd fu cm K (.exit j) T s
   | .ret => Zcb P ext fn nt cd fu cm K .ret T s
termination_by structural fu _ _ _ _ _ => fu
end
end
section
variable {P : Program} {ext : FuncId → Option Ext}
theorem ZpF {s : St} {o : Option Value} {st : StopC} (h : ZpD s o = some st) : ∃ v, st = .fin v s ∧ o = some v := by
 cases o with
 | none => cases h
 | some v => injection h with h; exact ⟨v, h.symm, rfl⟩
theorem ZpG {fn : Func} {e : Ex} {T : Tr Value} {s : St} {st : StopC} (h : Zs5 P fn e T s = some st) : ∃ v, st = .fin v s ∧ (match e with | .exit _ => False | _ => True) ∧ (match Zbp P T s fn.results.toList with | some [v] => some v | some vs => some (.tuple vs.toArray) | none => none) = some v := by
 cases e with
 | exit i => cases h
 | normal => obtain ⟨v, h1, h2⟩ := ZpF h; exact ⟨v, h1, trivial, h2⟩
 | ret => obtain ⟨v, h1, h2⟩ := ZpF h; exact ⟨v, h1, trivial, h2⟩
theorem Zoh {o : Option (Value × Tr Value × St)} {st : StopC} (h : ZpE o = some st) : ∃ u T s, o = some (u, T, s) ∧ Zb0 u = true ∧ st = .thr u s := by
 unfold ZpE at h
 split at h
 ·rename_i u T s
  obtain ⟨h1, h2⟩ := Zl h
  injection h2 with h2
  exact ⟨u, T, s, rfl, h1, h2.symm⟩
 ·cases h
theorem ZpH (F : Fit P ext) {fn : Func} {nt cd : Nat} : ∀ fu : Nat, (∀ cm c K T s st, Zdt P ext fn nt cd fu cm c K T s = some st → Up s st.s) ∧ (∀ cm K e T s st, Zcb P ext fn nt cd fu cm K e T s = some st → Up s st.s) := by
 intro fu
 induction fu with
 | zero => exact ⟨fun _ _ _ _ _ _ h => by simp [Zdt] at h, fun _ _ _ _ _ _ h => by simp [Zcb] at h⟩
 | succ fu ih =>
  obtain ⟨ihT, ihB⟩ := ih
  have other : ∀ cm c K T s st, (match ZR P ext nt fu c T s with | some (e, T', s') => Zcb P ext fn nt cd fu cm K e T' s' | none => ZpE (Zbg P ext nt (ZdG P ext fu) fu c T s)) = some st → Up s st.s := fun cm c K T s st h => by
   split at h
   ·exact ((ZbA (P := P) (ext := ext) (fun f g hg => (F.hp f g hg).up) fu).1 _ _ _ _ _ _ _ (by assumption)).trans (ihB _ _ _ _ _ _ h)
   ·obtain ⟨u, T', s', hx, _, rfl⟩ := Zoh h
    exact ZhM F (ZrI F fu) fu _ _ _ _ _ _ hx
  refine ⟨fun cm c K T s st h => ?_, fun cm K e T s st h => ?_⟩
  ·cases c <;> simp only [Zdt] at h
   case seq a b => exact ihT _ _ _ _ _ _ h
   case scope a => exact ihT _ _ _ _ _ _ h
   case block id a => exact ihT _ _ _ _ _ _ h
   case cond x a b =>
    split at h
    ·split at h
     ·exact ihT _ _ _ _ _ _ h
     ·exact ihT _ _ _ _ _ _ h
    ·cases h
   case loop a => injection h with h; subst h; exact Up.refl _
   all_goals exact other _ _ _ _ _ _ h
  ·cases K with
   | nil => simp only [Zcb] at h; obtain ⟨v, rfl, _⟩ := ZpG h; exact Up.refl _
   | cons k K =>
    cases k <;> simp only [Zcb] at h
    ·cases e <;> simp only at h
     ·split at h
      ·exact ihT _ _ _ _ _ _ h
      ·split at h
       ·injection h with h; subst h; exact Up.refl _
       ·exact ihT _ _ _ _ _ _ h
     ·exact ihB _ _ _ _ _ _ h
     ·exact ihB _ _ _ _ _ _ h
    ·cases e <;> simp only at h
     ·exact ihB _ _ _ _ _ _ h
     ·rename_i id i
      cases hb : Nat.beq i id <;> rw [hb] at h <;> exact ihB _ _ _ _ _ _ h
     ·exact ihB _ _ _ _ _ _ h
    ·exact ihB _ _ _ _ _ _ h
    ·cases e <;> simp only at h
     ·injection h with h; subst h; exact Up.refl _
     ·exact ihB _ _ _ _ _ _ h
     ·exact ihB _ _ _ _ _ _ h
def Zlb (P : Program) (fn : Func) (R : Ending → World → Prop) (Nx : Nat → Act → World → Prop) (nt : Nat) (ι : Ren) (a : Act) (w : World) : StopC → Prop
 | .fin v _ => ∀ v', VR ι v v' → R (.returned v') w
 | .head b K T _ => TR ι nt [] T a → (Code.loop b).wp P (post P fn R Nx K) a w
 | .next i T _ => TR ι nt [] T a → Nx i a w
 | .cut b K T _ => TR ι nt [] T a → b.wp P (post P fn R Nx K) a w
 | .thr u _ => Zb0 u = true → R (.panicked (ZeX u)) w
theorem Zge {fn : Func} {R : Ending → World → Prop} {Nx : Nat → Act → World → Prop} {ch : List PanicEntry} {a : Act} {w : World} (ha : a.defers = []) (h : R (.panicked ch) w) : ∀ K : List ZaI, post P fn R Nx K (.panic ch) a w
 | [] => ⟨ha, h⟩
 | .seq b :: K => Zge ha h K
 | .blk id :: K => Zge ha h K
 | .scp :: K => Zge ha h K
 | .rnd i :: K => Zge ha h K
theorem Zoi (F : Fit P ext) {fn : Func} {nt cd : Nat} {R : Ending → World → Prop} {Nx : Nat → Act → World → Prop} : ∀ fu : Nat,
  (∀ cm c K T s st, Zdt P ext fn nt cd fu cm c K T s = some st → (∀ p ∈ st.s.ob, p.1 = p.2) → ∀ ι a w, TR ι nt [] T a → Emb P ι s.h.get w → Fresh ι s.n st.s.n →
   (∀ ι' a' w', Step P ι s.h.get w ι' st.s.h.get w' → Dom ι ι' s.n st.s.n → Zlb P fn R Nx nt ι' a' w' st) → c.wp P (post P fn R Nx K) a w) ∧
  (∀ cm K e T s st, Zcb P ext fn nt cd fu cm K e T s = some st → (∀ p ∈ st.s.ob, p.1 = p.2) → ∀ ι a w, TR ι nt [] T a → Emb P ι s.h.get w → Fresh ι s.n st.s.n →
   (∀ ι' a' w', Step P ι s.h.get w ι' st.s.h.get w' → Dom ι ι' s.n st.s.n → Zlb P fn R Nx nt ι' a' w' st) → post P fn R Nx K e.out a w) := by
 intro fu
 induction fu with
 | zero => exact ⟨fun _ _ _ _ _ _ h => by simp [Zdt] at h, fun _ _ _ _ _ _ h => by simp [Zcb] at h⟩
 | succ fu ih =>
  obtain ⟨ihT, ihB⟩ := ih
  have other : ∀ cm c K T s st, (match ZR P ext nt fu c T s with | some (e, T', s') => Zcb P ext fn nt cd fu cm K e T' s' | none => ZpE (Zbg P ext nt (ZdG P ext fu) fu c T s)) = some st → (∀ p ∈ st.s.ob, p.1 = p.2) → ∀ ι a w, TR ι nt [] T a → Emb P ι s.h.get w → Fresh ι s.n st.s.n →
   (∀ ι' a' w', Step P ι s.h.get w ι' st.s.h.get w' → Dom ι ι' s.n st.s.n → Zlb P fn R Nx nt ι' a' w' st) → c.wp P (post P fn R Nx K) a w := fun cm c K T s st h ho ι a w hT he hf hQ => by
   split at h
   ·rename_i e T1 s1 h1
    have u1 := (ZbA (P := P) (ext := ext) (fun f g hg => (F.hp f g hg).up) fu).1 _ _ _ _ _ _ _ h1
    have u2 := (ZpH F (fn := fn) (nt := nt) fu).2 _ _ _ _ _ _ h
    refine wp_mono (ZtR F h1 (Za3 u2.ob ho) hT he (hf.mono (Nat.le_refl _) u2.n)) ?_
    rintro ex a1 w1 ⟨rfl, ι1, g1, g2, g3⟩
    exact ihB _ K e T1 s1 st h ho ι1 a1 w1 g3 g1.emb (hf.after g2 u1.n) fun ι' a' w' k1 k2 => hQ ι' a' w' (g1.trans k1) (g2.trans k2 u1.n u2.n)
   ·obtain ⟨u, T', s', hx, ht, rfl⟩ := Zoh h
    refine wp_mono ((Zsx F (ZrI F fu) fu).1 c T s u T' s' hx ho ι [] a w hT he hf) ?_
    rintro ex a1 w1 ⟨ι1, rfl, g1, g2, g3⟩
    exact Zge g3.2.1 (hQ ι1 a1 w1 g1 g2 ht) K
  refine ⟨fun cm c K T s st h ho ι a w hT he hf hQ => ?_, fun cm K e T s st h ho ι a w hT he hf hQ => ?_⟩
  ·have h0 := h
   cases c <;> simp only [Zdt] at h
   case seq x y => exact wp_seq (ihT _ x (.seq y :: K) T s st h ho ι a w hT he hf hQ)
   case scope x => exact wp_scope_straight (ihT _ x (.scp :: K) T s st h ho ι a w hT he hf hQ)
   case block id x => exact wp_block (ihT _ x (.blk id :: K) T s st h ho ι a w hT he hf hQ)
   case cond x y z =>
    split at h
    ·rename_i t ht
     have hx : a.eval x = .bool t := Zea ((ht ▸ hT.opnd x : VR ι (.bool t) (Zbl a x)).bool_inv)
     split at h
     ·exact wp_cond_true hx (ihT _ y K T s st h ho ι a w hT he hf hQ)
     ·exact wp_cond_false hx (ihT _ z K T s st h ho ι a w hT he hf hQ)
    ·cases h
   case loop x =>
    injection h with h
    subst h
    exact hQ ι a w (Step.refl he) Dom.refl hT
   all_goals exact other _ _ K T s st h ho ι a w hT he hf hQ
  ·cases K with
   | nil =>
    simp only [Zcb] at h
    obtain ⟨v, rfl, hne, hr⟩ := ZpG h
    obtain ⟨v', hrun, hv⟩ := ZcO hT he hr
    have := hQ ι a w (Step.refl he) Dom.refl v' hv
    cases e with
    | normal => exact ⟨hT.2.1, v', hrun, this⟩
    | ret => exact ⟨hT.2.1, v', hrun, this⟩
    | exit i => exact hne.elim
   | cons k K =>
    cases k with
    | seq b =>
     simp only [Zcb] at h
     cases e with
     | normal =>
      simp only at h
      split at h
      ·exact ihT _ b K T s st h ho ι a w hT he hf hQ
      ·split at h
       ·injection h with h
        subst h
        exact hQ ι a w (Step.refl he) Dom.refl hT
       ·exact ihT _ b K T s st h ho ι a w hT he hf hQ
     | exit i => exact ihB _ K (.exit i) T s st h ho ι a w hT he hf hQ
     | ret => exact ihB _ K .ret T s st h ho ι a w hT he hf hQ
    | blk id =>
     simp only [Zcb] at h
     cases e with
     | normal => exact ihB _ K .normal T s st h ho ι a w hT he hf hQ
     | ret => exact ihB _ K .ret T s st h ho ι a w hT he hf hQ
     | exit i =>
      simp only at h
      show if i = id then _ else _
      cases hb : Nat.beq i id with
      | true =>
       rw [hb] at h
       rw [if_pos (Nat.eq_of_beq_eq_true hb)]
       exact ihB _ K .normal T s st h ho ι a w hT he hf hQ
      | false =>
       rw [hb] at h
       rw [if_neg (fun e => by rw [Zga e] at hb; cases hb)]
       exact ihB _ K (.exit i) T s st h ho ι a w hT he hf hQ
    | scp =>
     simp only [Zcb] at h
     have := ihB _ K e T s st h ho ι a w hT he hf hQ
     cases e <;> exact this
    | rnd i =>
     simp only [Zcb] at h
     cases e with
     | normal =>
      injection h with h
      subst h
      exact hQ ι a w (Step.refl he) Dom.refl hT
     | exit j => exact ihB _ K (.exit j) T s st h ho ι a w hT he hf hQ
     | ret => exact ihB _ K .ret T s st h ho ι a w hT he hf hQ
end
noncomputable section
def Zh2 (live : List Nat) (r : Option StopC) : Option (Value × List (Option AObj) × List (Bool × Bool)) :=
 match r with
 | some (.fin u s) => bif Nat.ble s.n 500000000 then some (u, live.map s.h.get, s.ob) else none
 | _ => none
def ZjW (i : Nat) (live temps : List Nat) (r : Option StopC) : Option (List (Option Value) × List (Option AObj) × List (Bool × Bool)) :=
 match r with
 | some (.next j T s) => bif Nat.beq j i && Nat.ble s.n 500000000 then some (temps.map T.get, live.map s.h.get, s.ob) else none
 | _ => none
def Zg8 (live temps : List Nat) (r : Option StopC) : Option ((Code × List ZaI) × List (Option Value) × List (Option AObj) × List (Bool × Bool)) :=
 match r with
 | some (.head b K T s) => bif Nat.ble s.n 500000000 then some ((b, K), temps.map T.get, live.map s.h.get, s.ob) else none
 | _ => none
end
theorem Zlc {live : List Nat} {r : Option StopC} {u : Value} {bl : List (Option AObj)} {ob : List (Bool × Bool)} (h : Zh2 live r = some (u, bl, ob)) : ∃ s, r = some (.fin u s) ∧ live.map s.h.get = bl ∧ s.ob = ob ∧ s.n ≤ 500000000 := by
 unfold Zh2 at h
 split at h
 ·rename_i u' s
  obtain ⟨hn, h⟩ := Zl h
  injection h with h
  simp only [Prod.mk.injEq] at h
  obtain ⟨rfl, rfl, rfl⟩ := h
  exact ⟨s, rfl, rfl, rfl, Nat.le_of_ble_eq_true hn⟩
 ·cases h
theorem Zo3 {i : Nat} {live temps : List Nat} {r : Option StopC} {tv : List (Option Value)} {bl : List (Option AObj)} {ob : List (Bool × Bool)} (h : ZjW i live temps r = some (tv, bl, ob)) : ∃ T s, r = some (.next i T s) ∧ temps.map T.get = tv ∧ live.map s.h.get = bl ∧ s.ob = ob ∧ s.n ≤ 500000000 := by
 unfold ZjW at h
 split at h
 ·rename_i j T s
  obtain ⟨hn, h⟩ := Zl h
  simp only [Bool.and_eq_true] at hn
  injection h with h
  simp only [Prod.mk.injEq] at h
  obtain ⟨rfl, rfl, rfl⟩ := h
  exact ⟨T, s, by rw [Nat.eq_of_beq_eq_true hn.1], rfl, rfl, rfl, Nat.le_of_ble_eq_true hn.2⟩
 ·cases h
theorem Zks {live temps : List Nat} {r : Option StopC} {bK : Code × List ZaI} {tv : List (Option Value)} {bl : List (Option AObj)} {ob : List (Bool × Bool)} (h : Zg8 live temps r = some (bK, tv, bl, ob)) : ∃ T s, r = some (.head bK.1 bK.2 T s) ∧ temps.map T.get = tv ∧ live.map s.h.get = bl ∧ s.ob = ob ∧ s.n ≤ 500000000 := by
 unfold Zg8 at h
 split at h
 ·rename_i b K T s
  obtain ⟨hn, h⟩ := Zl h
  injection h with h
  simp only [Prod.mk.injEq] at h
  obtain ⟨rfl, rfl, rfl, rfl⟩ := h
  exact ⟨T, s, rfl, rfl, rfl, rfl, Nat.le_of_ble_eq_true hn⟩
 ·cases h
section
variable {P : Program} {ext : FuncId → Option Ext}
theorem Zs6 (F : Fit P ext) {f : FuncId} {fn : Func} {c : Code} (hfn : P.funcs[f]? = some fn) (hb : fn.body = some c) {A : Array Value} {pre : List AObj} {v : Value} {post : List (Option AObj)} (hA : Nat.ble A.size fn.ntmps = true) {fu : Nat} {orc : Orc} {cd cm : Nat} {st : StopC}
  (hev : Zdt P ext fn fn.ntmps cd fu cm c [] (ZcF 0 A.toList .nil) ⟨Zd8 0 pre, pre.length, [], orc, []⟩ = some st) (ho : ∀ p ∈ st.s.ob, p.1 = p.2) (hn : st.s.n ≤ far)
  (hto : ∀ ι0 w0, (∀ k, ι0 k ≠ none → k < pre.length ∨ ZW k) → ∀ ι' a' w', Step P ι0 (lk pre) w0 ι' st.s.h.get w' → Dom ι0 ι' pre.length st.s.n → Zlb P fn (Fin P ι0 pre w0 v post) (fun _ _ _ => False) fn.ntmps ι' a' w' st) : LSpec P f A pre v post := by
 intro ι w args' hd ha he
 refine calls_of_wp hfn hb ?_
 have := (Zoi F (R := Fin P ι pre w v post) (Nx := fun _ _ _ => False) fu).1 cm c [] _ _ st hev ho ι _ w (ZfH ha (Nat.le_of_ble_eq_true hA)) (by show Emb P ι (Zd8 0 pre).get w; rw [ZeE]; exact he)
  ⟨hn, fun k h1 h2 => by
   cases hk : ι k with
   | none => rfl
   | some b => exact absurd (hd k (by rw [hk]; simp)) (by have h3 : pre.length ≤ k := h1; have h4 : st.s.n ≤ 1000000000 := hn; have h5 : k < st.s.n := h2; unfold ZW; omega)⟩
  (fun ι' a' w' g1 g2 => hto ι w hd ι' a' w' (by have := g1; simp only [ZeE] at this; exact this) g2)
 exact this
end
def Zt : List ZaI → List Nat
  | [] => []
  | .rnd i :: K => i :: Zt K
  | .seq _ :: K => Zt K
  | .blk _ :: K => Zt K
  | .scp :: K => Zt K
def Za4 {X R : Type} (step : X → Option (X ⊕ R)) : Nat → X → Option R
  | 0, _ => none
  | n + 1, x => match step x with
    | none => none
    | some (.inl y) => Za4 step n y
    | some (.inr r) => some r
def goM {X R : Type} (step : X → Option (X ⊕ R)) (n : Nat) (o : Option (X ⊕ R)) : Option R :=
  match o with
  | none => none
  | some (.inl y) => Za4 step n y
  | some (.inr r) => some r
theorem ZG (n : Nat) (h : Nat.ble n 1000000000 = true) : n ≤ far := Nat.le_of_ble_eq_true h
theorem Zoj {P : Program} {c : Code} {Q : Exit → Act → World → Prop} : ∀ (n m : Nat), n ≤ m → ∀ a w, Code.rounds P c Q n a w → Code.rounds P c Q m a w
  | 0, _, _, _, _, h => h.elim
  | n + 1, 0, hm, _, _, _ => by omega
  | n + 1, m + 1, hm, a, w, h => by
    rw [rounds_succ] at h ⊢
    refine wp_mono h ?_
    intro e a' w' h'
    cases e with
    | normal => exact Zoj n m (by omega) a' w' h'
    | exit i => exact h'
    | goto l => exact h'
    | ret => exact h'
    | panic ch => exact h'
    | outgrown => exact h'
theorem Zfp {P : Program} {fn : Func} {R : Ending → World → Prop} {Nx Nx' : Nat → Act → World → Prop} : ∀ {K : List ZaI}, (∀ j ∈ Zt K, Nx' j = Nx j) → post P fn R Nx' K = post P fn R Nx K
  | [], _ => rfl
  | .seq b :: K, h => by simp only [post]; rw [Zfp (K := K) h]
  | .blk id :: K, h => by simp only [post]; rw [Zfp (K := K) h]
  | .scp :: K, h => by simp only [post]; rw [Zfp (K := K) h]
  | .rnd j :: K, h => by
    simp only [post]
    rw [Zfp (K := K) fun j hj => h j (List.mem_cons_of_mem _ hj), h j (List.mem_cons_self ..)]
noncomputable def ZbK : Nat → List (Option AObj) → Tr AObj
  | _, [] => .nil
  | i, none :: l => ZbK (i + 1) l
  | i, some o :: l => (ZbK (i + 1) l).set i (some o)
theorem Zld : ∀ (l : List (Option AObj)) (i k : Nat), (ZbK i l).get k = if i ≤ k then (l[k - i]?).join else none
  | [], i, k => by
    show (Tr.nil : Tr AObj).get k = _
    rw [Tr.get_nil]
    split <;> simp
  | none :: l, i, k => by
    show (ZbK (i + 1) l).get k = _
    rw [Zld l (i + 1) k]
    by_cases h : i + 1 ≤ k
    · rw [if_pos h, if_pos (by omega)]
      have : k - i = (k - (i + 1)) + 1 := by omega
      rw [this, List.getElem?_cons_succ]
    · rw [if_neg h]
      by_cases hk : i ≤ k
      · rw [if_pos hk, show k - i = 0 by omega]; rfl
      · rw [if_neg hk]
  | some o :: l, i, k => by
    show ((ZbK (i + 1) l).set i (some o)).get k = _
    rw [Tr.get_set]
    by_cases hk : k = i
    · subst hk; rw [Zk, if_pos (Nat.le_refl _)]; simp
    · rw [Ze hk, Zld l (i + 1) k]
      by_cases h : i + 1 ≤ k
      · rw [if_pos h, if_pos (by omega)]
        have : k - i = (k - (i + 1)) + 1 := by omega
        rw [this, List.getElem?_cons_succ]
      · rw [if_neg h, if_neg (by omega)]
theorem ZhQ (l : List (Option AObj)) : (ZbK 0 l).get = lkO l := funext fun k => by rw [Zld]; simp [lkO]
theorem ZfA {nt m : Nat} {lt : List (Nat × Value)} {H : List (Option AObj)} {T : Tr Value} {s : St} {live : List Nat} (hl : live.length = m) (hn : live.Nodup) (ht : Zci (rho live far) ((lt.map (·.1)).map T.get) lt) (hb : Z6 (rho live far) (live.map s.h.get) H) : Zn3 nt m (fun t => ZQ t lt) (ZbK 0 H) T s live := by
  refine ⟨hl, hn, fun t v _ h => ZpA ht t v h, fun j o ho => ?_⟩
  rw [ZhQ] at ho
  exact ZdS hb j o ho
/-! ### A slice of no room may stand for a nil one -/
def WkV (x y : Value) : Prop := x = y ∨ (x = .slice none 0 0 ∧ ∃ A : Addr, y = .slice (some A) 0 0)
def WkC : List Value → List Value → Prop
  | [], [] => True
  | x :: l, y :: m => WkV x y ∧ WkC l m
  | _, _ => False
def WkO (a b : Option AObj) : Prop := a = b ∨ (∃ c c' t q, a = some (.cells c t q) ∧ b = some (.cells c' t q) ∧ WkC c c') ∨ ∃ c c' t, a = some (.cells c t) ∧ b = some (.cells c' t true) ∧ WkC c c'
def WkL : List (Option AObj) → List (Option AObj) → Prop
  | [], [] => True
  | a :: l, b :: m => WkO a b ∧ WkL l m
  | _, _ => False
theorem WkL.refl : ∀ l, WkL l l
  | [] => trivial
  | _ :: l => ⟨.inl rfl, WkL.refl l⟩
theorem WkL.len : ∀ {l m}, WkL l m → l.length = m.length
  | [], [], _ => rfl
  | _ :: l, _ :: m, h => congrArg (· + 1) h.2.len
  | [], _ :: _, h => h.elim
  | _ :: _, [], h => h.elim
theorem WkL.at_ : ∀ {l m}, WkL l m → ∀ k, WkO (lkO l k) (lkO m k)
  | [], [], _, k => .inl rfl
  | a :: l, b :: m, h, 0 => by simpa [lkO] using h.1
  | a :: l, b :: m, h, k + 1 => by
    have := h.2.at_ k
    simpa [lkO] using this
  | [], _ :: _, h, _ => h.elim
  | _ :: _, [], h, _ => h.elim
theorem WkV.vr {ι : Ren} {x y r : Value} (h : WkV x y) (hv : VR ι x r) : VR ι y r := by
  rcases h with rfl | ⟨rfl, A, rfl⟩
  · exact hv
  · cases hv with
    | atom h => exact .slice0 fun _ => rfl
theorem WkC.cells : ∀ {c c' : List Value}, WkC c c' → c.length = c'.length ∧ ∀ (i : Nat) y, c'[i]? = some y → ∃ x, c[i]? = some x ∧ WkV x y
  | [], [], _ => ⟨rfl, fun i y h => by simp at h⟩
  | x :: l, y :: m, h => by
    obtain ⟨h1, h2⟩ := h.2.cells
    refine ⟨congrArg (· + 1) h1, fun i z hz => ?_⟩
    cases i with
    | zero => exact ⟨x, rfl, by have : y = z := by simpa using hz
                                exact this ▸ h.1⟩
    | succ i =>
      obtain ⟨x', q1, q2⟩ := h2 i z (by simpa using hz)
      exact ⟨x', by simpa using q1, q2⟩
  | [], _ :: _, h => h.elim
  | _ :: _, [], h => h.elim
theorem WkC.nil {c c' : List Value} (h : WkC c c') : c'.isEmpty = c.isEmpty := by
  cases c <;> cases c' <;> first | rfl | exact h.elim
theorem WkO.kind {a b : Option AObj} (h : WkO a b) : (∀ d, ZP b d = true → ZP a d = true) ∧ ∀ d, ZY b d = true → ZY a d = true := by
  rcases h with rfl | ⟨c, c', t, q, rfl, rfl, hw⟩ | ⟨c, c', t, rfl, rfl, hw⟩
  · exact ⟨fun _ h => h, fun _ h => h⟩
  · have e1 : isC (some (.cells c' t q)) = isC (some (.cells c t q)) := by
      cases q with
      | false => rfl
      | true => show (!c'.isEmpty) = (!c.isEmpty); rw [hw.nil]
    have e2 : sol (some (.cells c' t q)) = sol (some (.cells c t q)) := e1
    exact ⟨fun d h => by unfold ZP at h ⊢; rw [e1] at h; exact h, fun d h => by unfold ZY at h ⊢; rw [e2] at h; exact h⟩
  · exact ⟨fun _ _ => rfl, fun _ _ => rfl⟩
theorem Emb.weaken {P : Program} {ι : Ren} {h h' : AH} {w : World} (e : Emb P ι h w) (hw : ∀ k, WkO (h k) (h' k)) : Emb P ι h' w where
  obj := fun k c t q hk => by
    rcases hw k with z | ⟨c1, c2, t1, q1, z1, z2, z3⟩ | ⟨c1, c2, t1, z1, z2, z3⟩
    · exact e.obj k c t q (z.trans hk)
    · rw [z2] at hk
      injection hk with hk
      injection hk with hc ht hq
      subst hc ht hq
      obtain ⟨b, hb, ⟨y1, y2, y3⟩ | ⟨y1, C, r2, r3, r4⟩⟩ := e.obj k c1 t1 q1 z1
      · subst y2
        refine ⟨b, hb, .inl ⟨y1, ?_, y3⟩⟩
        cases c2 with
        | nil => rfl
        | cons x l => exact z3.elim
      · obtain ⟨l1, l2⟩ := z3.cells
        refine ⟨b, hb, .inr ⟨?_, C, r2, ⟨l1 ▸ r3.1, fun i x y hx hy => ?_⟩, r4⟩⟩
        · have e1 : isC (some (.cells c2 t1 q1)) = isC (some (.cells c1 t1 q1)) := by
            cases q1 with
            | false => rfl
            | true => show (!c2.isEmpty) = (!c1.isEmpty); rw [z3.nil]
          unfold ZP at y1 ⊢
          rw [e1]; exact y1
        · obtain ⟨x', w1, w2⟩ := l2 i x hx
          exact w2.vr (r3.2 i x' y w1 hy)
    · rw [z2] at hk
      injection hk with hk
      injection hk with hc ht hq
      subst hc ht hq
      obtain ⟨b, C, hb, r2, r3, r4⟩ := e.objF k c1 t1 z1
      obtain ⟨l1, l2⟩ := z3.cells
      by_cases hz : c2 = [] ∧ b.2 = 0
      · exact ⟨b, hb, .inl ⟨rfl, hz.1, hz.2⟩⟩
      refine ⟨b, hb, .inr ⟨?_, C, r2, ⟨l1 ▸ r3.1, fun i x y hx hy => ?_⟩, r4⟩⟩
      · cases c2 with
        | nil =>
          have hb2 : b.2 ≠ 0 := fun h => hz ⟨rfl, h⟩
          show (false || (true && !Nat.beq b.2 0)) = true
          cases hq : Nat.beq b.2 0 with
          | true => exact absurd (Nat.eq_of_beq_eq_true hq) hb2
          | false => rfl
        | cons x l => rfl
      · obtain ⟨x', w1, w2⟩ := l2 i x hx
        exact w2.vr (r3.2 i x' y w1 hy)
  ro := fun {m} k O hk => by
    rcases hw k with q | ⟨c1, c2, t1, q1, z1, z2, z3⟩ | ⟨c1, c2, t1, z1, z2, z3⟩
    · exact e.ro k O (q.trans hk)
    · rw [z2] at hk; injection hk with hk; cases hk
    · rw [z2] at hk; injection hk with hk; cases hk
  inj := fun k k' b b' h1 h2 h3 h4 h5 => e.inj k k' b b' ((hw k).kind.1 _ h1) ((hw k').kind.2 _ h2) h3 h4 h5
  lt := e.lt
  mks := fun b base id q hq => by
    obtain ⟨m1, m2, m3⟩ := e.mks b base id q hq
    exact ⟨m1, m2, fun k d hk hd => m3 k d ((hw k).kind.1 _ hk) hd⟩
  tb := e.tb
theorem Step.weaken {P : Program} {ι ι' : Ren} {h h1 h2 : AH} {w w' : World} (s : Step P ι h w ι' h1 w') (hw : ∀ k, WkO (h1 k) (h2 k)) : Step P ι h w ι' h2 w' where
  ext := s.ext
  emb := s.emb.weaken hw
  os := s.os
  tape := s.tape
  output := s.output
  size := s.size
  frame := s.frame
  new := fun k b h1 h2 h3 => s.new k b h1 h2 (h3.imp (fun h => (hw k).kind.2 b h) id)
  alive := fun k b hk hi => s.alive k b ((hw k).kind.2 b hk) hi
  kind := fun k b hk hi => s.kind k b ((hw k).kind.1 b hk) hi
theorem Step.ph {P : Program} {ι0 ι : Ren} {h0 h : AH} {w0 w : World} (S : Step P ι0 h0 w0 ι h w) {j i : Nat} (t : TypeId) (hjf : j < 1000000000) (hj : ι j = none) (hh : h j = none) (hi : isC (h i) = true) : ∃ b, Step P ι0 h0 w0 (upd ι j (some b)) (upd h j (some (.cells [] t true))) w := by
  obtain ⟨bi, hbi⟩ := S.emb.live (ZsY hi)
  have hx : ∀ k b, ι k = some b → upd ι j (some (bi.1, 0)) k = some b := fun k b hk => by
    rw [Ze]; · exact hk
    · intro e; subst e; rw [hj] at hk; cases hk
  have ne : ∀ k o, upd h j (some (AObj.cells [] t true)) k = some o → k ≠ j → h k = some o := fun k o hk hkj => by rwa [Ze hkj] at hk
  have neC : ∀ k b, ZP (upd h j (some (AObj.cells [] t true)) k) b = true → upd ι j (some (bi.1, 0)) k = some b → k ≠ j ∧ ZP (h k) b = true := fun k b hk hb => by
    by_cases hkj : k = j
    · subst hkj; rw [Zk] at hk hb; injection hb with hb; subst hb; cases hk
    · exact ⟨hkj, by rwa [Ze hkj] at hk⟩
  have neS : ∀ k b, ZY (upd h j (some (AObj.cells [] t true)) k) b = true → upd ι j (some (bi.1, 0)) k = some b → k ≠ j ∧ ZY (h k) b = true := fun k b hk hb => by
    by_cases hkj : k = j
    · subst hkj; rw [Zk] at hk hb; injection hb with hb; subst hb; cases hk
    · exact ⟨hkj, by rwa [Ze hkj] at hk⟩
  refine ⟨(bi.1, 0), fun k b hk => hx k b (S.ext k b hk), ⟨fun k c t' q hk => ?_, fun k O hk => ?_, fun k k' b b' h1 h2 h3 h4 h5 => ?_, fun k b hk => ?_, fun b base id q hq => ?_, fun x hx' => (S.emb.tb x hx').imp fun q hq => hx _ _ hq⟩, S.os, S.tape, S.output, S.size, S.frame, fun k b h1 h2 h3 => ?_, fun k b h1 h2 => S.alive k b (neS k b h1 (hx k b (S.ext k b h2))).2 h2, fun k b h1 h2 => S.kind k b (neC k b h1 (hx k b (S.ext k b h2))).2 h2⟩
  · by_cases hkj : k = j
    · subst hkj
      rw [Zk] at hk
      injection hk with hk
      injection hk with q1 q2 q3
      subst q1 q2 q3
      exact ⟨_, Zk, .inl ⟨rfl, rfl, rfl⟩⟩
    · obtain ⟨b, hb, hz⟩ := S.emb.obj k c t' q (ne k _ hk hkj)
      exact ⟨b, hx k b hb, hz.imp id fun ⟨z1, C, z2, z3, z4⟩ => ⟨z1, C, z2, z3.ext hx, z4⟩⟩
  · by_cases hkj : k = j
    · subst hkj; rw [Zk] at hk; injection hk with hk; cases hk
    · obtain ⟨b, hb, hB⟩ := S.emb.ro k O (ne k _ hk hkj)
      exact ⟨b, hx k b hb, hB⟩
  · obtain ⟨g1, g2⟩ := neC k b h1 h3
    obtain ⟨g3, g4⟩ := neS k' b' h2 h4
    rw [Ze g1] at h3
    rw [Ze g3] at h4
    exact S.emb.inj k k' b b' g2 g4 h3 h4 h5
  · by_cases hkj : k = j
    · subst hkj; rw [Zk] at hk; injection hk with hk; subst hk; exact S.emb.lt i bi hbi
    · rw [Ze hkj] at hk; exact S.emb.lt k b hk
  · obtain ⟨m1, m2, m3⟩ := S.emb.mks b base id q (Zf7 hjf _ _ _ _ hq)
    refine ⟨m1, ⟨m2.1.ext hx rfl, fun o c hc => hx _ _ (m2.2 o c hc)⟩, fun k d hk hd => ?_⟩
    obtain ⟨g1, g2⟩ := neC k d hk hd
    rw [Ze g1] at hd
    exact m3 k d g2 hd
  · by_cases hkj : k = j
    · subst hkj
      rw [Zk] at h2
      injection h2 with h2
      subst h2
      cases hi0 : ι0 i with
      | none => exact S.new i bi hi0 hbi (.inl (Zjr (Znu hi)))
      | some c =>
        have := S.ext i c hi0
        rw [hbi] at this
        injection this with this
        subst this
        exact .inr ⟨i, _, S.kind i _ (Zep hi) hi0, hi0, rfl⟩
    · rw [Ze hkj] at h2
      exact S.new k b h1 h2 (h3.imp (fun h => by rwa [Ze hkj] at h) id)
def Znc : List (Nat × TypeId) → List (Option AObj) → List (Option AObj)
  | [], H => H
  | x :: js, H => Znc js (H.set x.1 (some (.cells [] x.2 true)))
def phOK (live : List Nat) (H : List (Option AObj)) (js : List (Nat × TypeId)) : Bool :=
  Zp (fun x => (match live[x.1]? with | some k => Nat.ble 500000000 k | none => false) && (match H[x.1]? with | some none => true | _ => false)) js && decide (js.map (·.1)).Nodup
theorem Zok : ∀ (js : List (Nat × TypeId)) (H : List (Option AObj)), (Znc js H).length = H.length
  | [], _ => rfl
  | x :: js, H => by show (Znc js _).length = _; rw [Zok js]; simp
theorem ZqZ {H : List (Option AObj)} {j : Nat} {o : Option AObj} (hj : j < H.length) : lkO (H.set j o) = upd (lkO H) j o := funext fun k => by
  unfold lkO
  by_cases hk : k = j
  · subst hk; rw [Zk]; simp [hj]
  · rw [Ze hk, List.getElem?_set_ne (fun e => hk e.symm)]
theorem ZpI {P : Program} {ι0 : Ren} {h0 : AH} {w0 w : World} {i : Nat} : ∀ (js : List (Nat × TypeId)) (H : List (Option AObj)) (ι : Ren), H.length ≤ far → (∀ x ∈ js, H[x.1]? = some none ∧ ι x.1 = none) → (js.map (·.1)).Nodup → (js = [] ∨ isC (lkO H i) = true) → Step P ι0 h0 w0 ι (lkO H) w →
    ∃ ι', (∀ k b, ι k = some b → ι' k = some b) ∧ Step P ι0 h0 w0 ι' (lkO (Znc js H)) w ∧ ∀ k, H.length ≤ k → ι k = none → ι' k = none
  | [], H, ι, _, _, _, _, S => ⟨ι, fun _ _ h => h, S, fun _ _ h => h⟩
  | x :: js, H, ι, hl, hx, hn, hi, S => by
    obtain ⟨h1, h2⟩ := hx x (List.mem_cons_self ..)
    have hlt : x.1 < H.length := (List.getElem?_eq_some_iff.1 h1).1
    have hC : isC (lkO H i) = true := by rcases hi with h | h; cases h; exact h
    have hn1 : lkO H x.1 = none := by unfold lkO; rw [h1]; rfl
    obtain ⟨b, S1⟩ := S.ph x.2 (Nat.lt_of_lt_of_le hlt hl) h2 hn1 hC
    rw [← ZqZ hlt] at S1
    have hnd := List.nodup_cons.1 hn
    have hix : i ≠ x.1 := fun e => by subst e; rw [hn1] at hC; cases hC
    obtain ⟨ι', q1, q2, q3⟩ := ZpI (i := i) js (H.set x.1 (some (.cells [] x.2 true))) _ (by simpa using hl) (fun y hy => by
      have hne : y.1 ≠ x.1 := fun e => hnd.1 (List.mem_map.2 ⟨y, hy, e⟩)
      obtain ⟨g1, g2⟩ := hx y (List.mem_cons_of_mem _ hy)
      exact ⟨by rw [List.getElem?_set_ne (fun e => hne e.symm)]; exact g1, by rw [Ze hne]; exact g2⟩) hnd.2 (.inr (by rw [ZqZ hlt, Ze hix]; exact hC)) S1
    refine ⟨ι', fun k c hk => q1 k c (by rw [Ze (fun e => by subst e; rw [h2] at hk; cases hk)]; exact hk), q2, fun k hk hk2 => q3 k (by simpa using hk) (by rw [Ze (by omega)]; exact hk2)⟩
structure Mach where
  fn : Func
  pre : List AObj
  X : Type
  R : Type
  step : X → Option (X ⊕ R)
  hd : X → Nat
  code : Nat → Code × List ZaI
  isL : Nat → Bool
  L : X → List (Nat × Value)
  H : X → List (Option AObj)
  V : R → Value
  Po : R → List (Option AObj)
namespace Mach
def after (M : Mach) (n : Nat) : M.X ⊕ M.R → Option M.R
  | .inl y => Za4 M.step n y
  | .inr r => some r
def KK (M : Mach) (i : Nat) : List ZaI := match M.isL i with | true => .rnd i :: (M.code i).2 | false => (M.code i).2
def IntoM (M : Mach) (y : M.X) (T : Tr Value) (s : St) : Prop :=
  ∃ live H0 js, WkL (Znc js H0) (M.H y) ∧ phOK live H0 js = true ∧ (js = [] ∨ ∃ i, isC (lkO H0 i) = true) ∧ ZaX M.pre.length live = true ∧ Zn3 M.fn.ntmps H0.length (fun t => ZQ t (M.L y)) (ZbK 0 H0) T s live
def To (M : Mach) (K0 : List ZaI) : StopC → M.X ⊕ M.R → Prop
  | .fin u s, .inr r => ∃ live, ZoG M.pre.length (M.V r) (M.Po r) u s live
  | .next j T s, .inl y => j = M.hd y ∧ M.isL j = true ∧ j ∈ Zt K0 ∧ M.IntoM y T s
  | .head b K T s, .inl y => M.isL (M.hd y) = true ∧ (b, K) = M.code (M.hd y) ∧ (∀ j ∈ Zt K, j ∈ Zt K0) ∧ M.IntoM y T s
  | .cut b K T s, .inl y => M.isL (M.hd y) = false ∧ (b, K) = M.code (M.hd y) ∧ (∀ j ∈ Zt K, j ∈ Zt K0) ∧ M.IntoM y T s
  | .thr u _, .inr r => M.V r = u ∧ Zb0 u = true ∧ M.Po r = M.pre.map fun _ => none
  | _, _ => False
noncomputable def Start (M : Mach) (x : M.X) (gv : Nat → Value) (P : Program) (ext : FuncId → Option Ext) (cd cm fu : Nat) (orc : Orc) : Option StopC :=
  Zdt P ext M.fn M.fn.ntmps cd fu cm (M.code (M.hd x)).1 (M.KK (M.hd x)) (tmps M.fn.ntmps (fun t => ZQ t (M.L x)) gv) ⟨ZbK 0 (M.H x), (M.H x).length, [], orc, []⟩
noncomputable def Ok (M : Mach) (P : Program) (ext : FuncId → Option Ext) (x : M.X) (o : Option (M.X ⊕ M.R)) : Prop :=
  ∀ y, o = some y → ∀ gv, ∃ cd cm fu orc st, M.Start x gv P ext cd cm fu orc = some st ∧ (∀ p ∈ st.s.ob, p.1 = p.2) ∧ st.s.n ≤ 500000000 ∧ M.To (M.KK (M.hd x)) st y
def AtM (M : Mach) (P : Program) (ι0 : Ren) (w0 : World) (y : M.X) (gv : Nat → Value) (a : Act) (w : World) : Prop :=
  At P M.fn.ntmps (tmps M.fn.ntmps (fun t => ZQ t (M.L y)) gv) (ZbK 0 (M.H y)).get (M.H y).length far ι0 (lk M.pre) w0 a w
section
variable {P : Program} {ext : FuncId → Option Ext}
def Good (M : Mach) (P : Program) (r : M.R) (ι0 : Ren) (w0 : World) (n : Nat) (x : M.X) (Nx : Nat → Act → World → Prop) (a : Act) (w : World) : Prop :=
  match M.isL (M.hd x) with
  | true => Code.rounds P (M.code (M.hd x)).1 (post P M.fn (Fin P ι0 M.pre w0 (M.V r) (M.Po r)) Nx (M.code (M.hd x)).2) n a w
  | false => (M.code (M.hd x)).1.wp P (post P M.fn (Fin P ι0 M.pre w0 (M.V r) (M.Po r)) Nx (M.code (M.hd x)).2) a w
def Outer (M : Mach) (P : Program) (r : M.R) (ι0 : Ren) (w0 : World) (n : Nat) (js : List Nat) (Nx : Nat → Act → World → Prop) : Prop :=
  ∀ m z, m < n → Za4 M.step m z = some r → M.isL (M.hd z) = true → M.hd z ∈ js → ∀ gv a w, M.AtM P ι0 w0 z gv a w → Nx (M.hd z) a w
theorem Zq4 {n : Nat} (h : n ≤ far) : ZaX n (List.range n) = true := by
  unfold ZaX
  rw [Bool.and_eq_true]
  constructor
  · rw [List.take_of_length_le (by simp)]; exact beq_self_eq_true _
  · have : ∀ l : List Nat, (∀ k ∈ l, k < 1000000000) → Zp (fun k => Nat.blt k 1000000000) l = true := by
      intro l
      induction l with
      | nil => intro _; rfl
      | cons x l ih =>
        intro hl
        show (Nat.blt x 1000000000 && Zp _ l) = true
        rw [ih fun k hk => hl k (List.mem_cons_of_mem _ hk), Bool.and_true, Nat.blt_eq]
        exact hl x (List.mem_cons_self ..)
    exact this _ fun k hk => Nat.lt_of_lt_of_le (List.mem_range.1 hk) h
theorem into_atM (M : Mach) (hH : ∀ x, (M.H x).length ≤ far) {y : M.X} {T : Tr Value} {s : St} (h : M.IntoM y T s) {ι0 ι : Ren} {w0 w : World} {a : Act} (hd : ∀ k, ι0 k ≠ none → k < M.pre.length ∨ ZW k) (hT : TR ι M.fn.ntmps [] T a) (hS : Step P ι0 (lk M.pre) w0 ι s.h.get w) (hF : ∀ k, 500000000 ≤ k → k < far → ι k = none) : ∃ gv, M.AtM P ι0 w0 y gv a w := by
  obtain ⟨live, H0, js, hwk, hph, hi, hk, h1, h2, h3, h4⟩ := h
  have hlen : H0.length = (M.H y).length := by rw [← hwk.len, Zok]
  obtain ⟨gv, ι', a1, a2, a3, _, a5⟩ := ZjQ hT hS live H0.length far rfl (ZhL hk) h1 (hlen ▸ hH y) h2 (fun k hk2 => (hd k hk2).imp (Zhq hk) id) (fun t => ZQ t (M.L y)) h3 (ZbK 0 H0).get h4
  rw [ZhQ] at a2
  unfold phOK at hph
  rw [Bool.and_eq_true] at hph
  obtain ⟨i, hi'⟩ : ∃ i, js = [] ∨ isC (lkO H0 i) = true := by
    rcases hi with h | ⟨i, h⟩
    · exact ⟨0, .inl h⟩
    · exact ⟨i, .inr h⟩
  obtain ⟨ι2, b1, b2, b3⟩ := ZpI (i := i) js H0 ι' (hlen ▸ hH y) (fun x hx => by
    have hq := ZJ hph.1 x hx
    rw [Bool.and_eq_true] at hq
    obtain ⟨g1, g2⟩ := hq
    constructor
    · split at g2
      · assumption
      · cases g2
    · split at g1
      · rename_i k hlk
        rw [a5 x.1 k hlk]
        exact hF k (Nat.le_of_ble_eq_true g1) (ZhL hk k (List.mem_of_getElem? hlk))
      · cases g1) (of_decide_eq_true hph.2) hi' a2
  refine ⟨gv, ι2, a1.on b1, ?_, fun k hk1 hk2 => b3 k (hlen ▸ hk1) (a3 k (hlen ▸ hk1) hk2)⟩
  rw [ZhQ]
  exact b2.weaken hwk.at_
theorem run1 (M : Mach) (hH : ∀ x, (M.H x).length ≤ far) (hPo : ∀ r, (M.Po r).length ≤ far) (r : M.R) {ι0 : Ren} {w0 : World} (hd0 : ∀ k, ι0 k ≠ none → k < M.pre.length ∨ ZW k) (n : Nat)
    (ih : ∀ m, m ≤ n → ∀ x, Za4 M.step m x = some r → ∀ Nx, M.Outer P r ι0 w0 m (Zt (M.code (M.hd x)).2) Nx → ∀ gv a w, M.AtM P ι0 w0 x gv a w → M.Good P r ι0 w0 m x Nx a w)
    {K0 : List ZaI} {Nx : Nat → Act → World → Prop} (hNx : M.Outer P r ι0 w0 (n + 1) (Zt K0) Nx) {st : StopC} {y : M.X ⊕ M.R} (hto : M.To K0 st y) (hy : M.after n y = some r)
    {ι : Ren} {a : Act} {w : World} (hS : Step P ι0 (lk M.pre) w0 ι st.s.h.get w) (hF : ∀ k, 500000000 ≤ k → k < far → ι k = none) : Zlb P M.fn (Fin P ι0 M.pre w0 (M.V r) (M.Po r)) Nx M.fn.ntmps ι a w st := by
  have sub : ∀ {K : List ZaI}, (∀ j ∈ Zt K, j ∈ Zt K0) → M.Outer P r ι0 w0 n (Zt K) Nx := fun {K} hs m z hm hz hl hj gv a w hat => hNx m z (by omega) hz hl (hs _ hj) gv a w hat
  cases st with
  | fin u s =>
    cases y with
    | inl y => exact hto.elim
    | inr r' =>
      obtain ⟨live, hto⟩ := hto
      obtain rfl : r' = r := Option.some.inj hy
      exact fun v' hv => ZkZ (hPo r') hd0 hto hS hv
  | next j T s =>
    cases y with
    | inr r' => exact hto.elim
    | inl y =>
      obtain ⟨rfl, hl, hj, hin⟩ := hto
      intro hT
      obtain ⟨gv, hat⟩ := M.into_atM hH hin hd0 hT hS hF
      exact hNx n y (by omega) hy hl hj gv a w hat
  | head b K T s =>
    cases y with
    | inr r' => exact hto.elim
    | inl y =>
      obtain ⟨hl, hc, hsub, hin⟩ := hto
      intro hT
      obtain ⟨gv, hat⟩ := M.into_atM hH hin hd0 hT hS hF
      have e1 : b = (M.code (M.hd y)).1 := congrArg Prod.fst hc
      have e2 : K = (M.code (M.hd y)).2 := congrArg Prod.snd hc
      subst e1 e2
      have := ih n (Nat.le_refl _) y hy Nx (sub hsub) gv a w hat
      unfold Good at this
      rw [hl] at this
      exact wp_loop_rounds n this
  | thr u s =>
    cases y with
    | inl y => exact hto.elim
    | inr r' =>
      obtain ⟨hv, ht, hpo⟩ := hto
      obtain rfl : r' = r := Option.some.inj hy
      intro _
      have hl : (M.Po r').length = M.pre.length := by rw [hpo, List.length_map]
      have hfar : M.pre.length ≤ far := hl ▸ hPo r'
      have hf := ZkZ (v := .bool true) (u := .bool true) (v' := .bool true) (post := M.Po r') (s := s) (live := List.range M.pre.length) (hPo r') hd0 ⟨by rw [hl, List.length_range], List.nodup_range, Zq4 hfar, ⟨rfl, rfl⟩, fun j o hj => by
        rw [hpo] at hj
        exfalso
        unfold lkO at hj
        rw [List.getElem?_map] at hj
        cases hx : M.pre[j]? <;> rw [hx] at hj <;> cases hj⟩ hS (.atom rfl)
      rcases hf with ⟨v', ι', _, g2, g3, _⟩ | ⟨hz, _⟩
      · rw [← hv] at ht ⊢
        exact .inr ⟨ht, ι', rfl, g2, g3⟩
      · cases hz
  | cut b K T s =>
    cases y with
    | inr r' => exact hto.elim
    | inl y =>
      obtain ⟨hl, hc, hsub, hin⟩ := hto
      intro hT
      obtain ⟨gv, hat⟩ := M.into_atM hH hin hd0 hT hS hF
      have e1 : b = (M.code (M.hd y)).1 := congrArg Prod.fst hc
      have e2 : K = (M.code (M.hd y)).2 := congrArg Prod.snd hc
      subst e1 e2
      have := ih n (Nat.le_refl _) y hy Nx (sub hsub) gv a w hat
      unfold Good at this
      rw [hl] at this
      exact this
theorem rounds (F : Fit P ext) (M : Mach) (hH : ∀ x, (M.H x).length ≤ far) (hPo : ∀ r, (M.Po r).length ≤ far) (hK : ∀ x, M.isL (M.hd x) = true → M.hd x ∉ Zt (M.code (M.hd x)).2) (ok : ∀ x, M.Ok P ext x (M.step x)) (r : M.R) {ι0 : Ren} {w0 : World} (hd0 : ∀ k, ι0 k ≠ none → k < M.pre.length ∨ ZW k) :
    ∀ (n : Nat) (x : M.X), Za4 M.step n x = some r → ∀ Nx, M.Outer P r ι0 w0 n (Zt (M.code (M.hd x)).2) Nx → ∀ gv a w, M.AtM P ι0 w0 x gv a w → M.Good P r ι0 w0 n x Nx a w := by
  intro n
  induction n using Nat.strongRecOn with
  | ind n ih =>
    intro x hx Nx hNx gv a w hat
    cases n with
    | zero => cases hx
    | succ n =>
      have hat0 := hat
      obtain ⟨ι, hT, hS, hfr⟩ := hat
      cases hy : M.step x with
      | none => simp only [Za4, hy] at hx; cases hx
      | some y =>
        obtain ⟨cd, cm, fu, orc, st, hev, ho, hn, hto⟩ := ok x y hy gv
        have hyr : M.after n y = some r := by
          cases y <;> (simp only [Za4, hy] at hx; exact hx)
        have hn' : st.s.n ≤ far := Nat.le_trans hn (by decide)
        have fresh : Fresh ι (M.H x).length st.s.n := ⟨hn', fun k h1 h2 => hfr k h1 (Nat.lt_of_lt_of_le h2 hn')⟩
        have ih' : ∀ m, m ≤ n → ∀ x, Za4 M.step m x = some r → ∀ Nx, M.Outer P r ι0 w0 m (Zt (M.code (M.hd x)).2) Nx → ∀ gv a w, M.AtM P ι0 w0 x gv a w → M.Good P r ι0 w0 m x Nx a w := fun m hm => ih m (by omega)
        have go : ∀ Nx', M.Outer P r ι0 w0 (n + 1) (Zt (M.KK (M.hd x))) Nx' → (M.code (M.hd x)).1.wp P (post P M.fn (Fin P ι0 M.pre w0 (M.V r) (M.Po r)) Nx' (M.KK (M.hd x))) a w := fun Nx' hNx' =>
          (Zoi F (R := Fin P ι0 M.pre w0 (M.V r) (M.Po r)) (Nx := Nx') fu).1 cm _ _ _ _ st hev ho ι a w hT hS.emb fresh fun ι' a' w' g1 g2 => run1 M hH hPo r hd0 n ih' hNx' hto hyr (hS.trans g1) (fun k h1 h2 => by
            cases hik : ι' k with
            | none => rfl
            | some c =>
              rcases g2 k (by rw [hik]; simp) with h | ⟨_, h⟩ | h
              · exact absurd (hfr k (by have : (M.H x).length ≤ st.s.n := ((ZpH F (fn := M.fn) (nt := M.fn.ntmps) (cd := cd) fu).1 _ _ _ _ _ _ hev).n; omega) h2) h
              · omega
              · omega)
        unfold Good
        cases hl : M.isL (M.hd x) with
        | false =>
          have e : M.KK (M.hd x) = (M.code (M.hd x)).2 := by unfold KK; rw [hl]
          rw [e] at go
          exact go Nx hNx
        | true =>
          have e : M.KK (M.hd x) = .rnd (M.hd x) :: (M.code (M.hd x)).2 := by unfold KK; rw [hl]
          rw [e] at go
          show Code.rounds P _ _ (n + 1) a w
          rw [rounds_succ]
          let Nx' : Nat → Act → World → Prop := fun j => if j = M.hd x then Code.rounds P (M.code (M.hd x)).1 (post P M.fn (Fin P ι0 M.pre w0 (M.V r) (M.Po r)) Nx (M.code (M.hd x)).2) n else Nx j
          have n1 : Nx' (M.hd x) = Code.rounds P (M.code (M.hd x)).1 (post P M.fn (Fin P ι0 M.pre w0 (M.V r) (M.Po r)) Nx (M.code (M.hd x)).2) n := if_pos rfl
          have n2 : ∀ j, j ≠ M.hd x → Nx' j = Nx j := fun j hj => if_neg hj
          have hp : post P M.fn (Fin P ι0 M.pre w0 (M.V r) (M.Po r)) Nx' (M.code (M.hd x)).2 = post P M.fn (Fin P ι0 M.pre w0 (M.V r) (M.Po r)) Nx (M.code (M.hd x)).2 := Zfp fun j hj => n2 j fun e => by subst e; exact hK x hl hj
          have := go Nx' fun m z hm hz hlz hj gv a w hat => by
            by_cases hzx : M.hd z = M.hd x
            · rw [hzx, n1]
              have := ih m (by omega) z hz Nx (fun m' z' h1 h2 h3 h4 => hNx m' z' (by omega) h2 h3 (by rw [hzx] at h4; exact h4)) gv a w hat
              unfold Good at this
              rw [hlz] at this
              rw [hzx] at this
              exact Zoj m n (by omega) a w this
            · rw [n2 _ hzx]
              rcases List.mem_cons.1 hj with h | h
              · exact absurd h hzx
              · exact hNx m z (by omega) hz hlz h gv a w hat
          simp only [post, hp, n1] at this
          exact this
noncomputable def Enter (M : Mach) (P : Program) (ext : FuncId → Option Ext) (A : Array Value) (o : Option (M.X ⊕ M.R)) : Prop :=
  ∀ y, o = some y → ∃ cd cm fu orc st, Zdt P ext M.fn M.fn.ntmps cd fu cm (ZcG M.fn) [] (ZcF 0 A.toList .nil) ⟨Zd8 0 M.pre, M.pre.length, [], orc, []⟩ = some st ∧ (∀ p ∈ st.s.ob, p.1 = p.2) ∧ st.s.n ≤ 500000000 ∧ M.To [] st y
theorem spec (F : Fit P ext) (M : Mach) {f : FuncId} (hfn : P.funcs[f]? = some M.fn) (hb : M.fn.body = some (ZcG M.fn)) {A : Array Value} (hA : Nat.ble A.size M.fn.ntmps = true) (hH : ∀ x, (M.H x).length ≤ far) (hPo : ∀ r, (M.Po r).length ≤ far) (hK : ∀ x, M.isL (M.hd x) = true → M.hd x ∉ Zt (M.code (M.hd x)).2)
    (ok : ∀ x, M.Ok P ext x (M.step x)) {o : Option (M.X ⊕ M.R)} (en : M.Enter P ext A o) {n : Nat} {r : M.R} (h : goM M.step n o = some r) : LSpec P f A M.pre (M.V r) (M.Po r) := by
  cases o with
  | none => cases h
  | some y =>
    obtain ⟨cd, cm, fu, orc, st, hev, ho, hn, hto⟩ := en y rfl
    refine Zs6 F hfn hb hA hev ho (Nat.le_trans hn (by decide)) fun ι0 w0 hd ι' a' w' hS hD => ?_
    exact run1 M hH hPo r hd n (fun m _ => rounds F M hH hPo hK ok r hd m) (K0 := []) (fun m z _ _ _ hj => by cases hj) hto (by cases y <;> exact h) hS (fun k h1 h2 => by
      cases hik : ι' k with
      | none => rfl
      | some c =>
        rcases hD k (by rw [hik]; simp) with h | ⟨_, h⟩ | h
        · rcases hd k h with h | h
          · have : M.pre.length ≤ st.s.n := ((ZpH F (fn := M.fn) (nt := M.fn.ntmps) (cd := cd) fu).1 _ _ _ _ _ _ hev).n; omega
          · unfold ZW at h; unfold far at h2; omega
        · omega
        · omega)
end
/-! ### How leaves are written -/
section
variable {P : Program} {ext : FuncId → Option Ext} {M : Mach} {x : M.X} {cd cm fu : Nat} {orc : Orc} {live : List Nat} {bl : List (Option AObj)} {ob : List (Bool × Bool)}
theorem ok_none : M.Ok P ext x none := fun _ h => by cases h
theorem ok_ite {c : Prop} [Decidable c] {A B : Option (M.X ⊕ M.R)} (h1 : c → M.Ok P ext x A) (h2 : ¬ c → M.Ok P ext x B) : M.Ok P ext x (if c then A else B) := by
  by_cases h : c
  · rw [if_pos h]; exact h1 h
  · rw [if_neg h]; exact h2 h
theorem ok_bind {α : Type} {o : Option α} {k : α → Option (M.X ⊕ M.R)} (h : ∀ r, o = some r → M.Ok P ext x (k r)) : M.Ok P ext x (o.bind k) := by
  cases o with
  | none => exact ok_none
  | some r => exact h r rfl
theorem ok_fin {r : M.R} {u : Value} (hev : ∀ gv, Zh2 live (M.Start x gv P ext cd cm fu orc) = some (u, bl, ob)) (ho : ∀ p ∈ ob, p.1 = p.2) (hl : live.length = (M.Po r).length) (hn : live.Nodup) (hk : ZaX M.pre.length live = true) (hv : M.V r = ZO (rho live far) 3 u ∧ ZK 3 u = true) (hbl : Z6 (rho live far) bl (M.Po r)) : M.Ok P ext x (some (.inr r)) := by
  intro y hy gv
  obtain rfl := Option.some.inj hy
  obtain ⟨s, h1, rfl, rfl, h4⟩ := Zlc (hev gv)
  exact ⟨cd, cm, fu, orc, _, h1, ho, h4, live, hl, hn, hk, hv, ZdS hbl⟩
theorem ok_next {y : M.X} {tv : (Nat → Value) → List (Option Value)} (hL : M.isL (M.hd y) = true) (hr : M.hd y ∈ Zt (M.KK (M.hd x))) (hev : ∀ gv, ZjW (M.hd y) live ((M.L y).map (·.1)) (M.Start x gv P ext cd cm fu orc) = some (tv gv, bl, ob)) (ho : ∀ p ∈ ob, p.1 = p.2) (hl : live.length = (M.H y).length) (hn : live.Nodup) (hk : ZaX M.pre.length live = true) (ht : ∀ gv, Zci (rho live far) (tv gv) (M.L y)) (hbl : Z6 (rho live far) bl (M.H y)) : M.Ok P ext x (some (.inl y)) := by
  intro y' hy gv
  obtain rfl := Option.some.inj hy
  obtain ⟨T, s, h1, h2, rfl, rfl, h4⟩ := Zo3 (hev gv)
  exact ⟨cd, cm, fu, orc, _, h1, ho, h4, rfl, hL, hr, live, M.H y, [], WkL.refl _, rfl, .inl rfl, hk, ZfA hl hn (h2 ▸ ht gv) hbl⟩
theorem Zur {y : M.X} {tv : (Nat → Value) → List (Option Value)} {bK : Code × List ZaI} (hL : M.isL (M.hd y) = true) (hr : bK = M.code (M.hd y)) (hsub : ∀ j ∈ Zt (M.code (M.hd y)).2, j ∈ Zt (M.KK (M.hd x))) (hev : ∀ gv, Zg8 live ((M.L y).map (·.1)) (M.Start x gv P ext cd cm fu orc) = some (bK, tv gv, bl, ob)) (ho : ∀ p ∈ ob, p.1 = p.2) (hl : live.length = (M.H y).length) (hn : live.Nodup) (hk : ZaX M.pre.length live = true) (ht : ∀ gv, Zci (rho live far) (tv gv) (M.L y)) (hbl : Z6 (rho live far) bl (M.H y)) : M.Ok P ext x (some (.inl y)) := by
  intro y' hy gv
  obtain rfl := Option.some.inj hy
  obtain ⟨T, s, h1, h2, rfl, rfl, h4⟩ := Zks (hev gv)
  exact ⟨cd, cm, fu, orc, _, h1, ho, h4, hL, hr, by rw [hr]; exact hsub, live, M.H y, [], WkL.refl _, rfl, .inl rfl, hk, ZfA hl hn (h2 ▸ ht gv) hbl⟩
variable {A : Array Value}
noncomputable def startE (M : Mach) (P : Program) (ext : FuncId → Option Ext) (A : Array Value) (cd cm fu : Nat) (orc : Orc) : Option StopC :=
  Zdt P ext M.fn M.fn.ntmps cd fu cm (ZcG M.fn) [] (ZcF 0 A.toList .nil) ⟨Zd8 0 M.pre, M.pre.length, [], orc, []⟩
theorem en_none : M.Enter P ext A none := fun _ h => by cases h
theorem en_ite {c : Prop} [Decidable c] {B C : Option (M.X ⊕ M.R)} (h1 : c → M.Enter P ext A B) (h2 : ¬ c → M.Enter P ext A C) : M.Enter P ext A (if c then B else C) := by
  by_cases h : c
  · rw [if_pos h]; exact h1 h
  · rw [if_neg h]; exact h2 h
theorem en_bind {α : Type} {o : Option α} {k : α → Option (M.X ⊕ M.R)} (h : ∀ r, o = some r → M.Enter P ext A (k r)) : M.Enter P ext A (o.bind k) := by
  cases o with
  | none => exact en_none
  | some r => exact h r rfl
theorem en_fin {r : M.R} {u : Value} (hev : Zh2 live (M.startE P ext A cd cm fu orc) = some (u, bl, ob)) (ho : ∀ p ∈ ob, p.1 = p.2) (hl : live.length = (M.Po r).length) (hn : live.Nodup) (hk : ZaX M.pre.length live = true) (hv : M.V r = ZO (rho live far) 3 u ∧ ZK 3 u = true) (hbl : Z6 (rho live far) bl (M.Po r)) : M.Enter P ext A (some (.inr r)) := by
  intro y hy
  obtain rfl := Option.some.inj hy
  obtain ⟨s, h1, rfl, rfl, h4⟩ := Zlc hev
  exact ⟨cd, cm, fu, orc, _, h1, ho, h4, live, hl, hn, hk, hv, ZdS hbl⟩
theorem en_head {y : M.X} {tv : List (Option Value)} {bK : Code × List ZaI} (hL : M.isL (M.hd y) = true) (hr : bK = M.code (M.hd y)) (hsub : Zt (M.code (M.hd y)).2 = []) (hev : Zg8 live ((M.L y).map (·.1)) (M.startE P ext A cd cm fu orc) = some (bK, tv, bl, ob)) (ho : ∀ p ∈ ob, p.1 = p.2) (hl : live.length = (M.H y).length) (hn : live.Nodup) (hk : ZaX M.pre.length live = true) (ht : Zci (rho live far) tv (M.L y)) (hbl : Z6 (rho live far) bl (M.H y)) : M.Enter P ext A (some (.inl y)) := by
  intro y' hy
  obtain rfl := Option.some.inj hy
  obtain ⟨T, s, h1, rfl, rfl, rfl, h4⟩ := Zks hev
  exact ⟨cd, cm, fu, orc, _, h1, ho, h4, hL, hr, (fun j hj => by rw [show bK.2 = (M.code (M.hd y)).2 from congrArg Prod.snd hr, hsub] at hj; cases hj), live, M.H y, [], WkL.refl _, rfl, .inl rfl, hk, ZfA hl hn ht hbl⟩
end
end Mach
/-! ### Functions without loops -/
section
variable {P : Program} {ext : FuncId → Option Ext} {fn : Func} {pre : List AObj} {A : Array Value} {R : Type} {V : R → Value} {Po : R → List (Option AObj)} {live : List Nat} {bl : List (Option AObj)} {ob : List (Bool × Bool)} {fu : Nat} {orc : Orc}
noncomputable def ZpJ (P : Program) (ext : FuncId → Option Ext) (fn : Func) (pre : List AObj) (A : Array Value) (fu : Nat) (orc : Orc) : Option Stop :=
  Zf8 P ext fn fn.ntmps fu (ZcG fn) [] (ZcF 0 A.toList .nil) ⟨Zd8 0 pre, pre.length, [], orc, []⟩
noncomputable def Fx (P : Program) (ext : FuncId → Option Ext) (fn : Func) (pre : List AObj) (A : Array Value) {R : Type} (V : R → Value) (Po : R → List (Option AObj)) (o : Option R) : Prop :=
  ∀ r, o = some r → ∃ fu orc u s, ZpJ P ext fn pre A fu orc = some (.fin u s) ∧ (∀ p ∈ s.ob, p.1 = p.2) ∧ s.n ≤ far ∧ ∃ live, ZoG pre.length (V r) (Po r) u s live
theorem Zj : Fx P ext fn pre A V Po none := fun _ h => by cases h
theorem Zf {c : Prop} [Decidable c] {B C : Option R} (h1 : c → Fx P ext fn pre A V Po B) (h2 : ¬ c → Fx P ext fn pre A V Po C) : Fx P ext fn pre A V Po (if c then B else C) := by
  by_cases h : c
  · rw [if_pos h]; exact h1 h
  · rw [if_neg h]; exact h2 h
theorem Zaa {α : Type} {o : Option α} {k : α → Option R} (h : ∀ r, o = some r → Fx P ext fn pre A V Po (k r)) : Fx P ext fn pre A V Po (o.bind k) := by
  cases o with
  | none => exact Zj
  | some r => exact h r rfl
theorem ZuW {r : R} {u : Value} (hev : Znb live (ZpJ P ext fn pre A fu orc) = some (u, bl, ob)) (ho : ∀ p ∈ ob, p.1 = p.2) (hl : live.length = (Po r).length) (hn : live.Nodup) (hk : ZaX pre.length live = true) (hv : V r = ZO (rho live far) 3 u ∧ ZK 3 u = true) (hbl : Z6 (rho live far) bl (Po r)) : Fx P ext fn pre A V Po (some r) := by
  intro r' hr
  obtain rfl := Option.some.inj hr
  obtain ⟨s, h1, rfl, rfl, h4⟩ := Zq3 hev
  exact ⟨fu, orc, u, s, h1, ho, h4, live, hl, hn, hk, hv, ZdS hbl⟩
theorem Zbh (F : Fit P ext) {f : FuncId} (hfn : P.funcs[f]? = some fn) (hb : fn.body = some (ZcG fn)) (hA : Nat.ble A.size fn.ntmps = true) (hPo : ∀ r, (Po r).length ≤ far) {o : Option R} (h : Fx P ext fn pre A V Po o) {r : R} (hr : o = some r) : LSpec P f A pre (V r) (Po r) := by
  obtain ⟨fu, orc, u, s, h1, h2, h3, live, h4⟩ := h r hr
  exact Zsz F hfn hb hA h1 h2 h3 (hPo r) live h4
end
theorem Zra {P : Program} {f : FuncId} {A A' : Array Value} {pre : List (Nat × AObj)} {v : Value} {post : List (Nat × Option AObj)} {n dn : Nat} (e : A = A') (h : ZbN P f A' pre v post n dn) : ZbN P f A pre v post n dn := e ▸ h
def Zed : List Cell → Bool
 | [] => true
 | .any :: _ => false
 | .i _ :: l => Zed l
 | .b _ :: l => Zed l
 | .k _ _ :: l => Zed l
 | .s _ :: l => Zed l
 | .m _ _ _ _ :: l => Zed l
structure Enc (α : Type) where
 cel : α → List Cell
 w : Nat
 dflt : α
 clen : ∀ a, (cel a).length = w
 sure : ∀ a, Zed (cel a) = true
def Enc.enc {α : Type} (E : Enc α) (a : α) : List Value := Zy (E.cel a)
theorem Enc.len {α : Type} (E : Enc α) (a : α) : (E.enc a).length = E.w := by unfold Enc.enc Zy; rw [List.length_map, E.clen]
def Zd9 : Value → Bool
 | .pointer (some ⟨_, _, some _⟩) => true
 | .slice (some ⟨_, _, some _⟩) _ _ => true
 | v => atom v
theorem Znd : ∀ l : List Cell, Zed l = true → Zp Zd9 (Zy l) = true
 | [], _ => rfl
 | c :: l, h => by
  show (Zd9 (Zc5 c) && Zp Zd9 (Zy l)) = true
  cases c with
  | any => cases h
  | _ => rw [Znd l h]; rfl
theorem Enc.atoms {α : Type} (E : Enc α) (a : α) : Zp Zd9 (E.enc a) = true := Znd _ (E.sure a)
def Za {α : Type} (E : Enc α) (L : List α) : List Value := L.flatMap E.enc
def ZcH {α : Type} (E : Enc α) (L : List α) : List Cell := L.flatMap E.cel
section
variable {α : Type} {E : Enc α}
theorem ZhR : Za E [] = [] := rfl
theorem Zdu (x : α) (L : List α) : Za E (x :: L) = E.enc x ++ Za E L := rfl
theorem ZjX (L M : List α) : Za E (L ++ M) = Za E L ++ Za E M := by simp [Za]
theorem ZcV : ∀ L : List α, (Za E L).length = L.length * E.w
 | [] => by simp [ZhR]
 | x :: L => by rw [Zdu, List.length_append, ZcV L, E.len, List.length_cons, Nat.add_mul, Nat.one_mul, Nat.add_comm]
theorem Zle : ∀ (i : Nat) (L : List α), (Za E L).drop (i * E.w) = Za E (L.drop i)
 | 0, L => by simp
 | i + 1, [] => by simp [ZhR]
 | i + 1, x :: L => by
  rw [Zdu, List.drop_succ_cons, ← Zle i L, Nat.add_mul, Nat.one_mul, Nat.add_comm, ← List.drop_drop, ← E.len x, List.drop_left]
theorem Zlf : ∀ (i : Nat) (L : List α), (Za E L).take (i * E.w) = Za E (L.take i)
 | 0, L => by simp [ZhR]
 | i + 1, [] => by simp [ZhR]
 | i + 1, x :: L => by
  rw [Zdu, List.take_succ_cons, Zdu, ← Zlf i L, Nat.add_mul, Nat.one_mul, Nat.add_comm, List.take_append, E.len]
  rw [List.take_of_length_le (by rw [E.len]; omega), Nat.add_sub_cancel_left]
theorem Zlg {L : List α} {i : Nat} (h : i < L.length) (d : α) : L.drop i = L.getD i d :: L.drop (i + 1) := by
 rw [List.getD_eq_getElem?_getD, List.getElem?_eq_getElem h, Option.getD_some]
 exact List.drop_eq_getElem_cons h
theorem ZnB {L : List α} {o i q : Nat} (hi : i < L.length) (ho : o = i * E.w + q) (hq : q ≤ E.w) : (Za E L).drop o = (E.enc (L.getD i E.dflt)).drop q ++ Za E (L.drop (i + 1)) := by
 subst ho
 rw [← List.drop_drop, Zle, Zlg hi E.dflt, Zdu, List.drop_append, E.len, Nat.sub_eq_zero_of_le hq, List.drop_zero]
theorem Zol {β : Type} {L : List β} {i : Nat} {x d : β} (h : i < L.length) : (L.set i x).getD i d = x := by simp [List.getD, h]
theorem ZjY {β : Type} : ∀ (m : Nat) (l : List β), m ≤ l.length → ZL m l = some (l.take m)
 | 0, l, _ => by simp [ZL]
 | m + 1, [], h => by simp at h
 | m + 1, x :: l, h => by
  simp only [ZL]
  rw [ZjY m l (by simpa using h)]
  rfl
theorem Zms {L : List α} {o i q m : Nat} (hi : i < L.length) (ho : o = i * E.w + q) (hq : q + m ≤ E.w) : ZL m ((Za E L).drop o) = some (((E.enc (L.getD i E.dflt)).drop q).take m) := by
 have hl := E.len (L.getD i E.dflt)
 rw [ZnB hi ho (by omega), ZjY _ _ (by simp only [List.length_append, List.length_drop, hl]; omega), List.take_append]
 have : m - ((E.enc (L.getD i E.dflt)).drop q).length = 0 := by simp only [List.length_drop, hl]; omega
 rw [this, List.take_zero, List.append_nil]
theorem ZcP : ∀ {cs : List Cell}, Zed cs = true → Zc6 (Zy cs) cs = true
 | [], _ => rfl
 | c :: l, h => by
  cases c with
  | any => cases h
  | i n => show ((n == n) && Zc6 (Zy l) l) = true; rw [ZcP (cs := l) h]; simp
  | b q => show ((q == q) && Zc6 (Zy l) l) = true; rw [ZcP (cs := l) h]; simp
  | s x => show (dP (x = x) && Zc6 (Zy l) l) = true; rw [ZcP (cs := l) h]; simp [dP]
  | m id o n c =>
   show (dP (Zc5 (.m id o n c) = Zc5 (.m id o n c)) && Zc6 (Zy l) l) = true
   rw [ZcP (cs := l) h, Zv rfl]; rfl
  | k kk n =>
   by_cases hk : kk = .i64
   ·subst hk; show ((decide (IntKind.i64 = IntKind.i64) && (n == n)) && Zc6 (Zy l) l) = true; rw [ZcP (cs := l) h]; simp
   ·have e : Zc6 (.int kk n :: Zy l) (.k kk n :: l) = ((decide (kk = kk) && (n == n)) && Zc6 (Zy l) l) := by cases kk <;> rfl
    show Zc6 (.int kk n :: Zy l) (.k kk n :: l) = true
    rw [e, ZcP (cs := l) h]; simp
theorem Zlh {L : List α} {o i q m : Nat} {cs : List Cell} (hi : i < L.length) (ho : o = i * E.w + q) (hq : q + m ≤ E.w) (hs : Zed cs = true) (hc : ((E.enc (L.getD i E.dflt)).drop q).take m = Zy cs) : ZeU (ZL m ((Za E L).drop o)) cs = true := by
 rw [Zms hi ho hq, hc]
 exact ZcP hs
theorem Zb2 {L : List α} {o i q : Nat} {v : Value} (hi : i < L.length) (ho : o = i * E.w + q) (hq : q + 1 ≤ E.w) (hc : ((E.enc (L.getD i E.dflt)).drop q).take 1 = [v]) : ZL 1 ((Za E L).drop o) = some [v] := by
 rw [Zms hi ho hq, hc]
theorem Zcq {L : List α} {o i q : Nat} {l : List Value} (x : α) (hi : i < L.length) (ho : o = i * E.w + q) (hq : q + l.length ≤ E.w) (hx : Ze5 (E.enc (L.getD i E.dflt)) q l = E.enc x) : o + l.length ≤ (Za E L).length ∧ Ze5 (Za E L) o l = Za E (L.set i x) := by
 have hl := E.len (L.getD i E.dflt)
 have hle : o + l.length ≤ (Za E L).length := by
  have : (i + 1) * E.w ≤ L.length * E.w := Nat.mul_le_mul_right _ hi
  rw [Nat.add_mul, Nat.one_mul] at this
  rw [ZcV]; omega
 refine ⟨hle, ?_⟩
 have e1 : L.set i x = L.take i ++ x :: L.drop (i + 1) := by rw [List.set_eq_take_append_cons_drop, if_pos hi]
 rw [e1, ZjX, Zdu, ← hx]
 unfold Ze5
 have h1 : (Za E L).take o = Za E (L.take i) ++ (E.enc (L.getD i E.dflt)).take q := by
  have hd : Za E L = Za E (L.take i) ++ (E.enc (L.getD i E.dflt) ++ Za E (L.drop (i + 1))) := by
   rw [← Zdu, ← Zlg hi, ← ZjX, List.take_append_drop]
  rw [hd, List.take_append]
  have hlen : (Za E (L.take i)).length = i * E.w := by rw [ZcV, List.length_take]; rw [Nat.min_eq_left (by omega)]
  rw [List.take_of_length_le (by omega), hlen, show o - i * E.w = q by omega, List.take_append]
  rw [show q - (E.enc (L.getD i E.dflt)).length = 0 by omega, List.take_zero, List.append_nil]
 have h2 : (Za E L).drop (o + l.length) = (E.enc (L.getD i E.dflt)).drop (q + l.length) ++ Za E (L.drop (i + 1)) := ZnB hi (by omega) hq
 rw [h1, h2]
 simp
theorem Zmt {L M R : List α} {n m : Nat} (hm : m = n * E.w) (hn : n ≤ L.length) (hR : L.take n ++ M = R) : m ≤ (Za E L).length ∧ (Za E L).take m ++ Za E M = Za E R := by
 subst hm hR
 refine ⟨by rw [ZcV]; exact Nat.mul_le_mul_right _ hn, ?_⟩
 rw [Zlf, ZjX]
theorem Zs7 {L : List α} (j : Nat) (hw : 0 < E.w) : (Za E L)[j]? = if h : j / E.w < L.length then (E.enc (L[j / E.w]'h))[j % E.w]? else none := by
 by_cases h : j / E.w < L.length
 ·rw [dif_pos h]
  have hj : j = (j / E.w) * E.w + j % E.w := by rw [Nat.mul_comm]; exact (Nat.div_add_mod j E.w).symm
  have hr : j % E.w < E.w := Nat.mod_lt _ hw
  have := ZnB (E := E) h hj (Nat.le_of_lt hr)
  have h0 : ((Za E L).drop j)[0]? = (Za E L)[j]? := by rw [List.getElem?_drop]; rfl
  rw [← h0, this, List.getElem?_append_left (by rw [List.length_drop, E.len]; omega), List.getElem?_drop, Nat.add_zero]
  rw [List.getD_eq_getElem?_getD, List.getElem?_eq_getElem h, Option.getD_some]
 ·rw [dif_neg h, List.getElem?_eq_none]
  rw [ZcV]
  have : L.length ≤ j / E.w := by omega
  exact (Nat.le_div_iff_mul_le hw).1 this
theorem ZpK {z : List Value} (x : α) (n : Nat) (hw : 0 < E.w) (hz : E.enc x = z) {m : Nat} (hm : m = n * E.w) : rep z m = Za E (List.replicate n x) := by
 subst hz hm
 apply List.ext_getElem?
 intro j
 rw [Zs7 j hw]
 have hl := E.len x
 by_cases h : j < n * E.w
 ·have h' : j / E.w < n := (Nat.div_lt_iff_lt_mul hw).2 h
  rw [dif_pos (by simpa using h')]
  have : (rep (E.enc x) (n * E.w))[j]? = some ((E.enc x).getD (j % (E.enc x).length) undef) := by simp [rep, h]
  rw [this, List.getElem_replicate, hl, List.getD_eq_getElem?_getD]
  have hr : j % E.w < (E.enc x).length := by rw [hl]; exact Nat.mod_lt _ hw
  rw [List.getElem?_eq_getElem hr, Option.getD_some]
 ·rw [dif_neg (by simp; exact (Nat.le_div_iff_mul_le hw).2 (by omega)), List.getElem?_eq_none]
  simp [rep]; omega
/-! ### The same, as told cells -/
theorem ZpL : ZcH E [] = [] := rfl
theorem Zli (x : α) (L : List α) : ZcH E (x :: L) = E.cel x ++ ZcH E L := rfl
theorem Zmu : ∀ L : List α, (ZcH E L).length = L.length * E.w
 | [] => by simp [ZpL]
 | x :: L => by rw [Zli, List.length_append, Zmu L, E.clen, List.length_cons, Nat.add_mul, Nat.one_mul, Nat.add_comm]
theorem Zom : ∀ (i : Nat) (L : List α), (ZcH E L).drop (i * E.w) = ZcH E (L.drop i)
 | 0, L => by simp
 | i + 1, [] => by simp [ZpL]
 | i + 1, x :: L => by
  rw [Zli, List.drop_succ_cons, ← Zom i L, Nat.add_mul, Nat.one_mul, Nat.add_comm, ← List.drop_drop, ← E.clen x, List.drop_left]
theorem Zrb {L : List α} {o i q : Nat} (hi : i < L.length) (ho : o = i * E.w + q) (hq : q ≤ E.w) : (ZcH E L).drop o = (E.cel (L.getD i E.dflt)).drop q ++ ZcH E (L.drop (i + 1)) := by
 subst ho
 rw [← List.drop_drop, Zom, Zlg hi E.dflt, Zli, List.drop_append, E.clen, Nat.sub_eq_zero_of_le hq, List.drop_zero]
theorem Zt0 {L : List α} {o i q m : Nat} (hi : i < L.length) (ho : o = i * E.w + q) (hq : q + m ≤ E.w) : ZL m ((ZcH E L).drop o) = some (((E.cel (L.getD i E.dflt)).drop q).take m) := by
 have hl := E.clen (L.getD i E.dflt)
 rw [Zrb hi ho (by omega), ZjY _ _ (by simp only [List.length_append, List.length_drop, hl]; omega), List.take_append]
 have : m - ((E.cel (L.getD i E.dflt)).drop q).length = 0 := by simp only [List.length_drop, hl]; omega
 rw [this, List.take_zero, List.append_nil]
theorem Zs8 {L : List α} (j : Nat) (hw : 0 < E.w) : (ZcH E L)[j]? = if h : j / E.w < L.length then (E.cel (L[j / E.w]'h))[j % E.w]? else none := by
 by_cases h : j / E.w < L.length
 ·rw [dif_pos h]
  have hj : j = (j / E.w) * E.w + j % E.w := by rw [Nat.mul_comm]; exact (Nat.div_add_mod j E.w).symm
  have hr : j % E.w < E.w := Nat.mod_lt _ hw
  have := Zrb (E := E) h hj (Nat.le_of_lt hr)
  have h0 : ((ZcH E L).drop j)[0]? = (ZcH E L)[j]? := by rw [List.getElem?_drop]; rfl
  rw [← h0, this, List.getElem?_append_left (by rw [List.length_drop, E.clen]; omega), List.getElem?_drop, Nat.add_zero]
  rw [List.getD_eq_getElem?_getD, List.getElem?_eq_getElem h, Option.getD_some]
 ·rw [dif_neg h, List.getElem?_eq_none]
  rw [Zmu]
  have : L.length ≤ j / E.w := by omega
  exact (Nat.le_div_iff_mul_le hw).1 this
/-! ### Such a row is a row of atoms -/
theorem Zi6 : ∀ L : List α, Zp Zd9 (Za E L) = true
 | [] => rfl
 | x :: L => by
  have app : ∀ (a b : List Value), Zp Zd9 a = true → Zp Zd9 b = true → Zp Zd9 (a ++ b) = true := by
   intro a b ha hb
   induction a with
   | nil => exact hb
   | cons y a ih =>
    simp only [Zp, Bool.and_eq_true] at ha
    show (Zd9 y && Zp Zd9 (a ++ b)) = true
    rw [ha.1, ih ha.2]; rfl
  rw [Zdu]
  exact app _ _ (E.atoms x) (Zi6 L)
theorem Zmv {p q : Value → Bool} (h : ∀ v, p v = true → q v = true) : ∀ {l : List Value}, Zp p l = true → Zp q l = true
 | [], _ => rfl
 | x :: l, hl => by
  simp only [Zp, Bool.and_eq_true] at hl ⊢
  exact ⟨h x hl.1, Zmv h hl.2⟩
theorem ZiQ {v : Value} (h : Zd9 v = true) : (∃ k o z, v = .pointer (some ⟨k, o, some z⟩)) ∨ (∃ k o z n c, v = .slice (some ⟨k, o, some z⟩) n c) ∨ atom v = true := by
 unfold Zd9 at h
 split at h
 ·exact .inl ⟨_, _, _, rfl⟩
 ·exact .inr (.inl ⟨_, _, _, _, _, rfl⟩)
 ·exact .inr (.inr h)
theorem ZpM (d : Nat) {v : Value} (h : Zd9 v = true) : ZK d v = true := by
 rcases ZiQ h with ⟨k, o, z, rfl⟩ | ⟨k, o, z, n, c, rfl⟩ | h
 ·cases d <;> rfl
 ·cases d <;> rfl
 ·cases v with
  | agg => simp [atom] at h
  | tuple => simp [atom] at h
  | func f a b =>
   cases f with
   | func f =>
    simp only [atom, Bool.and_eq_true, Array.isEmpty_iff] at h
    obtain ⟨rfl, rfl⟩ := h
    cases d <;> rfl
   | _ => simp [atom] at h
  | _ => cases d <;> rfl
theorem ZrP (m d : Nat) {v : Value} (h : Zd9 v = true) : Zag m d v = true := by
 rcases ZiQ h with ⟨k, o, z, rfl⟩ | ⟨k, o, z, n, c, rfl⟩ | h
 ·cases d <;> rfl
 ·cases d <;> rfl
 ·cases v with
  | agg => simp [atom] at h
  | tuple => simp [atom] at h
  | pointer a => cases a with
   | none => cases d <;> exact h
   | some a => simp [atom] at h
  | slice a n c => cases a with
   | none => cases d <;> exact h
   | some a => simp [atom] at h
  | map a => cases a with
   | none => cases d <;> exact h
   | some a => simp [atom] at h
  | _ => cases d <;> exact h
theorem ZrQ {ρ : Nat → Nat} (d : Nat) {v : Value} (h : Zd9 v = true) : ZO ρ d v = v := by
 rcases ZiQ h with ⟨k, o, z, rfl⟩ | ⟨k, o, z, n, c, rfl⟩ | h
 ·cases d <;> rfl
 ·cases d <;> rfl
 ·exact ZgP d h
theorem ZlG (ρ : Nat → Nat) (d : Nat) (L : List α) : (Za E L).map (ZO ρ d) = Za E L := by
 have : ∀ l : List Value, Zp Zd9 l = true → l.map (ZO ρ d) = l := fun l => by
  induction l with
  | nil => intro _; rfl
  | cons y l ih =>
   intro h
   simp only [Zp, Bool.and_eq_true] at h
   rw [List.map_cons, ih h.2, ZrQ d h.1]
 exact this _ (Zi6 L)
theorem Zmb (d : Nat) (L : List α) : Zp (ZK d) (Za E L) = true := Zmv (fun _ => ZpM d) (Zi6 L)
theorem Zb3 (m d : Nat) (L : List α) : Zp (Zag m d) (Za E L) = true := Zmv (fun _ => ZrP m d) (Zi6 L)
theorem ZcD (ρ : Nat → Nat) (L : List α) (t : TypeId) : ZeZ ρ (.cells (Za E L) t) (.cells (Za E L) t) := ⟨rfl, ⟨[], by rw [ZlG, List.append_nil]⟩, Zmb 1 L⟩
theorem Zcc (ρ : Nat → Nat) {c : List Value} {L : List α} (t : TypeId) (h : c = Za E L) : ZeZ ρ (.cells c t) (.cells (Za E L) t) := h ▸ ZcD ρ L t
theorem ZfB (ρ : Nat → Nat) (L : List α) (t : TypeId) : AObj.cells (Za E L) t = Zf9 ρ (.cells (Za E L) t) := by
 show _ = AObj.cells ((Za E L).map (ZO ρ 1)) t
 rw [ZlG]
end
theorem Zfq {b : Bool} (h : ¬ (b = true)) : (!b) = true := by cases b <;> simp_all
theorem ZdJ {b : Bool} (h : b = true) : (!b) = false := by subst h; rfl
def Zeu (k : IntKind) : Enc Int := ⟨fun n => match k with | .i64 => [.i n] | k => [.k k n], 1, 0, fun _ => by cases k <;> rfl, fun _ => by cases k <;> rfl⟩
abbrev eI : Enc Int := Zeu .i64
abbrev vi (x : Int) : Value := .int .i64 x
abbrev vs (k o n c : Nat) : Value := .slice (some ⟨k, o, none⟩) n c
abbrev vp (k o : Nat) : Value := .pointer (some ⟨k, o, none⟩)
/-! ### Rows that never change -/
noncomputable def mc {α : Type} (E : Enc α) (L : List α) : Cell := .m (code (ZcH E L)) 0 L.length L.length
noncomputable abbrev ms {α : Type} (E : Enc α) (L : List α) : Value := .slice (some ⟨code (ZcH E L), 0, some 0⟩) L.length L.length
noncomputable abbrev mp {α : Type} (E : Enc α) (L : List α) (o : Nat) : Value := .pointer (some ⟨code (ZcH E L), o, some 0⟩)
theorem Zt1 {α : Type} {E : Enc α} {L : List α} {o i q m : Nat} {cs : List Cell} (hi : i < L.length) (ho : o = i * E.w + q) (hq : q + m ≤ E.w) (hc : ((E.cel (L.getD i E.dflt)).drop q).take m = cs) : ZbM (code (ZcH E L)) o m = some cs := by
 unfold ZbM
 rw [ZcJ]
 show ZL m ((ZcH E L).drop o) = some cs
 rw [Zt0 hi ho hq, hc]
theorem ZjZ {α : Type} {E : Enc α} (L : List α) : Za E L = Zy (ZcH E L) := by
 unfold Za ZcH Zy Enc.enc Zy
 rw [List.map_flatMap]
/-! ### Bytes as strings -/
end Ev
end Go.Proofs.YtiijipocjellpaaGreat
namespace Go.Proofs.YtiijipocjellpaaGreat
open Go.ChangeShapes Go.WideShapes Go.ChangeAt Go.RowKit Go.Deep
namespace Ev
section
variable {H : Type} {enc : TypeId × Value → H} {P : Program} {w : World}
def Trd (enc : TypeId × Value → H) (P : Program) (w : World) (t : TypeId) (cs : List Value) : Prop := ∃ n y, DataW.trod enc P w 0 (fun _ => true) true n t cs = some y
def Elems (enc : TypeId × Value → H) (P : Program) (w : World) (e : TypeId) (O : Obj) (o cap : Nat) : Prop :=
 ∀ i, i < cap → ∃ C t fr cs, O = .cells C t fr ∧ cs.length = P.cellsOf e ∧ (∀ j, j < P.cellsOf e → C[o + (i * P.cellsOf e + j)]? = cs[j]?) ∧ Trd enc P w e cs
theorem Zus {t : TypeId} {k : IntKind} {cs : List Value} (ht : P.underlying t = some (.int k)) (h : Trd enc P w t cs) : ∃ z, cs = [.int k z] ∧ k.min ≤ z ∧ z ≤ k.max := by
 obtain ⟨n, y, h⟩ := h
 obtain ⟨z, e0, _, wx⟩ := DataW.trod_int ht h
 simp only [Lit.wf, Bool.and_eq_true, decide_eq_true_eq] at wx
 exact ⟨z, e0, wx.1, wx.2⟩
theorem Zs9 {t e : TypeId} {cs : List Value} (ht : P.underlying t = some (.slice e)) (hpos : 0 < P.cellsOf e) (h : Trd enc P w t cs) :
  (∃ a, cs = [.slice a 0 0]) ∨ ∃ (b o len cap : Nat) (O : Obj), cs = [.slice (some ⟨b, o, none⟩) len cap] ∧ 0 < cap ∧ len ≤ cap ∧ cap ≤ 9223372036854775807 ∧ w.heap[b]? = some O ∧ Elems enc P w e O o cap := by
 obtain ⟨n0, y, h⟩ := h
 rcases open_slice ht h with ⟨hcs, _⟩ | ⟨a, len, cap, m, n, D, Pl, hcs, hb, hl, hm, hmm, hx, hi⟩
 ·exact .inl ⟨_, hcs⟩
 ·simp only [if_true] at hmm
  subst hmm
  rcases Nat.eq_zero_or_pos m with h0 | h0
  ·subst h0
   obtain rfl : len = 0 := by omega
   exact .inl ⟨_, hcs⟩
  ·right
   obtain ⟨cs0, hc0, _⟩ := hi 0 h0
   obtain ⟨_, hcl0, hat0⟩ := World.cells?_some hc0
   have h1 := hat0 0 hpos
   rw [Nat.zero_mul] at h1
   have ha0 : (a.add 0).add 0 = a := by simp [Addr.add]
   rw [ha0] at h1
   have h2 : w.cell? a = some (cs0[0]'(by omega)) := h1.trans (List.getElem?_eq_getElem (by omega))
   obtain ⟨b, o, spot⟩ := a
   have hspot : spot = none := by
    unfold World.cell? at h2
    split at h2
    ·cases spot with
     | none => rfl
     | some z => simp at h2
    ·cases h2
   subst hspot
   obtain ⟨C, el, fr, hB, _⟩ := Zkr h2
   refine ⟨b, o, len, m, _, hcs, h0, hl, by unfold maxLen at hm; omega, hB, fun i hi' => ?_⟩
   obtain ⟨cs', hc, ht'⟩ := hi i hi'
   obtain ⟨_, hcl, hat⟩ := World.cells?_some hc
   refine ⟨C, el, fr, cs', rfl, hcl, fun j hj => ?_, n, _, ht'⟩
   have h1 := hat j hj
   rw [Go.Deep.add_add] at h1
   have h2 : w.cell? ⟨b, o + (i * P.cellsOf e + j), none⟩ = some (cs'[j]'(by omega)) := by
    have : (⟨b, o, none⟩ : Addr).add (i * P.cellsOf e + j) = ⟨b, o + (i * P.cellsOf e + j), none⟩ := Go.WideShapes.add_plain b o _
    rw [← this, h1]
    exact List.getElem?_eq_getElem (by omega)
   obtain ⟨C', t', fr', hB', hv'⟩ := Zkr h2
   rw [hB] at hB'
   injection hB' with hB'
   injection hB' with e1 e2 e3
   subst e1
   rw [hv']
   exact (List.getElem?_eq_getElem (by omega)).symm
def DecL (w : World) (cs : List Value) (l : List Cell) : Prop := cs.length = l.length ∧ ∀ (i : Nat) x y, l[i]? = some x → cs[i]? = some y → DecC w x y
theorem Zut {w : World} {cs : List Value} {l : List Cell} (hl : cs.length = l.length) (h : ∀ (i : Nat) x, l[i]? = some x → ∃ y, cs[i]? = some y ∧ DecC w x y) : DecL w cs l :=
 ⟨hl, fun i x y hx hy => by
  obtain ⟨y', h1, h2⟩ := h i x hx
  rw [hy] at h1
  injection h1 with h1
  subst h1
  exact h2⟩
theorem ZuX {w : World} {cs : List Value} {k : Nat} : ∀ (j : Nat) x, ([] : List Cell)[j]? = some x → ∃ y, cs[k + j]? = some y ∧ DecC w x y := fun j x h => by simp at h
theorem Zuu {w : World} {cs : List Value} {b : Cell} {l : List Cell} {k : Nat} {y : Value} (hx : cs[k]? = some y) (hd : DecC w b y) (t : ∀ (j : Nat) x, l[j]? = some x → ∃ y, cs[k + 1 + j]? = some y ∧ DecC w x y) :
  ∀ (j : Nat) x, (b :: l)[j]? = some x → ∃ y, cs[k + j]? = some y ∧ DecC w x y := fun j x h => by
 cases j with
 | zero => injection h with h; subst h; exact ⟨y, hx, hd⟩
 | succ j =>
  obtain ⟨y', h1, h2⟩ := t j x (by simpa using h)
  exact ⟨y', by rw [show k + (j + 1) = k + 1 + j by omega]; exact h1, h2⟩
theorem DecL.vr {w : World} {cs : List Value} {l : List Cell} (h : DecL w cs l) : VRs (ιMk w) (Zy l).toArray cs.toArray :=
 ⟨by simp [Zy, h.1], fun i x y hx hy => by
  have hx' : (Zy l)[i]? = some x := by simpa using hx
  have hy' : cs[i]? = some y := by simpa using hy
  unfold Zy at hx'
  rw [List.getElem?_map] at hx'
  cases hb : l[i]? with
  | none => rw [hb] at hx'; cases hx'
  | some z =>
   rw [hb] at hx'
   injection hx' with hx'
   subst hx'
   exact (h.2 i z y hb hy').vr⟩
theorem pick1 {α : Type} {n : Nat} (d : α) {R : Nat → α → Prop} (h : ∀ i, i < n → ∃ x, R i x) : ∃ f : Nat → α, ∀ i, i < n → R i (f i) := by
 classical
 refine ⟨fun i => if hi : i < n then (h i hi).choose else d, fun i hi => ?_⟩
 simp only [hi, dite_true]
 exact (h i hi).choose_spec
theorem ZsA {α : Type} {E : Enc α} {Q : α → Prop} {t e : TypeId} {cs : List Value} (ht : P.underlying t = some (.slice e)) (hw : P.cellsOf e = E.w) (hpos : 0 < E.w)
  (hel : ∀ cs, cs.length = E.w → Trd enc P w e cs → ∃ x : α, DecL w cs (E.cel x) ∧ Q x) (h : Trd enc P w t cs) : ∃ (L : List α) (v : Value), cs = [v] ∧ DecC w (mc E L) v ∧ L.length ≤ 9223372036854775807 ∧ ∀ x ∈ L, Q x := by
 rcases Zs9 ht (by omega) h with ⟨a, rfl⟩ | ⟨b, o, len, cap, O, rfl, h0, hl, hm, hB, hE⟩
 ·exact ⟨[], _, rfl, .m0, by simp, fun x hx => by cases hx⟩
 ·have each : ∀ i, i < len → ∃ x : α, (∃ C t fr, O = .cells C t fr ∧ ∀ j y, (E.cel x)[j]? = some y → ∃ v, C[o + (i * E.w + j)]? = some v ∧ DecC w y v) ∧ Q x := fun i hi => by
   obtain ⟨C, t, fr, cs, hO, hcl, hc, htr⟩ := hE i (by omega)
   obtain ⟨x, hd, hq⟩ := hel cs (by omega) htr
   refine ⟨x, ⟨C, t, fr, hO, fun j y hy => ?_⟩, hq⟩
   have hj : j < cs.length := by rw [hd.1]; exact (List.getElem?_eq_some_iff.1 hy).1
   rw [← hw]
   refine ⟨cs[j], ?_, hd.2 j y _ hy (List.getElem?_eq_getElem hj)⟩
   rw [hc j (by omega)]
   exact List.getElem?_eq_getElem hj
  obtain ⟨G, hG⟩ := pick1 E.dflt each
  obtain ⟨C, t, fr, cs0, hO, _⟩ := hE 0 h0
  subst hO
  refine ⟨(List.range len).map G, _, rfl, ?_, by simp; omega, fun x hx => ?_⟩
  ·have hlen : ((List.range len).map G).length = len := by simp
   unfold mc
   rw [hlen]
   refine .m (base := o) (.mk (ZcJ _) hB (fun hp => ?_) fun i x y hx hy => ?_) (Nat.le_refl _) hl
   ·rw [Zmu, hlen] at hp ⊢
    have hlen0 : 0 < len := by
     rcases Nat.eq_zero_or_pos len with e0 | e0
     ·subst e0; simp at hp
     ·exact e0
    obtain ⟨⟨C', t', fr', hO', hx'⟩, _⟩ := hG (len - 1) (by omega)
    injection hO' with e1 e2 e3
    subst e1
    have hw1 : (E.cel (G (len - 1))).length = E.w := E.clen _
    obtain ⟨v, hv, _⟩ := hx' (E.w - 1) _ (List.getElem?_eq_getElem (by omega))
    have := (Array.getElem?_eq_some_iff.1 hv).1
    have e2 : (len - 1) * E.w + E.w = len * E.w := by rw [← Nat.succ_mul]; congr 1; omega
    omega
   ·rw [Zs8 i hpos] at hx
    split at hx
    ·rename_i hlt
     rw [List.getElem_map, List.getElem_range] at hx
     obtain ⟨⟨C', t', fr', hO', hx'⟩, _⟩ := hG (i / E.w) (by rw [hlen] at hlt; exact hlt)
     injection hO' with e1 e2 e3
     subst e1
     obtain ⟨v, hv, hd⟩ := hx' (i % E.w) x hx
     have e : i / E.w * E.w + i % E.w = i := by rw [Nat.mul_comm]; exact Nat.div_add_mod i E.w
     rw [e, hy] at hv
     injection hv with hv
     subst hv
     exact hd
    ·cases hx
  ·obtain ⟨i, hi, rfl⟩ := List.mem_map.1 hx
   exact (hG i (List.mem_range.1 hi)).2
theorem Zq5 {cs : List Value} {j m : Nat} {v : Value} (h : (cs.drop j).take m = [v]) (hm : m = 1) : cs[j]? = some v := by
 subst hm
 have : ((cs.drop j).take 1)[0]? = some v := by rw [h]; rfl
 rwa [List.getElem?_take_of_lt (by decide), List.getElem?_drop, Nat.add_zero] at this
/-! ### Parts of a value, by where they lie among its cells -/
def ZoL (enc : TypeId × Value → H) (P : Program) (w : World) (t : TypeId) (cs : List Value) (o : Nat) : Prop := Trd enc P w t ((cs.drop o).take (P.cellsOf t))
theorem ZuY {t : TypeId} {cs : List Value} {c : Nat} (hc : P.cellsOf t = c) (hl : cs.length = c) (h : Trd enc P w t cs) : ZoL enc P w t cs 0 := by
 unfold ZoL
 rw [List.drop_zero, List.take_of_length_le (by omega)]
 exact h
theorem Zt2 {cs : List Value} {o : Nat} {v : Value} (h : (cs.drop o).take 1 = [v]) : cs[o]? = some v := Zq5 h rfl
theorem ZuZ {t : TypeId} {k : IntKind} {cs : List Value} {o : Nat} (ht : P.underlying t = some (.int k)) (hc : P.cellsOf t = 1) (h : ZoL enc P w t cs o) : ∃ z, cs[o]? = some (.int k z) ∧ k.min ≤ z ∧ z ≤ k.max := by
 unfold ZoL at h
 rw [hc] at h
 obtain ⟨z, h1, h2⟩ := Zus ht h
 exact ⟨z, Zt2 h1, h2⟩
theorem Zuv {t : TypeId} {v : Value} {d : DataW H} {p : List MemPlace} (h : DataW.Trod enc P w 0 (fun _ => true) true t v d p) : Trd enc P w t v.cells.toList := by
 obtain ⟨fuel, hf⟩ := h
 exact ⟨fuel, _, hf⟩
end
end Ev
end Go.Proofs.YtiijipocjellpaaGreat
namespace Go.Proofs.YtiijipocjellpaaGreat
open Go.RowKit
namespace Ev
section
variable {P : Program} {ext : FuncId → Option Ext} {pre : List AObj} {A : Array Value} {R : Type} {V : R → Value} {Po : R → List (Option AObj)} {live : List Nat} {bl : List (Option AObj)} {ob : List (Bool × Bool)} {fu : Nat} {orc : Orc}
variable {f : FuncId}
end
set_option linter.unusedVariables false
section
variable {P : Program}
end
section
variable {P : Program} {ext : FuncId → Option Ext} {f : FuncId} {pre : List AObj} {A : Array Value} {R : Type} {V : R → Value} {Po : R → List (Option AObj)} {live : List Nat} {bl : List (Option AObj)} {ob : List (Bool × Bool)} {orc : Orc}
end
set_option linter.unusedVariables false
section
variable {P : Program}
theorem VR.cutV {ι ι2 : Ren} {m : Nat} (hι : ∀ k b, k < m ∨ ZW k → ι k = some b → ι2 k = some b) : ∀ (d : Nat) (v v' : Value), VR ι v v' → Zag m d v = true → VR ι2 v v'
 | d, v, v', h, hd => by
  cases h with
  | atom h => exact .atom h
  | glob h => exact .glob h
  | ptr h => cases d <;> exact .ptr (hι _ _ (.inl (Nat.le_of_ble_eq_true hd)) h)
  | map h => cases d <;> exact .map (hι _ _ (.inl (Nat.le_of_ble_eq_true hd)) h)
  | slice h hn hc hq => cases d <;> exact .slice (hι _ _ (.inl (Nat.le_of_ble_eq_true hd)) h) hn hc hq
  | slice0 h => exact .slice0 h
  | mptr h => exact .mptr (hι _ _ (.inr (Zc7 _ _ _)) h)
  | mslice h hn hc => exact .mslice (hι _ _ (.inr (Zc7 _ _ _)) h) hn hc
  | func hs ht h1 h2 =>
   rename_i fn a a' b b'
   have ha : Ev.atom (.func fn a b) = true := by cases d <;> exact hd
   have e := VR.eq_of_atom ha (.func hs ht h1 h2)
   rw [e]
   exact .atom ha
  | agg hs h1 =>
   cases d with
   | zero => simp [Zag, Ev.atom] at hd
   | succ d =>
    simp only [Zag] at hd
    exact .agg hs fun i x y hx hy => VR.cutV hι d x y (h1 i x y hx hy) (Zav hd i x hx)
  | tuple hs h1 =>
   cases d with
   | zero => simp [Zag, Ev.atom] at hd
   | succ d =>
    simp only [Zag] at hd
    exact .tuple hs fun i x y hx hy => VR.cutV hι d x y (h1 i x y hx hy) (Zav hd i x hx)
def ZgQ (m : Nat) : List (Option AObj) → Prop
 | [] => True
 | o :: l => (match o with | some x => Zfn m x = true | none => True) ∧ ZgQ m l
theorem Zne {m : Nat} : ∀ {H : List (Option AObj)}, ZgQ m H → ∀ k o, lkO H k = some o → Zfn m o = true
 | [], _, k, o, hk => by simp [lkO] at hk
 | x :: H, h, 0, o, hk => by
  have e : x = some o := by simpa [lkO] using hk
  subst e
  exact h.1
 | x :: H, h, k + 1, o, hk => Zne h.2 k o (by simpa [lkO] using hk)
noncomputable def ιTv (ι : Ren) (m : Nat) : Ren := fun k => @ite _ (k < m ∨ ZW k) (Classical.propDecidable _) (ι k) none
theorem ιTv_yes {ι : Ren} {m k : Nat} (h : k < m ∨ ZW k) : ιTv ι m k = ι k := by unfold ιTv; rw [if_pos h]
theorem ιTv_inv {ι : Ren} {m k : Nat} {q : Nat × Nat} (h : ιTv ι m k = some q) : (k < m ∨ ZW k) ∧ ι k = some q := by
 by_cases hk : k < m ∨ ZW k
 ·rw [ιTv_yes hk] at h; exact ⟨hk, h⟩
 ·unfold ιTv at h
  rw [if_neg hk] at h; cases h
theorem ZsB {post : List (Option AObj)} {k : Nat} {o : AObj} (h : lkO post k = some o) : k < post.length := by
 unfold lkO at h
 cases hx : post[k]? with
 | none => rw [hx] at h; cases h
 | some y => exact (List.getElem?_eq_some_iff.1 hx).1
theorem Step.letgo {ι ι' : Ren} {w w' : World} {pre : List AObj} {post : List (Option AObj)} (hd : ∀ k, ι k ≠ none → k < pre.length ∨ ZW k) (hpre : pre.length ≤ post.length) (hUA : ZgQ post.length post) (hS : Step P ι (lk pre) w ι' (lkO post) w') : Step P ι (lk pre) w (ιTv ι' post.length) (lkO post) w' := by
 have hι : ∀ k b, k < post.length ∨ ZW k → ι' k = some b → (ιTv ι' post.length) k = some b := fun k b hk h => (ιTv_yes hk).trans h
 have hmk : ∀ b base id q, ι' (ZM b base id) = some q → (ιTv ι' post.length) (ZM b base id) = some q := fun b base id q h => hι _ _ (.inr (Zc7 _ _ _)) h
 refine ⟨fun k b hb' => hι k b ((hd k (by rw [hb']; simp)).imp (fun q => by omega) id) (hS.ext k b hb'), ⟨fun k c' t' q' hk => ?_, fun {m} k O hk => ?_, fun k k' b b' h1 h2 h3 h4 h5 => hS.emb.inj k k' b b' h1 h2 (ιTv_inv h3).2 (ιTv_inv h4).2 h5, fun k b h => hS.emb.lt k b (ιTv_inv h).2, fun b base id q hq => ?_, fun x hx => (hS.emb.tb x hx).imp fun q hq => hmk _ _ _ _ hq⟩, hS.os, hS.tape, hS.output, hS.size, hS.frame, fun k b h1 h2 h3 => hS.new k b h1 (ιTv_inv h2).2 h3, hS.alive, hS.kind⟩
 ·obtain ⟨b, r1, hz⟩ := hS.emb.obj k c' t' q' hk
  have hcs : Zp (Zag post.length 1) c' = true := Zne hUA k (.cells c' t' q') hk
  exact ⟨b, hι k b (.inl (ZsB hk)) r1, hz.imp id fun ⟨q0, D, r2, r3, r4⟩ => ⟨q0, D, r2, ⟨r3.1, fun i x y hx hy => VR.cutV hι 1 x y (r3.2 i x y hx hy) (ZJ hcs x (List.mem_of_getElem? hx))⟩, r4⟩⟩
 ·obtain ⟨b, r1, r2⟩ := hS.emb.ro k O hk
  exact ⟨b, hι k b (.inl (ZsB hk)) r1, r2⟩
 ·obtain ⟨m1, m2, m3⟩ := hS.emb.mks b base id q (ιTv_inv hq).2
  exact ⟨m1, ⟨m2.1.on hmk, fun o c' hc => hmk _ _ _ _ (m2.2 o c' hc)⟩, fun k d hk hd2 => m3 k d hk (ιTv_inv hd2).2⟩
theorem ZpN {post : List (Option AObj)} {o : AObj} : lkO (post ++ [some o]) post.length = some o := by simp [lkO]
theorem ZpO {post : List (Option AObj)} {o : AObj} : upd (lkO (post ++ [some o])) post.length none = lkO post := by
 funext k
 by_cases hk : k = post.length
 ·subst hk
  rw [Zk]
  simp [lkO]
 ·rw [Ze hk]
  unfold lkO
  rcases Nat.lt_or_ge k post.length with h | h
  ·rw [List.getElem?_append_left h]
  ·rw [List.getElem?_eq_none (by simp; omega), List.getElem?_eq_none h]
theorem LSpec.frzv {α : Type} {E : Enc α} {L : List α} {f : FuncId} {A : Array Value} {pre : List AObj} {v v2 : Value} {post : List (Option AObj)} {t : TypeId} (h : LSpec P f A pre v (post ++ [some (.cells (Za E L) t)])) (hpre : pre.length ≤ post.length) (hle : post.length < 1000000000) (hUA : ZgQ post.length post) (hz : Zb0 v = false)
  (h2 : Zmi post.length (code (ZcH E L)) 3 v = v2) (hu : Zag post.length 3 v2 = true) : LSpec P f A pre v2 post := by
 subst h2
 intro ι w args' hd ha he
 refine (h ι w args' hd ha he).mono fun e w' hf => ?_
 rcases hf with ⟨v', ι', rfl, hS, hdm, hvr⟩ | ⟨hz', _⟩
 rotate_left
 ·rw [hz] at hz'; cases hz'
 rw [ZjZ] at hS
 obtain ⟨ι2, g1, g2, g3⟩ := Step.frz hS.emb ZpN
 rw [ZpO] at g1
 have hT := Step.letgo hd hpre hUA (hS.trans g1)
 refine .inl ⟨v', _, rfl, hT, fun k hk => ?_, VR.cutV (fun k b hk h => (ιTv_yes hk).trans h) 3 _ _ (ZqL g1.ext g2 3 hvr) hu⟩
 cases hq : ιTv ι2 post.length k with
 | none => exact absurd hq hk
 | some q => exact (ιTv_inv hq).1.imp id fun h => h.1
noncomputable def nlV : Nat → Value → Value
 | d + 1, .agg cs => .agg ((cs.toList.map (nlV d)).toArray)
 | d + 1, .tuple cs => .tuple ((cs.toList.map (nlV d)).toArray)
 | _, .slice none 0 0 => .slice (some ⟨code [], 0, some 0⟩) 0 0
 | _, v => v
theorem Zon {ι : Ren} {n m : Nat} {v' : Value} (d : Nat) (h : VR ι (.slice none n m) v') : VR ι (nlV d (.slice none n m)) v' := by
 cases n with
 | succ n => cases d <;> exact h
 | zero =>
  cases m with
  | succ m => cases d <;> exact h
  | zero =>
   have e := h.eq_of_atom rfl
   subst e
   cases d <;> exact .slice0 fun _ => rfl
theorem Zva {ι : Ren} (d : Nat) : ∀ {v v' : Value}, VR ι v v' → VR ι (nlV d v) v' := by
 induction d with
 | zero =>
  intro v v' h
  cases v with
  | slice p n m =>
   cases p with
   | none => exact Zon 0 h
   | some a => exact h
  | _ => exact h
 | succ d ih =>
  intro v v' h
  cases v with
  | slice p n m =>
   cases p with
   | none => exact Zon (d + 1) h
   | some a => exact h
  | agg cs =>
   obtain ⟨a', rfl, hs, h1⟩ := h.agg_inv
   show VR ι (.agg ((cs.toList.map (nlV d)).toArray)) _
   refine .agg (by simpa using hs) fun i x y hx1 hy => ?_
   simp only [List.getElem?_toArray, List.getElem?_map] at hx1
   cases hc : cs.toList[i]? with
   | none => rw [hc] at hx1; cases hx1
   | some z =>
    rw [hc] at hx1
    injection hx1 with hx1
    subst hx1
    exact ih (h1 i z y (by simpa using hc) hy)
  | tuple cs =>
   cases h with
   | atom h => simp [Ev.atom] at h
   | tuple hs h1 =>
    show VR ι (.tuple ((cs.toList.map (nlV d)).toArray)) _
    refine .tuple (by simpa using hs) fun i x y hx1 hy => ?_
    simp only [List.getElem?_toArray, List.getElem?_map] at hx1
    cases hc : cs.toList[i]? with
    | none => rw [hc] at hx1; cases hx1
    | some z =>
     rw [hc] at hx1
     injection hx1 with hx1
     subst hx1
     exact ih (h1 i z y (by simpa using hc) hy)
  | _ => exact h
theorem LSpec.nlv {f : FuncId} {A : Array Value} {pre : List AObj} {v v2 : Value} {post : List (Option AObj)} (h : LSpec P f A pre v post) (hz : Zb0 v = false) (h2 : nlV 3 v = v2) : LSpec P f A pre v2 post := by
 subst h2
 intro ι w args' hd ha he
 refine (h ι w args' hd ha he).mono fun e w' hf => ?_
 rcases hf with ⟨v', ι', rfl, hS, hdm, hvr⟩ | ⟨hz', _⟩
 ·exact .inl ⟨v', ι', rfl, hS, hdm, Zva 3 hvr⟩
 ·rw [hz] at hz'; cases hz'
end
set_option linter.unusedVariables false
section
variable {α : Type} {E : Enc α}
theorem Zi7 (ρ : Nat → Nat) (L : List α) (t : TypeId) : AObj.cells (Za E L) t true = Zf9 ρ (.cells (Za E L) t true) := by
 show _ = AObj.cells ((Za E L).map (ZO ρ 1)) t true
 rw [ZlG]
end
end Ev
end Go.Proofs.YtiijipocjellpaaGreat
/- The heap's cells and rows, Zag names. -/
namespace Go.Proofs.YtiijipocjellpaaGreat
open Go.RowKit
namespace Ev
set_option linter.unusedVariables false
noncomputable section
def nth : List Nat → Nat → Nat
 | [], _ => 0
 | a :: _, 0 => a
 | _ :: l, j + 1 => nth l j
end
end Ev
end Go.Proofs.YtiijipocjellpaaGreat
namespace Go.Proofs.YtiijipocjellpaaGreat
open Go.RowKit
namespace Ev
set_option linter.unusedVariables false
def rg : Nat → Nat → List Nat → List Nat
 | _, 0, l => l
 | a, n + 1, l => a :: rg (a + 1) n l
def oq : List Nat → List (Nat × Bool)
 | [] => []
 | a :: l => (a / 2, Nat.beq (a % 2) 1) :: oq l
abbrev Ob (l : List (Bool × Bool)) : Prop := ∀ q ∈ l, q.1 = q.2
section
variable {l : List (Bool × Bool)}
theorem kX (t b : Bool) (h : t = b) (hl : Ob l) : Ob ((t, b) :: l) := ZB h hl
theorem hT {a b : Int} (h : a = b) (hl : Ob l) : Ob ((a == b, true) :: l) := ZB (beq_iff_eq.2 h) hl
theorem hF {a b : Int} (h : ¬ a = b) (hl : Ob l) : Ob ((a == b, false) :: l) := ZB (beq_eq_false_iff_ne.2 h) hl
theorem hD {a b : Int} (h : ¬ a = b) (hl : Ob l) : Ob ((a != b, true) :: l) := ZB (bne_iff_ne.2 h) hl
theorem hE {a b : Int} (h : a = b) (hl : Ob l) : Ob ((a != b, false) :: l) := ZB (bne_eq_false_iff_eq.2 h) hl
theorem hY {p : Prop} [Decidable p] (h : p) (hl : Ob l) : Ob ((decide p, true) :: l) := ZB (decide_eq_true h) hl
theorem hN {p : Prop} [Decidable p] (h : ¬ p) (hl : Ob l) : Ob ((decide p, false) :: l) := ZB (decide_eq_false h) hl
theorem kT (a b : Int) (hl : Ob l) (h : a = b := by omega) : Ob ((a == b, true) :: l) := hT h hl
theorem kF (a b : Int) (hl : Ob l) (h : ¬ a = b := by omega) : Ob ((a == b, false) :: l) := hF h hl
theorem kD (a b : Int) (hl : Ob l) (h : ¬ a = b := by omega) : Ob ((a != b, true) :: l) := hD h hl
theorem kE (a b : Int) (hl : Ob l) (h : a = b := by omega) : Ob ((a != b, false) :: l) := hE h hl
theorem kY (p : Prop) [Decidable p] (hl : Ob l) (h : p := by omega) : Ob ((decide p, true) :: l) := hY h hl
theorem kN (p : Prop) [Decidable p] (hl : Ob l) (h : ¬ p := by omega) : Ob ((decide p, false) :: l) := hN h hl
theorem kR {α : Type} (a : α) (hl : Ob l) : Ob ((dP (a = a), true) :: l) := ZB (Zv rfl) hl
theorem kC {p : Prop} (h : p) (hl : Ob l) : Ob ((dP p, true) :: l) := ZB (Zv h) hl
theorem kB (a b : Nat) (hl : Ob l) (h : a < b := by first | omega | (simp only [List.length_set, List.length_append, List.length_cons, List.length_nil, List.length_replicate, List.length_take, List.length_drop] at * <;> omega)) : Ob ((Nat.blt a b, true) :: l) := ZB (ZuT h) hl
theorem kI (a b : Int) (hl : Ob l) (h : a = b := by first | rfl | exact Zna (by omega)) : Ob ((a == b, true) :: l) := hT h hl
theorem kM (a b : Int) (hl : Ob l) (h : 0 ≤ a := by omega) : Ob ((Int.tmod a b == a % b, true) :: l) := hT (Ztw h) hl
theorem kV (a b : Int) (hl : Ob l) (h : 0 ≤ a := by omega) (h' : -9223372036854775808 ≤ a / b ∧ a / b ≤ 9223372036854775807 := by omega) : Ob ((IntKind.i64.wrap (Int.tdiv a b) == a / b, true) :: l) := hT (by rw [Ztx h]; exact wrap_i64 h') hl
theorem kW (a b : Int) (hl : Ob l) (h : -9223372036854775808 ≤ a ∧ a ≤ 9223372036854775807 := by first | omega | (simp only [List.length_set, List.length_append, List.length_cons, List.length_nil, List.length_replicate, List.length_take, List.length_drop] at * <;> omega)) (h' : a = b := by first | rfl | omega) : Ob ((IntKind.i64.wrap a == b, true) :: l) := hT ((wrap_i64 h).trans h') hl
theorem kZ (t : Bool) (hl : Ob l) (h : t = true := by first | (simp only [beq_self_eq_true, Bool.and_self]; done) | (simp only [Bool.and_true, Bool.and_eq_true, beq_iff_eq] <;> first | omega | (simp_all; done) | grind)) : Ob ((t, true) :: l) := ZB h hl
theorem kO (t : Bool) (hl : Ob l) (h : t = false := by exact Bool.eq_false_iff.2 (by simp only [ne_eq, Bool.and_true, Bool.and_eq_true, beq_iff_eq]; first | omega | (intro hh; simp_all; done) | (intro hh; grind))) : Ob ((t, false) :: l) := ZB h hl
theorem kS (b : Int) (n : Nat) (k : IntKind) (hl : Ob l) (h : b = Int.ofNat n := by first | rfl | exact Zna (by omega)) (h' : n ≤ IntKind.bits k := by (show _ ≤ 64); omega) : Ob ((dP (b = Int.ofNat n ∧ n ≤ IntKind.bits k), true) :: l) := kC ⟨h, h'⟩ hl
section
variable {α : Type} (E : Enc α) (L : List α)
theorem ZpP {L : List α} {o i q m : Nat} (hi : i < L.length) (ho : o = i * E.w + q) (hq : q + m ≤ E.w) : ZeU (ZL m ((Za E L).drop o)) (((E.cel (L.getD i E.dflt)).drop q).take m) = true := by
 rw [Zms hi ho hq]
 have e : ((E.enc (L.getD i E.dflt)).drop q).take m = Zy (((E.cel (L.getD i E.dflt)).drop q).take m) := by
  unfold Enc.enc Zy; rw [List.map_take, List.map_drop]
 rw [e]
 refine ZcP ?_
 have hs := E.sure (L.getD i E.dflt)
 have h1 : ∀ (cs : List Cell) (n : Nat), Zed cs = true → Zed (cs.drop n) = true := fun cs => by
  induction cs with
  | nil => intro n _; simp [Zed]
  | cons c cs ih =>
   intro n h
   cases n with
   | zero => exact h
   | succ n => rw [List.drop_succ_cons]; exact ih n (by cases c <;> first | cases h; done | exact h)
 have h2 : ∀ (cs : List Cell) (n : Nat), Zed cs = true → Zed (cs.take n) = true := fun cs => by
  induction cs with
  | nil => intro n _; simp [Zed]
  | cons c cs ih =>
   intro n h
   cases n with
   | zero => rfl
   | succ n =>
    rw [List.take_succ_cons]
    cases c with
    | any => cases h
    | _ => exact ih n h
 exact h2 _ _ (h1 _ _ hs)
theorem kL (i q m : Nat) (hl : Ob l) (h : i < L.length := by first | omega | (simp only [List.length_set, List.length_append, List.length_cons, List.length_nil, List.length_replicate, List.length_take, List.length_drop] at * <;> omega)) (hq : q + m ≤ E.w := by decide) : Ob ((ZeU (ZL m (List.drop ((0 + (i * E.w)) + q) (Za E L))) (((E.cel (L.getD i E.dflt)).drop q).take m), true) :: l) := ZB (ZpP E h (by omega) hq) hl
theorem kLn (i q m : Nat) (hl : Ob l) (h : i < L.length := by first | omega | (simp only [List.length_set, List.length_append, List.length_cons, List.length_nil, List.length_replicate, List.length_take, List.length_drop] at * <;> omega)) (hq : q + m ≤ E.w := by decide) : Ob ((ZeU (ZL m (List.drop (0 + (i * E.w)) (Za E L))) (((E.cel (L.getD i E.dflt)).drop 0).take m), true) :: l) := ZB (ZpP E (q := 0) h (by omega) (by omega)) hl
theorem kG (o i q m w : Nat) (hl : Ob l) (h : i < L.length := by first | omega | (simp only [List.length_set, List.length_append, List.length_cons, List.length_nil, List.length_replicate, List.length_take, List.length_drop] at * <;> omega)) (ho : o = i * w + q := by omega) (hw : w = E.w := by rfl) (hq : q + m ≤ E.w := by decide) : Ob ((dP (ZbM (code (ZcH E L)) o m = some (((E.cel (L.getD i E.dflt)).drop q).take m)), true) :: l) := kC (Zt1 h (by rw [← hw]; exact ho) hq rfl) hl
theorem kA (x : α) (hl : Ob l) (h : L.length ≤ 100000 := by first | omega | (simp only [List.length_set, List.length_append, List.length_cons, List.length_nil, List.length_replicate, List.length_take, List.length_drop] at * <;> omega)) (h1 : Zp Zca (E.enc x) = true := by rfl) : Ob ((dP ((1 = 1 ∧ ZL (1 * E.w) (List.drop 0 (E.enc x)) = some (E.enc x) ∧ Zp Zca (E.enc x) = true) ∧ 0 < 1 ∧ 1 ≤ 100000 ∧ L.length < L.length + 1 ∧ L.length ≤ 100000 ∧ L.length * E.w ≤ (List.length (Za E L)) ∧ List.take (L.length * E.w) (Za E L) ++ E.enc x = Za E (L ++ [x])), true) :: l) := by
 refine kC ⟨⟨rfl, ?_, h1⟩, by omega, by omega, by omega, h, by rw [ZcV]; exact Nat.le_refl _, ?_⟩ hl
 ·rw [Nat.one_mul, List.drop_zero, ← E.len x, ZjY _ _ (Nat.le_refl _), List.take_length]
 ·rw [List.take_of_length_le (by rw [ZcV]; exact Nat.le_refl _), ZjX]
  show _ = _ ++ Za E (x :: [])
  rw [Zdu, ZhR, List.append_nil]
end
end
section
variable {ρ : Nat → Nat} {bl H : List (Option AObj)}
theorem bE : Z6 ρ [] [] := trivial
theorem b1 {b : Option AObj} (h : Z6 ρ bl H) : Z6 ρ (b :: bl) (none :: H) := h
theorem bN (h : Z6 ρ bl H) : Z6 ρ (none :: bl) (none :: H) := h
theorem bC {o p : AObj} (h : ZeZ ρ o p) (hb : Z6 ρ bl H) : Z6 ρ (some o :: bl) (some p :: H) := ⟨h, hb⟩
theorem bM (o : AObj) {p : AObj} (hb : Z6 ρ bl H) (h : ZeZ ρ o p := by exact ⟨rfl, ⟨[], by kernel_rfl⟩, by kernel_rfl⟩) : Z6 ρ (some o :: bl) (some p :: H) := ⟨h, hb⟩
theorem bS (c : List Value) {t : TypeId} {c' : List Value} (hb : Z6 ρ bl H) (h : c.map (ZO ρ 1) = c' ++ [] := by rfl) (hs : Zp (ZK 1) c = true := by rfl) : Z6 ρ (some (.cells c t) :: bl) (some (.cells c' t) :: H) := ⟨⟨rfl, ⟨[], h⟩, hs⟩, hb⟩
theorem bR {α : Type} {E : Enc α} {L : List α} {t : TypeId} (hb : Z6 ρ bl H) : Z6 ρ (some (.cells (Za E L) t) :: bl) (some (.cells (Za E L) t) :: H) := ⟨ZcD _ L _, hb⟩
end
section
variable {P : Program} {ext : FuncId → Option Ext} {f : FuncId} {fn : Func} {pre : List AObj} {A : Array Value} {R : Type} {V : R → Value} {Po : R → List (Option AObj)} {bl : List (Option AObj)} {ob : List (Bool × Bool)}
theorem fxC (orc : Orc) (live : List Nat) (u : Value) {r : R} (ho : Ob ob) (hbl : Z6 (rho live far) bl (Po r)) (hv : V r = ZO (rho live far) 3 u ∧ ZK 3 u = true := by exact ⟨by rfl, by rfl⟩) (hev : Znb live (ZpJ P ext fn pre A 4000 orc) = some (u, bl, ob) := by as_aux_lemma => kernel_rfl) (hl : live.length = (Po r).length := by rfl) (hn : live.Nodup := by decide +kernel) (hk : ZaX pre.length live = true := by rfl) : Fx P ext fn pre A V Po (some r) :=
 ZuW hev ho hl hn hk hv hbl
end
namespace Mach
section
variable {P : Program} {ext : FuncId → Option Ext} {M : Mach} {x : M.X} {A : Array Value} {bl : List (Option AObj)} {ob : List (Bool × Bool)}
theorem okF (orc : Orc) (live : List Nat) (u : Value) {r : M.R} (ho : Ob ob) (hbl : Z6 (rho live far) bl (M.Po r)) (hv : M.V r = ZO (rho live far) 3 u ∧ ZK 3 u = true := by exact ⟨by rfl, by rfl⟩) (hev : ∀ gv, Zh2 live (M.Start x gv P ext 1000000 0 4000 orc) = some (u, bl, ob) := by intro gv; kernel_rfl) (hl : live.length = (M.Po r).length := by rfl) (hn : live.Nodup := by decide +kernel) (hk : ZaX M.pre.length live = true := by rfl) : M.Ok P ext x (some (.inr r)) :=
 ok_fin hev ho hl hn hk hv hbl
theorem enF (orc : Orc) (live : List Nat) (u : Value) {r : M.R} (ho : Ob ob) (hbl : Z6 (rho live far) bl (M.Po r)) (hv : M.V r = ZO (rho live far) 3 u ∧ ZK 3 u = true := by exact ⟨by rfl, by rfl⟩) (hev : Zh2 live (M.startE P ext A 1000000 0 4000 orc) = some (u, bl, ob) := by kernel_rfl) (hl : live.length = (M.Po r).length := by rfl) (hn : live.Nodup := by decide +kernel) (hk : ZaX M.pre.length live = true := by rfl) : M.Enter P ext A (some (.inr r)) :=
 en_fin hev ho hl hn hk hv hbl
theorem okN (orc : Orc) (live : List Nat) (tv : List (Option Value)) {y : M.X} (ho : Ob ob) (ht : Zci (rho live far) tv (M.L y)) (hbl : Z6 (rho live far) bl (M.H y)) (hr : M.hd y ∈ Zt (M.KK (M.hd x))) (hev : ∀ gv, ZjW (M.hd y) live ((M.L y).map (·.1)) (M.Start x gv P ext 1000000 0 4000 orc) = some (tv, bl, ob) := by intro gv; kernel_rfl) (hL : M.isL (M.hd y) = true := by rfl) (hl : live.length = (M.H y).length := by rfl) (hn : live.Nodup := by decide +kernel) (hk : ZaX M.pre.length live = true := by rfl) : M.Ok P ext x (some (.inl y)) :=
 ok_next (tv := fun _ => tv) hL hr hev ho hl hn hk (fun _ => ht) hbl
theorem okH (bK : Code × List ZaI) (orc : Orc) (live : List Nat) (tv : List (Option Value)) {y : M.X} (ho : Ob ob) (ht : Zci (rho live far) tv (M.L y)) (hbl : Z6 (rho live far) bl (M.H y)) (hsub : ∀ j ∈ Zt (M.code (M.hd y)).2, j ∈ Zt (M.KK (M.hd x))) (hev : ∀ gv, Zg8 live ((M.L y).map (·.1)) (M.Start x gv P ext 1000000 0 4000 orc) = some (bK, tv, bl, ob) := by intro gv; kernel_rfl) (hr : bK = M.code (M.hd y) := by rfl) (hL : M.isL (M.hd y) = true := by rfl) (hl : live.length = (M.H y).length := by rfl) (hn : live.Nodup := by decide +kernel) (hk : ZaX M.pre.length live = true := by rfl) : M.Ok P ext x (some (.inl y)) :=
 Zur (tv := fun _ => tv) hL hr hsub hev ho hl hn hk (fun _ => ht) hbl
theorem enH (bK : Code × List ZaI) (orc : Orc) (live : List Nat) (tv : List (Option Value)) {y : M.X} (ho : Ob ob) (ht : Zci (rho live far) tv (M.L y)) (hbl : Z6 (rho live far) bl (M.H y)) (hsub : Zt (M.code (M.hd y)).2 = []) (hev : Zg8 live ((M.L y).map (·.1)) (M.startE P ext A 1000000 0 4000 orc) = some (bK, tv, bl, ob) := by kernel_rfl) (hr : bK = M.code (M.hd y) := by rfl) (hL : M.isL (M.hd y) = true := by rfl) (hl : live.length = (M.H y).length := by rfl) (hn : live.Nodup := by decide +kernel) (hk : ZaX M.pre.length live = true := by rfl) : M.Enter P ext A (some (.inl y)) :=
 en_head hL hr hsub hev ho hl hn hk ht hbl
end
end Mach
theorem tE {ρ : Nat → Nat} : Zci ρ [] [] := trivial
theorem tC {ρ : Nat → Nat} {u : Value} {tv : List (Option Value)} {x : Nat × Value} {l : List (Nat × Value)} (ht : Zci ρ tv l) (h : x.2 = ZO ρ 3 u ∧ ZK 3 u = true := by exact ⟨by rfl, by rfl⟩) : Zci ρ (some u :: tv) (x :: l) := ⟨h, ht⟩
section
variable {l : List (Bool × Bool)}
theorem kU (c : List Value) (j : Nat) {x y : Value} (h : x = y) (hl : Ob l) : Ob ((dP (c.set j x = c.set j y), true) :: l) := kC (by rw [h]) hl
end
theorem bU {ρ : Nat → Nat} {bl H : List (Option AObj)} (c : List Value) (j : Nat) {x y : Value} (hxy : x = y) {t : TypeId} {c' : List Value} (hb : Z6 ρ bl H) (h1 : c.map (ZO ρ 1) = c'.set j x := by rfl) (h2 : c'.set j y = c' := by rfl) (hs : Zp (ZK 1) c = true := by rfl) : Z6 ρ (some (.cells c t) :: bl) (some (.cells c' t) :: H) := ⟨⟨rfl, ⟨[], by rw [h1, hxy, h2, List.append_nil]⟩, hs⟩, hb⟩
theorem bU2 {ρ : Nat → Nat} {bl H : List (Option AObj)} (c : List Value) (j : Nat) {x y : Value} (hxy : x = y) (j' : Nat) {x' y' : Value} (hxy' : x' = y') {t : TypeId} {c' : List Value} (hb : Z6 ρ bl H) (h1 : c.map (ZO ρ 1) = (c'.set j x).set j' x' := by rfl) (h2 : (c'.set j y).set j' y' = c' := by rfl) (hs : Zp (ZK 1) c = true := by rfl) : Z6 ρ (some (.cells c t) :: bl) (some (.cells c' t) :: H) := ⟨⟨rfl, ⟨[], by rw [h1, hxy, hxy', h2, List.append_nil]⟩, hs⟩, hb⟩
section
variable {P : Program} {ext : FuncId → Option Ext} {f : FuncId} {fn : Func} {pre : List AObj} {A : Array Value} {R : Type} {V : R → Value} {Po : R → List (Option AObj)} {bl : List (Option AObj)} {ob : List (Bool × Bool)}
end
structure ToldS where
 A : Array Value
 pt : List (Nat × AObj)
 gv : Value
 qt : List (Nat × Option AObj)
 dn : Nat
noncomputable def ToldS.t (S : ToldS) : ZgV := .call S.pt S.gv S.qt S.dn
def ToldS.P (S : ToldS) (P : Program) (f : FuncId) (n : Nat) : Prop := ZbN P f S.A S.pt S.gv S.qt n S.dn
noncomputable def ZoM : List (Nat × AObj) → List (Bool × Bool) → List (Bool × Bool)
 | [], l => l
 | (_, .cells c _ _) :: r, l => (dP (c = c), true) :: ZoM r l
 | (_, .ro O _) :: r, l => (dP (O = O), true) :: ZoM r l
theorem Zmw : ∀ (r : List (Nat × AObj)) {l : List (Bool × Bool)}, Ob l → Ob (ZoM r l)
 | [], _, h => h
 | (_, .cells _ _ _) :: r, _, h => kR _ (Zmw r h)
 | (_, .ro _ _) :: r, _, h => kR _ (Zmw r h)
theorem kK {P : Program} {f : FuncId} {S : ToldS} {n : Nat} (h : S.P P f n) {l : List (Bool × Bool)} (hl : Ob l) : Ob ((dP (ZbN P f S.A S.pt S.gv S.qt n S.dn), true) :: ZoM S.pt l) := ZB (Zv h) (Zmw _ hl)
theorem kKa {P : Program} {f : FuncId} {S : ToldS} {n : Nat} (h : S.P P f n) {l : List (Bool × Bool)} (hl : Ob l) : Ob ((dP (ZbN P f S.A S.pt S.gv S.qt n S.dn), true) :: l) := ZB (Zv h) hl
theorem kKb {P : Program} {f : FuncId} {S : ToldS} {n : Nat} {A : Array Value} (e : A = S.A) (h : S.P P f n) {l : List (Bool × Bool)} (hl : Ob l) : Ob ((dP (ZbN P f A S.pt S.gv S.qt n S.dn), true) :: l) := ZB (Zv (e ▸ h)) hl
theorem Za7 {P : Program} {f : FuncId} {A : Array Value} {pre : List AObj} {v : Value} {post : List (Option AObj)} (h : LSpec P f A pre v post) (κ : List Nat) (n : Nat) (ch : List Nat) {S : ToldS} (hnd : κ.Nodup) (hlt : ∀ k ∈ κ, k < n) (hκ : κ.length = pre.length := by rfl) (hle : Nat.ble pre.length post.length = true := by rfl) (hch : Zp (fun j => Nat.blt j post.length) ch = true := by rfl)
  (hA : Zp (Zag pre.length 3) A.toList = true := by rfl) (hpre : ZhP pre.length pre := by repeat' (first | exact trivial | apply And.intro | exact Zb3 _ _ _ | rfl)) (hv : (Zag post.length 3 v || Zb0 v) = true := by rfl) (hpost : ZfI post.length post := by repeat' (first | exact trivial | apply And.intro | exact Zb3 _ _ _ | rfl)) (hk : Zn8 ch 0 pre post := by repeat' (first | exact trivial | apply And.intro | exact Or.inl (by decide) | exact Or.inr rfl | decide))
  (eA : S.A = Zfg (ZO (kap κ n) 3) A := by rfl) (ev : S.gv = ZO (kap κ n) 3 v := by rfl) (edn : pre.length + S.dn = post.length := by rfl) (ep : S.pt = Zty κ n pre := by repeat' (first | refine Zg (ZfJ rfl ?_) ?_ | exact ZfB _ _ _ | exact Zi7 _ _ _ | rfl)) (eq : S.qt = ZoK κ n ch post := by repeat' (first | refine Zg (ZfJ rfl ?_) ?_ | refine ZnA ?_ | exact ZfB _ _ _ | exact Zi7 _ _ _ | rfl)) : S.P P f n :=
 LSpec.callL h κ n ch hκ hnd hlt (Nat.le_of_ble_eq_true hle) (fun j hj => Nat.le_of_ble_eq_true (ZJ hch j hj)) hA hpre hv hpost hk eA ev edn ep eq
section
variable {α : Type} {E : Enc α}
def expL (d : α) (n : Nat) (L : List α) : List α := (List.range n).map fun i => L.getD i d
def Zr (E : Enc α) (n : Nat) (a : List Value) (L : List α) (b : List Value) : List Value := a ++ (Za E (expL E.dflt n L) ++ b)
end
end Ev
end Go.Proofs.YtiijipocjellpaaGreat
