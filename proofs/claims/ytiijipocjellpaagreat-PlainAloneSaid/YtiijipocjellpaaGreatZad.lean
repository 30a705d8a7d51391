/- Part 4. -/
import Derived.Test.YtiijipocjellpaaGreatZac
import Derived.RangeFuncLeaves
import Derived.OrdersIn
import Derived.LoopNIn
import Derived.TacticsIn
import Derived.RangeFuncRecord
import Derived.Laws.Externs
set_option linter.unusedSimpArgs false
set_option linter.unusedVariables false
/- A round's frame: what the runner says of code holds there too. -/
namespace Go.Proofs.YtiijipocjellpaaGreat
open Go.RowKit
namespace Ev
def Zie (o : Oper) : Bool := match o.op with | .defer _ => false | _ => true
def Zd1 : Code → Bool
 | .seq a b => Zd1 a && Zd1 b
 | .cond _ a b => Zd1 a && Zd1 b
 | .block _ a => Zd1 a
 | .loop a => Zd1 a
 | .region _ ops _ => Zq Zie ops.toList
 | .scope _ => false
 | _ => true
abbrev Fr (r : Option Nat) : Fence := { Fence.wide with round := r }
theorem Zjc {o : Oper} (h : Zie o = true) : ∀ c, o.op ≠ .defer c := fun c e => by unfold Zie at h; rw [e] at h; cases h
section
variable {P : Program} {ext : FuncId → Option Ext} {r : Option Nat}
theorem Zv4 {n : Nat} {row : String} {args : Array Value} {w : World} {R : Value → World → Prop} (h : Rows P row args w R) : RowsIn (Fr r) n P row args w R := fun c cs _ => by
 obtain ⟨v, w', q, s⟩ := h c cs
 exact ⟨v, w', q, stepsIn_wide.2 s⟩
theorem Zuw {n f : Nat} {args : Array Value} {w : World} {R : Ending → World → Prop} (h : Calls P f args w R) : CallsIn (Fr r) n P f args w R := (callsIn_wide (n := n)).2 h
theorem Zoj {o : Oper} {a : Act} {w : World} {K : Act → World → Prop} {Q0 Q : Exit → Act → World → Prop} (hq : ∀ e a w, e ≠ .normal → ¬ Q0 e a w) (hnd : ∀ c, o.op ≠ .defer c) (h : o.wp P a w K Q0) : o.wpIn (Fr r) 0 P a w K Q := by
 refine ⟨fun _ _ => trivial, ?_⟩
 rw [Oper.semAt_eq _ _ _ hnd]
 unfold Oper.wp at h
 generalize (execOp a.eval o).run P w = x at h ⊢
 have no : ∀ (e : Exit) (a : Act) (w : World), e ≠ .normal → Q0 e a w → False := fun e a w he hx => hq e a w he hx
 cases x with
 | ok nx w' =>
  cases nx with
  | value v => exact h
  | skip => exact h
  | defer d => exact h
  | enter f args =>
   refine ⟨fun e => (by cases e), Zuw (Calls.mono h ?_)⟩
   intro e w2 h2
   cases e with
   | returned v => exact h2
   | panicked chain => exact (no _ _ _ (by simp) h2).elim
   | outgrown => obtain ⟨a0, w0, h0⟩ := h2; exact (no _ _ _ (by simp) h0).elim
  | row row args => exact ⟨fun e => (by cases e), Zv4 h⟩
  | _ => exact h.elim
 | halt x w' =>
  cases x with
  | panic v => exact (no _ _ _ (by simp) h).elim
  | _ => exact h.elim
def Zs9 (Q : Exit → Act → World → Prop) : Exit → Act → World → Prop := fun e a w => e = .normal ∧ Q .normal a w
theorem Zqh {Q : Exit → Act → World → Prop} : ∀ e a w, e ≠ .normal → ¬ Zs9 Q e a w := fun e a w he h => he h.1
theorem Zok {ops : Array Oper} {Q : Exit → Act → World → Prop} : ∀ (l : List Oper) (a : Act) (w : World), Zq Zie l = true → wpList P ops (Zs9 Q) l a w → wpListIn (Fr r) 0 P ops Q l a w
 | [], a, w, _, h => h.2
 | o :: l, a, w, hn, h => by
  have ho := Zjc (ZE hn o (List.mem_cons_self ..))
  have hl : Zq Zie l = true := Zof fun x hx => ZE hn x (List.mem_cons_of_mem _ hx)
  unfold wpList at h
  unfold wpListIn
  split
  ·rename_i hw
   rw [if_pos hw] at h
   rcases h with h | ⟨_, a0, w0, h0⟩
   ·exact Zoj Zqh ho (Oper.wp_mono (fun a w => Zok l a w hl) h)
   ·cases h0.1
  ·rename_i hw
   rw [if_neg hw] at h
   exact ⟨fun _ _ => trivial, Zok l _ w hl h⟩
theorem Zn6 {ops : Array Oper} {Q : Exit → Act → World → Prop} {md : Region.Mode} (hn : Zq Zie ops.toList = true) : ∀ (fuel : Nat) (listed : Array Bool) (a : Act) (w : World), wpAny P md ops (Zs9 Q) fuel listed a w → wpAnyIn (Fr r) 0 P md ops Q fuel listed a w
 | 0, listed, a, w, h => ⟨h.1, h.2.2⟩
 | fuel + 1, listed, a, w, h => by
  refine ⟨fun e => (h.1 e).2, fun i hi => ?_⟩
  have hi := h.2 i hi
  unfold wpOp at hi
  unfold wpOpIn
  split
  ·rename_i ho
   rw [ho] at hi
   exact Zn6 hn fuel _ a w hi
  ·rename_i o ho
   rw [ho] at hi
   simp only at hi
   have hd := Zjc (ZE hn o (by simpa using Array.mem_of_getElem? ho))
   split
   ·rename_i hw
    rw [if_pos hw] at hi
    rcases hi with hi | ⟨_, a0, w0, h0⟩
    ·exact Zoj Zqh hd (Oper.wp_mono (fun a w => Zn6 hn fuel _ a w) hi)
    ·cases h0.1
   ·rename_i hw
    rw [if_neg hw] at hi
    exact ⟨fun _ _ => trivial, Zn6 hn fuel _ _ w hi⟩
theorem Zho {c : Code} {Q Q' : Exit → Act → World → Prop} (hq : ∀ e a w, Q e a w → Q' e a w) : ∀ (n : Nat) (a : Act) (w : World), Code.roundsIn (Fr r) 0 P c Q n a w → Code.roundsIn (Fr r) 0 P c Q' n a w
 | 0, _, _, h => h
 | n + 1, a, w, h => by
  rw [roundsIn_succ] at h ⊢
  refine wpIn_mono h ?_
  intro e a1 w1 h1
  cases e with
  | normal => exact Zho hq n a1 w1 h1
  | _ => exact hq _ _ _ h1
theorem Zqi (F : Fit P ext) : ∀ fu : Nat,
  (∀ nt c T s e T' s', ZT P ext nt fu c T s = some (e, T', s') → Zd1 c = true → (∀ p ∈ s'.ob, p.1 = p.2) → ∀ ι D a w, TR ι nt D T a → Emb P ι s.h.get w → Fresh ι s.n s'.n → c.wpIn (Fr r) 0 P (Zee P ι s w nt D e T' s') a w) ∧
  (∀ nt c T s e T' s', ZT P ext nt fu (.loop c) T s = some (e, T', s') → Zd1 c = true → (∀ p ∈ s'.ob, p.1 = p.2) → ∀ ι D a w, TR ι nt D T a → Emb P ι s.h.get w → Fresh ι s.n s'.n → Code.roundsIn (Fr r) 0 P c (Zee P ι s w nt D e T' s') fu a w) := by
 intro fu
 induction fu with
 | zero => exact ⟨fun _ _ _ _ _ _ _ h => by simp [ZT] at h, fun _ _ _ _ _ _ _ h => by simp [ZT] at h⟩
 | succ fu ih =>
  obtain ⟨ihC, ihL⟩ := ih
  obtain ⟨upC, upO, upP, upF, upD, upE⟩ := Zb7 (P := P) (ext := ext) (fun f g hg => (F.hp f g hg).up) fu
  have loops : ∀ nt c T s e T' s', ZT P ext nt (fu + 1) (.loop c) T s = some (e, T', s') → Zd1 c = true → (∀ p ∈ s'.ob, p.1 = p.2) → ∀ ι D a w, TR ι nt D T a → Emb P ι s.h.get w → Fresh ι s.n s'.n → Code.roundsIn (Fr r) 0 P c (Zee P ι s w nt D e T' s') (fu + 1) a w := by
   intro nt x T s e T' s' h hn ho ι D a w hT he hf
   simp only [ZT] at h
   rw [roundsIn_succ]
   split at h
   ·rename_i T1 s1 h1
    have u1 := upC _ _ _ _ _ _ _ h1
    have u2 := upC _ _ _ _ _ _ _ h
    refine wpIn_mono (ihC nt x T s .normal T1 s1 h1 hn (Za8 u2.ob ho) ι D a w hT he (hf.mono (Nat.le_refl _) u2.n)) ?_
    rintro ex a1 w1 ⟨rfl, ι1, g1, g2, g3⟩
    refine Zho ?_ fu a1 w1 (ihL nt x T1 s1 e T' s' h hn ho ι1 D a1 w1 g3 g1.emb (hf.after g2 u1.n))
    rintro ex2 a2 w2 ⟨rfl, ι2, k1, k2, k3⟩
    exact ⟨rfl, ι2, g1.trans k1, g2.trans k2 u1.n u2.n, k3⟩
   ·rename_i i T1 s1 h1
    injection h with h; simp only [Prod.mk.injEq] at h; obtain ⟨rfl, rfl, rfl⟩ := h
    refine wpIn_mono (ihC nt x T s _ _ _ h1 hn ho ι D a w hT he hf) ?_
    rintro ex a1 w1 ⟨rfl, hq⟩
    exact ⟨rfl, hq⟩
   ·rename_i T1 s1 h1
    injection h with h; simp only [Prod.mk.injEq] at h; obtain ⟨rfl, rfl, rfl⟩ := h
    refine wpIn_mono (ihC nt x T s _ _ _ h1 hn ho ι D a w hT he hf) ?_
    rintro ex a1 w1 ⟨rfl, hq⟩
    exact ⟨rfl, hq⟩
   ·cases h
  refine ⟨fun nt c T s e T' s' h hn ho ι D a w hT he hf => ?_, loops⟩
  have base : Zee P ι s w nt D .normal T s .normal a w ∧ Zee P ι s w nt D .ret T s .ret a w ∧ ∀ i, Zee P ι s w nt D (.exit i) T s (.exit i) a w :=
   ⟨⟨rfl, ι, Step.refl he, Dom.refl, hT⟩, ⟨rfl, ι, Step.refl he, Dom.refl, hT⟩, fun i => ⟨rfl, ι, Step.refl he, Dom.refl, hT⟩⟩
  have chain : ∀ {s1 : St} {T1 : Tr Value} {c2 : Code} {a1 : Act} {w1 : World} {ι1 : Ren}, Zd1 c2 = true → Up s s1 → Up s1 s' → Step P ι s.h.get w ι1 s1.h.get w1 → Dom ι ι1 s.n s1.n → TR ι1 nt D T1 a1 → ZT P ext nt fu c2 T1 s1 = some (e, T', s') →
    c2.wpIn (Fr r) 0 P (Zee P ι s w nt D e T' s') a1 w1 := fun {s1 T1 c2 a1 w1 ι1} n2 u1 u2 h1 h2 h3 h4 => by
   refine wpIn_mono (ihC nt c2 T1 s1 e T' s' h4 n2 ho ι1 D a1 w1 h3 h1.emb ((hf.mono (Nat.le_refl _) (Nat.le_refl _)).after h2 u1.n)) ?_
   rintro ex a2 w2 ⟨rfl, ι2, g1, g2, g3⟩
   exact ⟨rfl, ι2, (Step.two ⟨h1, h2⟩ ⟨g1, g2⟩ u1.n u2.n).1, (Step.two ⟨h1, h2⟩ ⟨g1, g2⟩ u1.n u2.n).2, g3⟩
  have h0 := h
  cases c <;> simp only [ZT] at h
  case skip => injection h with h; simp only [Prod.mk.injEq] at h; obtain ⟨rfl, rfl, rfl⟩ := h; exact wpIn_skip base.1
  case label l => injection h with h; simp only [Prod.mk.injEq] at h; obtain ⟨rfl, rfl, rfl⟩ := h; exact wpIn_label base.1
  case scope c => cases hn
  case ret => injection h with h; simp only [Prod.mk.injEq] at h; obtain ⟨rfl, rfl, rfl⟩ := h; exact wpIn_ret base.2.1
  case exit id => injection h with h; simp only [Prod.mk.injEq] at h; obtain ⟨rfl, rfl, rfl⟩ := h; exact wpIn_exit (base.2.2 id)
  case seq x y =>
   simp only [Zd1, Bool.and_eq_true] at hn
   split at h
   ·rename_i T1 s1 h1
    have u1 := upC _ _ _ _ _ _ _ h1
    have u2 := upC _ _ _ _ _ _ _ h
    refine wpIn_seq (wpIn_mono (ihC nt x T s .normal T1 s1 h1 hn.1 (Za8 u2.ob ho) ι D a w hT he (hf.mono (Nat.le_refl _) u2.n)) ?_)
    rintro ex a1 w1 ⟨rfl, ι1, g1, g2, g3⟩
    exact chain hn.2 u1 u2 g1 g2 g3 h
   ·rename_i i T1 s1 h1
    injection h with h; simp only [Prod.mk.injEq] at h; obtain ⟨rfl, rfl, rfl⟩ := h
    refine wpIn_seq (wpIn_mono (ihC nt x T s _ _ _ h1 hn.1 ho ι D a w hT he hf) ?_)
    rintro ex a1 w1 ⟨rfl, hq⟩
    exact ⟨rfl, hq⟩
   ·rename_i T1 s1 h1
    injection h with h; simp only [Prod.mk.injEq] at h; obtain ⟨rfl, rfl, rfl⟩ := h
    refine wpIn_seq (wpIn_mono (ihC nt x T s _ _ _ h1 hn.1 ho ι D a w hT he hf) ?_)
    rintro ex a1 w1 ⟨rfl, hq⟩
    exact ⟨rfl, hq⟩
   ·cases h
  case cond x y z =>
   simp only [Zd1, Bool.and_eq_true] at hn
   split at h
   ·rename_i t ht
    have hx : a.eval x = .bool t := Zed ((ht ▸ hT.opnd x : VR ι (.bool t) (Zbq a x)).bool_inv)
    split at h
    ·exact wpIn_cond_true hx (ihC nt y T s e T' s' h hn.1 ho ι D a w hT he hf)
    ·exact wpIn_cond_false hx (ihC nt z T s e T' s' h hn.2 ho ι D a w hT he hf)
   ·cases h
  case block id x =>
   simp only [Zd1] at hn
   split at h
   ·rename_i i T1 s1 h1
    cases hb : Nat.beq i id with
    | true =>
     rw [hb] at h
     injection h with h; simp only [Prod.mk.injEq] at h; obtain ⟨rfl, rfl, rfl⟩ := h
     refine wpIn_block (wpIn_mono (ihC nt x T s _ _ _ h1 hn ho ι D a w hT he hf) ?_)
     rintro ex a1 w1 ⟨rfl, hq⟩
     show if i = id then _ else _
     rw [if_pos (Nat.eq_of_beq_eq_true hb)]
     exact ⟨rfl, hq⟩
    | false =>
     rw [hb] at h
     injection h with h; simp only [Prod.mk.injEq] at h; obtain ⟨rfl, rfl, rfl⟩ := h
     refine wpIn_block (wpIn_mono (ihC nt x T s _ _ _ h1 hn ho ι D a w hT he hf) ?_)
     rintro ex a1 w1 ⟨rfl, hq⟩
     show if i = id then _ else _
     rw [if_neg (fun e => by rw [Zgg e] at hb; cases hb)]
     exact ⟨rfl, hq⟩
   ·rename_i T1 s1 h1
    injection h with h; simp only [Prod.mk.injEq] at h; obtain ⟨rfl, rfl, rfl⟩ := h
    refine wpIn_block (wpIn_mono (ihC nt x T s _ _ _ h1 hn ho ι D a w hT he hf) ?_)
    rintro ex a1 w1 ⟨rfl, hq⟩
    exact ⟨rfl, hq⟩
   ·rename_i T1 s1 h1
    injection h with h; simp only [Prod.mk.injEq] at h; obtain ⟨rfl, rfl, rfl⟩ := h
    refine wpIn_block (wpIn_mono (ihC nt x T s _ _ _ h1 hn ho ι D a w hT he hf) ?_)
    rintro ex a1 w1 ⟨rfl, hq⟩
    exact ⟨rfl, hq⟩
   ·cases h
  case loop x =>
   simp only [Zd1] at hn
   exact wpIn_loop_rounds (fu + 1) (loops nt x T s e T' s' h0 hn ho ι D a w hT he hf)
  case region id ops draw =>
   simp only [Zd1] at hn
   cases draw with
   | true =>
    simp only [cond_true] at h
    split at h
    ·rename_i es T1 s1 h1
     injection h with h; simp only [Prod.mk.injEq] at h; obtain ⟨rfl, rfl, rfl⟩ := h
     exact wpIn_region_any F.mixed (Zn6 hn _ _ _ _ (Zqf F (fun fu' _ => (Zcu F fu').2.2.1) h1 ho hT he hf fun ι' a' w' g1 g2 g3 => ⟨rfl, rfl, ι', g1, g2, g3⟩))
    ·cases h
   | false =>
   simp only [cond_false] at h
   split at h
   ·rename_i T1 s1 h1
    injection h with h; simp only [Prod.mk.injEq] at h; obtain ⟨rfl, rfl, rfl⟩ := h
    exact wpIn_region_list (Zok _ _ _ hn ((Zcu F fu).2.1 nt ops ops.toList T s T1 s1 h1 ho ι D a w _ hT he hf fun ι' a' w' g1 g2 g3 => ⟨rfl, rfl, ι', g1, g2, g3⟩))
   ·cases h
  all_goals cases h
end
noncomputable section
structure Cx where
 nt : Nat
 T : Tr Value
 ps : Array Tmp
 asg : Code
 body : Code
def Zux : List Tmp → List Value → Tr Value → Tr Value
 | t :: ts, v :: vs, T => Zux ts vs (T.set t (some v))
 | _, _, T => T
def isN : Ex → Bool
 | .normal => true
 | _ => false
def pend : Ex → Option Ex
 | .normal => none
 | e => some e
def ZjE (P : Program) (ext : FuncId → Option Ext) (cx : Cx) (fu : Nat) (xs : List Value) (s : St) : Option (Ex × St) :=
 bif Nat.beq xs.length cx.ps.toList.length && Zq (fun t => Nat.blt t cx.nt) cx.ps.toList && Zd1 cx.asg && Zd1 cx.body then
  match ZT P ext cx.nt fu cx.asg (Zux cx.ps.toList xs cx.T) s with
  | some (.normal, T1, s1) => match ZT P ext cx.nt fu cx.body T1 s1 with
   | some (e, _, s2) => some (e, s2)
   | none => none
  | _ => none
 else none
def ZrL (ys : List Tmp) (o : Oper) : Option (Array Operand) :=
 match o.op with
 | .call c => match c.callee with
  | .value (.tmp t) => bif ZhW t ys then some c.args else none
  | _ => none
 | _ => none
def Zn7 (ys : List Tmp) (o : Oper) : Bool :=
 match o.op with
 | .move (.tmp t) => ZhW t ys
 | _ => false
def ZsA (dst : Option Tmp) (ys : List Tmp) : List Tmp := match dst with | some d => ys.filter (fun t => !Nat.beq t d) | none => ys
def addY (dst : Option Tmp) (ys : List Tmp) : List Tmp := match dst with | some d => d :: ys | none => ys
def Zfv (P : Program) (ext : FuncId → Option Ext) (nt : Nat) (cx : Cx) (fu : Nat) (ops : Array Oper) : List Oper → Tr Value → St → List Tmp → Option Ex → Option (Tr Value × St × List Tmp × Option Ex)
 | [], T, s, ys, pe => some (T, s, ys, pe)
 | o :: l, T, s, ys, pe =>
  bif Ze7 nt o.dst && Zq Zdw o.op.operands.toList && (Zie o && o.guard.isNone) then
   match ZrL ys o with
   | some xs => match pe with
    | none => match ZjE P ext cx fu (xs.toList.map (opnd T)) s with
     | some (e, s1) => Zfv P ext nt cx fu ops l (ZdE T o.dst (.bool (isN e))) s1 (ZsA o.dst ys) (pend e)
     | none => none
    | some _ => none
   | none => bif Zn7 ys o then Zfv P ext nt cx fu ops l (ZdE T o.dst (.chan (some 0))) s (addY o.dst ys) pe
    else match ZfE P ext fu (opnd T) o s with
     | some (v, s1) => Zfv P ext nt cx fu ops l (ZdE T o.dst v) s1 (ZsA o.dst ys) pe
     | none => none
  else none
def evI (P : Program) (ext : FuncId → Option Ext) (nt : Nat) (cx : Cx) : Nat → Code → Tr Value → St → List Tmp → Option Ex → Option (Ex × Tr Value × St × List Tmp × Option Ex)
 | 0, _, _, _, _, _ => none
 | fu + 1, c, T, s, ys, pe => match c with
  | .skip => some (.normal, T, s, ys, pe)
  | .ret => some (.ret, T, s, ys, pe)
  | .exit id => some (.exit id, T, s, ys, pe)
  | .seq a b => match evI P ext nt cx fu a T s ys pe with
   | some (.normal, T', s', ys', pe') => evI P ext nt cx fu b T' s' ys' pe'
   | some (.exit i, r) => some (.exit i, r)
   | some (.ret, r) => some (.ret, r)
   | none => none
  | .cond x a b => match opnd T x with
   | .bool t => match t with
    | true => evI P ext nt cx fu a T s ys pe
    | false => evI P ext nt cx fu b T s ys pe
   | _ => none
  | .block id a => match evI P ext nt cx fu a T s ys pe with
   | some (.exit i, r) => bif Nat.beq i id then some (.normal, r) else some (.exit i, r)
   | some (.normal, r) => some (.normal, r)
   | some (.ret, r) => some (.ret, r)
   | none => none
  | .loop a => match evI P ext nt cx fu a T s ys pe with
   | some (.normal, T', s', ys', pe') => evI P ext nt cx fu (.loop a) T' s' ys' pe'
   | some (.exit i, r) => some (.exit i, r)
   | some (.ret, r) => some (.ret, r)
   | none => none
  | .region _ ops draw => match draw with
   | true => none
   | false => match Zfv P ext nt cx fu ops ops.toList T s ys pe with
    | some (T', s', ys', pe') => some (.normal, T', s', ys', pe')
    | none => none
  | _ => none
def Zqj (P : Program) (ext : FuncId → Option Ext) (nt fu : Nat) (g : Operand) (ps : Array Tmp) (asg body : Code) (T : Tr Value) (s : St) : Option (Ex × St) :=
 match opnd T g with
 | .func (.func gf) av bv => match P.funcs[gf]? with
  | some fn => match fn.body with
   | some c => bif Zdw g && Nat.ble (av ++ #[Value.chan (some 0)] ++ bv).size fn.ntmps && Nat.beq fn.results.toList.length 0 then
     match evI P ext fn.ntmps ⟨nt, T, ps, asg, body⟩ fu c (ZcN 0 (av ++ #[Value.chan (some 0)] ++ bv).toList .nil) s [av.size] none with
     | some (.exit _, _) => none
     | some (_, _, s', _, none) => some (.normal, s')
     | some (_, _, s', _, some e) => bif isN e then none else some (e, s')
     | none => none
    else none
   | none => none
  | none => none
 | _ => none
def evR (P : Program) (ext : FuncId → Option Ext) (nt : Nat) : Nat → Code → Tr Value → St → Bool → Option (Ex × Tr Value × St × Bool)
 | 0, _, _, _, _ => none
 | fu + 1, c, T, s, m => match c with
  | .seq a b => match evR P ext nt fu a T s m with
   | some (.normal, T', s', m') => evR P ext nt fu b T' s' m'
   | some (.exit i, r) => some (.exit i, r)
   | some (.ret, r) => some (.ret, r)
   | none => none
  | .cond x a b => match opnd T x with
   | .bool t => match t with
    | true => evR P ext nt fu a T s m
    | false => evR P ext nt fu b T s m
   | _ => none
  | .block id a => match evR P ext nt fu a T s m with
   | some (.exit i, r) => bif Nat.beq i id then some (.normal, r) else some (.exit i, r)
   | some (.normal, r) => some (.normal, r)
   | some (.ret, r) => some (.ret, r)
   | none => none
  | .rangeFunc g ps asg body => bif m then none else match Zqj P ext nt fu g ps asg body T s with
   | some (e, s') => some (e, T, s', true)
   | none => none
  | .region i ops draw => match ZT P ext nt (fu + 1) (.region i ops draw) T s with
   | some (e, T', s') => some (e, T', s', m)
   | none => none
  | .loop a => match ZT P ext nt (fu + 1) (.loop a) T s with
   | some (e, T', s') => some (e, T', s', m)
   | none => none
  | .skip => some (.normal, T, s, m)
  | .ret => some (.ret, T, s, m)
  | .exit id => some (.exit id, T, s, m)
  | _ => none
def ZjF (P : Program) (ext : FuncId → Option Ext) (fu : Nat) (f : FuncId) (args : Array Value) (s : St) : Out :=
 match P.funcs[f]? with
 | some fn => match fn.body with
  | some c => bif Nat.ble args.size fn.ntmps then match evR P ext fn.ntmps fu c (ZcN 0 args.toList .nil) s false with
   | some (.exit _, _) => none
   | some (_, T, s', _) => match Zbu P T s' fn.results.toList with
    | some [v] => some (v, s')
    | some vs => some (.tuple vs.toArray, s')
    | none => none
   | none => none
   else none
  | none => none
 | none => none
end
section
variable {P : Program} {ext : FuncId → Option Ext}
theorem Step.put {ι0 ι : Ren} {h0 h : AH} {w0 W : World} (st : Step P ι0 h0 w0 ι h W) {l : Nat} (hl : w0.heap.size ≤ l) (hn : ∀ k b, ZW (h k) b = true ∨ ZJ k → ι k = some b → b.1 ≠ l) (o : Obj) : Step P ι0 h0 w0 ι h (W.putObj l o) where
 ext := st.ext
 emb := ⟨fun k c t q hk => by
   obtain ⟨b, q1, hz⟩ := st.emb.obj k c t q hk
   exact ⟨b, q1, hz.imp id fun ⟨q0, C, q2, q3⟩ => ⟨q0, C, q2.on (World.putObj_heap_other (hn k b (.inl (by rw [hk]; exact ZbY q0)) q1)), q3⟩⟩,
  fun k O hk => by
   obtain ⟨b, q1, q2⟩ := st.emb.ro k O hk
   exact ⟨b, q1, q2.on (World.putObj_heap_other (hn k b (.inl (by rw [hk]; rfl)) q1))⟩, st.emb.inj, fun k b hk => by
   have := st.emb.lt k b hk
   simpa [World.putObj] using this, fun b base id q hq => by
   obtain ⟨m1, m2, m3⟩ := st.emb.mks b base id q hq
   exact ⟨m1, ⟨m2.1.ext (fun _ _ h => h) (World.putObj_heap_other (by rw [← m1]; exact hn _ q (.inr (Zdb b base id)) hq)), m2.2⟩, m3⟩, st.emb.tb⟩
 os := st.os
 tape := st.tape
 output := st.output
 size := by have := st.size; simpa [World.putObj] using this
 frame := fun b hb hc => (World.putObj_heap_other (by omega)).trans (st.frame b hb hc)
 new := st.new
 alive := st.alive
 kind := st.kind
structure IS (P : Program) (ι0 : Ren) (h0 : AH) (w0 : World) (n0 cn : Nat) (cT : Tr Value) (ac : Act) (l K : Nat) (R : Loop) (ι : Ren) (s : St) (W : World) : Prop where
 st : Step P ι0 h0 w0 ι s.h.get W
 dm : Dom ι0 ι n0 s.n
 hn : n0 ≤ s.n
 tr : TR ι cn [] cT { tmps := ac.tmps, defers := [] }
 lo : W.heap[l]? = some (.loop R)
 de : W.heap[K]? = some (.deferred (some []))
 ll : w0.heap.size ≤ l
 lk : K ≠ l
 nl : ∀ k b, ZW (s.h.get k) b = true ∨ ZJ k → ι k = some b → b.1 ≠ l ∧ b.1 ≠ K
theorem Zkn {ι ι1 : Ren} {h h1 : AH} {W W1 : World} (g : Step P ι h W ι1 h1 W1) {l : Nat} (hl : l < W.heap.size) (hn : ∀ k b, ZW (h k) b = true ∨ ZJ k → ι k = some b → b.1 ≠ l) : (∀ k b, ZW (h1 k) b = true ∨ ZJ k → ι1 k = some b → b.1 ≠ l) ∧ W1.heap[l]? = W.heap[l]? := by
 refine ⟨fun k b hs hk => ?_, g.frame l hl fun k c hc0 hc => hn k c (.inl (ZbY hc0)) hc⟩
 cases hi : ι k with
 | some c =>
  have := g.ext k c hi
  rw [hk] at this
  injection this with this
  subst this
  exact hn k _ (hs.imp (fun h => g.alive k _ h hi) id) hi
 | none =>
  rcases g.new k b hi hk hs with h | ⟨j, c, hj0, hj, e⟩
  ·omega
  ·rw [← e]; exact hn j c (.inl (ZbY hj0)) hj
section
variable {ι0 : Ren} {h0 : AH} {w0 : World} {n0 cn : Nat} {cT : Tr Value} {ac : Act} {l K : Nat} {R : Loop}
theorem IS.step {ι ι1 : Ren} {s s1 : St} {W W1 : World} (I : IS P ι0 h0 w0 n0 cn cT ac l K R ι s W) (g1 : Step P ι s.h.get W ι1 s1.h.get W1) (g2 : Dom ι ι1 s.n s1.n) (hle : s.n ≤ s1.n) : IS P ι0 h0 w0 n0 cn cT ac l K R ι1 s1 W1 := by
 have hl : l < W.heap.size := (Array.getElem?_eq_some_iff.1 I.lo).1
 have hk : K < W.heap.size := (Array.getElem?_eq_some_iff.1 I.de).1
 obtain ⟨a1, a2⟩ := Zkn g1 hl fun k b hs h => (I.nl k b hs h).1
 obtain ⟨b1, b2⟩ := Zkn g1 hk fun k b hs h => (I.nl k b hs h).2
 exact ⟨I.st.trans g1, I.dm.trans g2 I.hn hle, Nat.le_trans I.hn hle, I.tr.on g1.ext, a2.trans I.lo, b2.trans I.de, I.ll, I.lk, fun k b hs h => ⟨a1 k b hs h, b1 k b hs h⟩⟩
theorem IS.put {ι : Ren} {s : St} {W : World} (I : IS P ι0 h0 w0 n0 cn cT ac l K R ι s W) (R' : Loop) : IS P ι0 h0 w0 n0 cn cT ac l K R' ι s (W.putObj l (.loop R')) := by
 have hl : l < W.heap.size := (Array.getElem?_eq_some_iff.1 I.lo).1
 exact ⟨I.st.put I.ll (fun k b hs h => (I.nl k b hs h).1) _, I.dm, I.hn, I.tr, World.putObj_heap_same hl, (World.putObj_heap_other I.lk).trans I.de, I.ll, I.lk, I.nl⟩
end
def Zwh : Ex → Code
 | .exit i => .exit i
 | _ => .ret
def Rp (R : Loop) : Option Ex → Loop
 | none => { R with state := .ready, pending := none }
 | some e => { R with state := .done, pending := some (Zwh e) }
theorem Ztz {ι : Ren} {nt : Nat} : ∀ (ps : List Tmp) (xs xs' : List Value) (T : Tr Value) (t : Array Value), TR ι nt [] T { tmps := t, defers := [] } → xs.length = ps.length → VRs ι xs.toArray xs'.toArray → Zq (fun t => Nat.blt t nt) ps = true →
  TR ι nt [] (Zux ps xs T) { tmps := (ps.zip xs').foldl (fun t p => t.setIfInBounds p.1 p.2) t, defers := [] }
 | [], xs, xs', T, t, hT, hl, hx, hp => by
  cases xs with
  | nil => exact hT
  | cons x xs => simp at hl
 | p :: ps, [], xs', T, t, hT, hl, hx, hp => by simp at hl
 | p :: ps, x :: xs, [], T, t, hT, hl, hx, hp => by have := hx.1; simp at this
 | p :: ps, x :: xs, x' :: xs', T, t, hT, hl, hx, hp => by
  have hp1 : Ze7 nt (some p) = true := ZE hp p (List.mem_cons_self ..)
  have hp2 : Zq (fun t => Nat.blt t nt) ps = true := Zof fun y hy => ZE hp y (List.mem_cons_of_mem _ hy)
  have h1 : VR ι x x' := hx.2 0 x x' (by simp) (by simp)
  have h2 : VRs ι xs.toArray xs'.toArray := ⟨by have := hx.1; simpa using this, fun i y y' hy hy' => hx.2 (i + 1) y y' (by simpa using hy) (by simpa using hy')⟩
  exact Ztz ps xs xs' (T.set p (some x)) (t.setIfInBounds p x') (hT.put (dst := some p) hp1 h1) (by simpa using hl) h2 hp2
section
variable {ι0 : Ren} {h0 : AH} {w0 : World} {n0 : Nat} {ac : Act} {l K : Nat} {R : Loop} {cx : Cx}
theorem Zrl (F : Fit P ext) {fu : Nat} {xs : List Value} {s s' : St} {e : Ex} (h : ZjE P ext cx fu xs s = some (e, s')) (ho : ∀ p ∈ s'.ob, p.1 = p.2) {ι : Ren} {W : World}
  (hR : R.tmps = ac.tmps ∧ R.params = cx.ps ∧ R.assign = cx.asg ∧ R.body = cx.body) (I : IS P ι0 h0 w0 n0 cx.nt cx.T ac l K (Rp R none) ι s W) (hf : Fresh ι s.n s'.n) {xs' : Array Value} (hx : VRs ι xs.toArray xs') :
  ∃ tm, (Instr.yield l xs').run P W = .ok (.round l R.fn tm cx.asg cx.body) W ∧
   RoundIn (Fr none) 0 P l R.fn tm cx.asg cx.body W fun en W' => en = .returned (.bool (isN e)) ∧ ∃ ι', (∀ k b, ι k = some b → ι' k = some b) ∧ Dom ι ι' s.n s'.n ∧ IS P ι0 h0 w0 n0 cx.nt cx.T ac l K (Rp R (pend e)) ι' s' W' := by
 unfold ZjE at h
 obtain ⟨hg, h⟩ := Zl h
 simp only [Bool.and_eq_true] at hg
 obtain ⟨⟨⟨hl, hps⟩, hna⟩, hnb⟩ := hg
 have hl := Nat.eq_of_beq_eq_true hl
 obtain ⟨upC, _⟩ := Zb7 (P := P) (ext := ext) (fun f g hg => (F.hp f g hg).up) fu
 split at h
 ·rename_i T1 s1 h1
  split at h
  ·rename_i e' T2 s2 h2
   injection h with h; injection h with q1 q2; subst q1 q2
   have u1 := upC _ _ _ _ _ _ _ h1
   have u2 := upC _ _ _ _ _ _ _ h2
   have hy := run_yield (P := P) (args := xs') I.lo (by
    show xs'.size = R.params.size
    rw [hR.2.1]
    have a := hx.1
    have b := hl
    simp only [List.size_toArray, Array.length_toList] at a b
    omega)
   have e1 : (Rp R none).tmps = ac.tmps := hR.1
   have e2 : (Rp R none).params = cx.ps := hR.2.1
   have e3 : (Rp R none).assign = cx.asg := hR.2.2.1
   have e4 : (Rp R none).body = cx.body := hR.2.2.2
   have e5 : (Rp R none).fn = R.fn := rfl
   rw [e1, e2, e3, e4, e5] at hy
   refine ⟨_, hy, ?_⟩
   have htr := Ztz cx.ps.toList xs xs'.toList cx.T ac.tmps I.tr hl (by simpa using hx) hps
   have hfold : (cx.ps.zip xs').foldl (fun (tmps : Array Value) (x : Tmp × Value) => match x with | (t, a) => tmps.setIfInBounds t a) ac.tmps = (cx.ps.toList.zip xs'.toList).foldl (fun t p => t.setIfInBounds p.1 p.2) ac.tmps := by
    rw [← Array.foldl_toList, Array.toList_zip]
   rw [hfold]
   refine roundIn_of_wpIn (F := Fr none) trivial ?_
   refine wpIn_mono (((Zqi (r := some l) F fu).1 cx.nt cx.asg _ s .normal T1 s1 h1 hna (Za8 u2.ob ho) ι [] _ W htr I.st.emb (hf.mono (Nat.le_refl _) u2.n)) : Code.wpIn (Fr (some l)) 0 P _ _ _ W) ?_
   rintro ex a1 w1 ⟨rfl, ι1, g1, g2, g3⟩
   have I1 := I.step g1 g2 u1.n
   refine ⟨_, run_beginRound I1.lo rfl, ?_⟩
   have I2 := I1.put { Rp R none with state := .busy }
   refine wpIn_mono (((Zqi (r := some l) F fu).1 cx.nt cx.body T1 s1 e' T2 s2 h2 hnb ho ι1 [] a1 _ g3 I2.st.emb (hf.after g2 u1.n)) : Code.wpIn (Fr (some l)) 0 P _ _ _ _) ?_
   rintro ex a2 w2 ⟨rfl, ι2, k1, k2, k3⟩
   have I3 := I2.step k1 k2 u2.n
   have hext : ∀ k b, ι k = some b → ι2 k = some b := fun k b hk => k1.ext k b (g1.ext k b hk)
   have hdom : Dom ι ι2 s.n s2.n := g2.trans k2 u1.n u2.n
   cases e' with
   | normal => exact ⟨_, _, run_endRound none I3.lo, rfl, ι2, hext, hdom, I3.put _⟩
   | ret => exact ⟨_, _, run_endRound (some .ret) I3.lo, rfl, ι2, hext, hdom, I3.put _⟩
   | exit i => exact ⟨_, _, run_endRound (some (.exit i)) I3.lo, rfl, ι2, hext, hdom, I3.put _⟩
  ·cases h
 ·cases h
end
end
section
variable {P : Program} {ext : FuncId → Option Ext}
theorem Zqk (F : Fit P ext) {cx : Cx} {fu : Nat} {xs : List Value} {s s' : St} {e : Ex} (h : ZjE P ext cx fu xs s = some (e, s')) : Up s s' := by
 unfold ZjE at h
 obtain ⟨_, h⟩ := Zl h
 obtain ⟨upC, _⟩ := Zb7 (P := P) (ext := ext) (fun f g hg => (F.hp f g hg).up) fu
 split at h
 ·rename_i T1 s1 h1
  split at h
  ·rename_i e' T2 s2 h2
   injection h with h; injection h with q1 q2; subst q1 q2
   exact (upC _ _ _ _ _ _ _ h1).trans (upC _ _ _ _ _ _ _ h2)
  ·cases h
 ·cases h
theorem ZhG (F : Fit P ext) {nt : Nat} {cx : Cx} {fu : Nat} {ops : Array Oper} : ∀ (l : List Oper) (T : Tr Value) (s : St) (ys : List Tmp) (pe : Option Ex) (T' : Tr Value) (s' : St) (ys' : List Tmp) (pe' : Option Ex), Zfv P ext nt cx fu ops l T s ys pe = some (T', s', ys', pe') → Up s s'
 | [], T, s, ys, pe, T', s', ys', pe', h => by
  simp only [Zfv] at h
  injection h with h; simp only [Prod.mk.injEq] at h; obtain ⟨rfl, rfl, rfl, rfl⟩ := h
  exact Up.refl _
 | o :: l, T, s, ys, pe, T', s', ys', pe', h => by
  simp only [Zfv] at h
  obtain ⟨_, h⟩ := Zl h
  split at h
  ·split at h
   ·split at h
    ·rename_i e s1 h1
     exact (Zqk F h1).trans (ZhG F l _ _ _ _ _ _ _ _ h)
    ·cases h
   ·cases h
  ·cases hm : Zn7 ys o with
   | true => rw [hm] at h; exact ZhG F l _ _ _ _ _ _ _ _ h
   | false =>
    rw [hm] at h
    simp only [cond_false] at h
    split at h
    ·rename_i v s1 h1
     exact ((Zb7 (P := P) (ext := ext) (fun f g hg => (F.hp f g hg).up) fu).2.2.1 _ _ _ _ _ h1).trans (ZhG F l _ _ _ _ _ _ _ _ h)
    ·cases h
theorem ZdL (F : Fit P ext) {nt : Nat} {cx : Cx} : ∀ (fu : Nat) (c : Code) (T : Tr Value) (s : St) (ys : List Tmp) (pe : Option Ex) (e : Ex) (T' : Tr Value) (s' : St) (ys' : List Tmp) (pe' : Option Ex), evI P ext nt cx fu c T s ys pe = some (e, T', s', ys', pe') → Up s s'
 | 0, _, _, _, _, _, _, _, _, _, _, h => by simp [evI] at h
 | fu + 1, c, T, s, ys, pe, e, T', s', ys', pe', h => by
  cases c <;> simp only [evI] at h
  case skip => injection h with h; simp only [Prod.mk.injEq] at h; obtain ⟨rfl, rfl, rfl, rfl, rfl⟩ := h; exact Up.refl _
  case ret => injection h with h; simp only [Prod.mk.injEq] at h; obtain ⟨rfl, rfl, rfl, rfl, rfl⟩ := h; exact Up.refl _
  case exit id => injection h with h; simp only [Prod.mk.injEq] at h; obtain ⟨rfl, rfl, rfl, rfl, rfl⟩ := h; exact Up.refl _
  case seq x y =>
   split at h
   ·rename_i T1 s1 ys1 pe1 h1; exact (ZdL F fu _ _ _ _ _ _ _ _ _ _ h1).trans (ZdL F fu _ _ _ _ _ _ _ _ _ _ h)
   ·rename_i i r h1; injection h with h; simp only [Prod.mk.injEq] at h; obtain ⟨rfl, rfl⟩ := h; exact ZdL F fu _ _ _ _ _ _ _ _ _ _ h1
   ·rename_i r h1; injection h with h; simp only [Prod.mk.injEq] at h; obtain ⟨rfl, rfl⟩ := h; exact ZdL F fu _ _ _ _ _ _ _ _ _ _ h1
   ·cases h
  case cond x y z =>
   split at h
   ·split at h
    ·exact ZdL F fu _ _ _ _ _ _ _ _ _ _ h
    ·exact ZdL F fu _ _ _ _ _ _ _ _ _ _ h
   ·cases h
  case block id x =>
   split at h
   ·rename_i i r h1
    cases hb : Nat.beq i id with
    | true => rw [hb] at h; injection h with h; simp only [Prod.mk.injEq] at h; obtain ⟨rfl, rfl⟩ := h; exact ZdL F fu _ _ _ _ _ _ _ _ _ _ h1
    | false => rw [hb] at h; injection h with h; simp only [Prod.mk.injEq] at h; obtain ⟨rfl, rfl⟩ := h; exact ZdL F fu _ _ _ _ _ _ _ _ _ _ h1
   ·rename_i r h1; injection h with h; simp only [Prod.mk.injEq] at h; obtain ⟨rfl, rfl⟩ := h; exact ZdL F fu _ _ _ _ _ _ _ _ _ _ h1
   ·rename_i r h1; injection h with h; simp only [Prod.mk.injEq] at h; obtain ⟨rfl, rfl⟩ := h; exact ZdL F fu _ _ _ _ _ _ _ _ _ _ h1
   ·cases h
  case loop x =>
   split at h
   ·rename_i T1 s1 ys1 pe1 h1; exact (ZdL F fu _ _ _ _ _ _ _ _ _ _ h1).trans (ZdL F fu _ _ _ _ _ _ _ _ _ _ h)
   ·rename_i i r h1; injection h with h; simp only [Prod.mk.injEq] at h; obtain ⟨rfl, rfl⟩ := h; exact ZdL F fu _ _ _ _ _ _ _ _ _ _ h1
   ·rename_i r h1; injection h with h; simp only [Prod.mk.injEq] at h; obtain ⟨rfl, rfl⟩ := h; exact ZdL F fu _ _ _ _ _ _ _ _ _ _ h1
   ·cases h
  case region id ops draw =>
   split at h
   ·cases h
   ·split at h
    ·rename_i T1 s1 ys1 pe1 h1
     injection h with h; simp only [Prod.mk.injEq] at h; obtain ⟨rfl, rfl, rfl, rfl, rfl⟩ := h
     exact ZhG F _ _ _ _ _ _ _ _ _ h1
    ·cases h
  all_goals cases h
def YS (l : Nat) (ys : List Tmp) (a : Act) : Prop := ∀ t ∈ ys, a.tmps.getD t undef = .func (.yield l) #[] #[]
theorem YS.drop {l : Nat} {ys : List Tmp} {a : Act} {nt : Nat} (h : YS l ys a) (hs : a.tmps.size = nt) {dst : Option Tmp} (hd : Ze7 nt dst = true) (v : Value) : YS l (ZsA dst ys) (a.put dst v) := fun t ht => by
 rw [ZmO hs hd]
 cases dst with
 | none => rw [if_neg (by simp)]; exact h t ht
 | some d =>
  have ht : t ∈ ys.filter (fun t => !Nat.beq t d) := ht
  obtain ⟨h1, h2⟩ := List.mem_filter.1 ht
  have : ¬ d = t := fun e => by subst e; simp at h2
  rw [if_neg (by simpa using this)]
  exact h t h1
theorem YS.add {l : Nat} {ys : List Tmp} {a : Act} {nt : Nat} (h : YS l ys a) (hs : a.tmps.size = nt) {dst : Option Tmp} (hd : Ze7 nt dst = true) : YS l (addY dst ys) (a.put dst (.func (.yield l) #[] #[])) := fun t ht => by
 rw [ZmO hs hd]
 split
 ·rfl
 ·rename_i hne
  cases dst with
  | none => exact h t ht
  | some d =>
   rcases List.mem_cons.1 (show t ∈ d :: ys from ht) with rfl | ht
   ·exact absurd rfl hne
   ·exact h t ht
section
variable {ι0 : Ren} {h0 : AH} {w0 : World} {n0 : Nat} {ac : Act} {l0 K : Nat} {R : Loop} {cx : Cx}
theorem Zh7 (F : Fit P ext) (hR : R.tmps = ac.tmps ∧ R.params = cx.ps ∧ R.assign = cx.asg ∧ R.body = cx.body) {nt fu : Nat} {ops : Array Oper} : ∀ (l : List Oper) (T : Tr Value) (s : St) (ys : List Tmp) (pe : Option Ex) (T' : Tr Value) (s' : St) (ys' : List Tmp) (pe' : Option Ex), Zfv P ext nt cx fu ops l T s ys pe = some (T', s', ys', pe') → (∀ p ∈ s'.ob, p.1 = p.2) →
  ∀ ι a W (Q : Exit → Act → World → Prop), TR ι nt [] T a → YS l0 ys a → IS P ι0 h0 w0 n0 cx.nt cx.T ac l0 K (Rp R pe) ι s W → Fresh ι s.n s'.n →
   (∀ ι' a' W', TR ι' nt [] T' a' → YS l0 ys' a' → IS P ι0 h0 w0 n0 cx.nt cx.T ac l0 K (Rp R pe') ι' s' W' → Dom ι ι' s.n s'.n → Q .normal a' W') → wpListIn (Fr none) 0 P ops Q l a W
 | [], T, s, ys, pe, T', s', ys', pe', h, ho, ι, a, W, Q, hT, hY, I, hf, hQ => by
  simp only [Zfv] at h
  injection h with h; simp only [Prod.mk.injEq] at h; obtain ⟨rfl, rfl, rfl, rfl⟩ := h
  exact hQ ι a W hT hY I Dom.refl
 | o :: l, T, s, ys, pe, T', s', ys', pe', h, ho, ι, a, W, Q, hT, hY, I, hf, hQ => by
  simp only [Zfv] at h
  obtain ⟨hg, h⟩ := Zl h
  simp only [Bool.and_eq_true] at hg
  obtain ⟨⟨hd, hgo⟩, hnd, hgu⟩ := hg
  have hnd := Zjc hnd
  have hgu : o.guard = none := by simpa using hgu
  have hwant : Region.wanted o (yielded ops a.tmps) = true := (ZdI (ops := ops) (s := s) (s' := s) (b := true) (fun t _ => hT.2.2 t) (by simp [Zev, hgu])).1
  unfold wpListIn
  rw [if_pos hwant]
  split at h
  ·rename_i xs hy
   have hy : ∃ c t, o.op = .call c ∧ c.callee = .value (.tmp t) ∧ t ∈ ys ∧ c.args = xs := by
    unfold ZrL at hy
    split at hy
    ·rename_i c hop
     split at hy
     ·rename_i t hc
      obtain ⟨hm, hy⟩ := Zl hy
      injection hy with hy
      exact ⟨c, t, hop, hc, ZeJ.1 hm, hy⟩
     ·cases hy
    ·cases hy
   obtain ⟨c, t, hop, hc, ht, rfl⟩ := hy
   split at h
   ·split at h
    ·rename_i e s1 h1
     have u1 := Zqk F h1
     have u2 := ZhG F _ _ _ _ _ _ _ _ _ h
     have hx : VRs ι (c.args.toList.map (opnd T)).toArray (c.args.map (Zbq a)) := by
      have := ZjB hT.opnd c.args
      rwa [show (c.args.toList.map (opnd T)).toArray = c.args.map (opnd T) by rw [← Array.toList_map]]
     obtain ⟨tm, hrun, hround⟩ := Zrl F h1 (Za8 u2.ob ho) hR I (hf.mono (Nat.le_refl _) u2.n) hx
     have hex : (execOp a.eval o).run P W = .ok (.round l0 R.fn tm cx.asg cx.body) W := by
      rw [← ZfO (fun cs b e => by rw [hop] at e; cases e) hgo, ← hrun]
      have hv : Zbq a (.tmp t) = .func (.yield l0) #[] #[] := hY t ht
      simp [execOp, hop, resolve, hc, hv, Deferred.ofValue, invoke, Result.andThen, Sem.run]
     refine ⟨fun _ _ => trivial, ?_⟩
     rw [show (Fr none).round = none from rfl, Oper.semAt_none, hex, Oper.uponIn_round]
     refine ⟨fun e => (by cases e), hround.mono ?_⟩
     rintro en W' ⟨rfl, ι', hext, hdom, I'⟩
     refine Zh7 F hR l _ s1 _ _ T' s' ys' pe' h ho ι' _ W' Q ((hT.on hext).put hd (VR.of_free rfl)) (hY.drop hT.1 hd _) I' (hf.after hdom u1.n) fun ι2 a2 W2 k1 k2 k3 k4 => hQ ι2 a2 W2 k1 k2 k3 (hdom.trans k4 u1.n u2.n)
    ·cases h
   ·cases h
  ·cases hm : Zn7 ys o with
   | true =>
    rw [hm] at h
    simp only [cond_true] at h
    have hm : ∃ t, o.op = .move (.tmp t) ∧ t ∈ ys := by
     unfold Zn7 at hm
     split at hm
     ·rename_i t hop; exact ⟨t, hop, ZeJ.1 hm⟩
     ·cases hm
    obtain ⟨t, hop, ht⟩ := hm
    have hv : a.eval (.tmp t) = .func (.yield l0) #[] #[] := hY t ht
    refine ⟨fun _ _ => trivial, ?_⟩
    rw [show (Fr none).round = none from rfl, Oper.semAt_none]
    have hex : (execOp a.eval o).run P W = .ok (.value (.func (.yield l0) #[] #[])) W := by
     unfold execOp; rw [hop]; simp only; rw [hv]; rfl
    rw [hex, Oper.uponIn_value]
    exact Zh7 F hR l _ s _ pe T' s' ys' pe' h ho ι _ W Q (hT.put hd (VR.glob rfl)) (hY.add hT.1 hd) I hf hQ
   | false =>
    rw [hm] at h
    simp only [cond_false] at h
    split at h
    ·rename_i v s1 hv
     have u1 := (Zb7 (P := P) (ext := ext) (fun f g hg => (F.hp f g hg).up) fu).2.2.1 _ _ _ _ _ hv
     have u2 := ZhG F _ _ _ _ _ _ _ _ _ h
     refine Zoj (r := none) (Q0 := fun _ _ _ => False) (fun _ _ _ _ h => h) hnd ((Zcu F fu).2.2.1 (opnd T) (Zbq a) o s v s1 hv (Za8 u2.ob ho) ι W hT.opnd I.st.emb (hf.mono (Nat.le_refl _) u2.n) a _ _ (ZfO (Zkj hv) hgo).symm fun v' w' ι' g1 g2 g3 => ?_)
     exact Zh7 F hR l _ s1 _ pe T' s' ys' pe' h ho ι' _ w' Q ((hT.on g1.ext).put hd g3) (hY.drop hT.1 hd _) (I.step g1 g2 u1.n) (hf.after g2 u1.n) fun ι2 a2 W2 k1 k2 k3 k4 => hQ ι2 a2 W2 k1 k2 k3 (g2.trans k4 u1.n u2.n)
    ·cases h
end
end
section
variable {P : Program} {ext : FuncId → Option Ext}
section
variable {ι0 : Ren} {h0 : AH} {w0 : World} {n0 : Nat} {ac : Act} {l0 K : Nat} {R : Loop} {cx : Cx}
def Zn8 (P : Program) (ι0 : Ren) (h0 : AH) (w0 : World) (n0 : Nat) (cx : Cx) (ac : Act) (l0 K : Nat) (R : Loop) (nt : Nat) (ι : Ren) (s : St) (e : Ex) (T' : Tr Value) (s' : St) (ys' : List Tmp) (pe' : Option Ex) (ex : Exit) (a' : Act) (W' : World) : Prop :=
 ex = e.out ∧ ∃ ι', TR ι' nt [] T' a' ∧ YS l0 ys' a' ∧ IS P ι0 h0 w0 n0 cx.nt cx.T ac l0 K (Rp R pe') ι' s' W' ∧ Dom ι ι' s.n s'.n
theorem Zol (F : Fit P ext) (hR : R.tmps = ac.tmps ∧ R.params = cx.ps ∧ R.assign = cx.asg ∧ R.body = cx.body) {nt : Nat} : ∀ fu : Nat,
  (∀ c T s ys pe e T' s' ys' pe', evI P ext nt cx fu c T s ys pe = some (e, T', s', ys', pe') → (∀ p ∈ s'.ob, p.1 = p.2) → ∀ ι a W, TR ι nt [] T a → YS l0 ys a → IS P ι0 h0 w0 n0 cx.nt cx.T ac l0 K (Rp R pe) ι s W → Fresh ι s.n s'.n →
   c.wpIn (Fr none) 0 P (Zn8 P ι0 h0 w0 n0 cx ac l0 K R nt ι s e T' s' ys' pe') a W) ∧
  (∀ c T s ys pe e T' s' ys' pe', evI P ext nt cx fu (.loop c) T s ys pe = some (e, T', s', ys', pe') → (∀ p ∈ s'.ob, p.1 = p.2) → ∀ ι a W, TR ι nt [] T a → YS l0 ys a → IS P ι0 h0 w0 n0 cx.nt cx.T ac l0 K (Rp R pe) ι s W → Fresh ι s.n s'.n →
   Code.roundsIn (Fr none) 0 P c (Zn8 P ι0 h0 w0 n0 cx ac l0 K R nt ι s e T' s' ys' pe') fu a W) := by
 intro fu
 induction fu with
 | zero => exact ⟨fun _ _ _ _ _ _ _ _ _ _ h => by simp [evI] at h, fun _ _ _ _ _ _ _ _ _ _ h => by simp [evI] at h⟩
 | succ fu ih =>
  obtain ⟨ihC, ihL⟩ := ih
  have two : ∀ {ι ι1 : Ren} {s s1 s' : St} {e : Ex} {T' : Tr Value} {ys' : List Tmp} {pe' : Option Ex}, Dom ι ι1 s.n s1.n → s.n ≤ s1.n → s1.n ≤ s'.n → ∀ ex a W, Zn8 P ι0 h0 w0 n0 cx ac l0 K R nt ι1 s1 e T' s' ys' pe' ex a W → Zn8 P ι0 h0 w0 n0 cx ac l0 K R nt ι s e T' s' ys' pe' ex a W :=
   fun hd h1 h2 ex a W ⟨hx, ι', k1, k2, k3, k4⟩ => ⟨hx, ι', k1, k2, k3, hd.trans k4 h1 h2⟩
  have loops : ∀ c T s ys pe e T' s' ys' pe', evI P ext nt cx (fu + 1) (.loop c) T s ys pe = some (e, T', s', ys', pe') → (∀ p ∈ s'.ob, p.1 = p.2) → ∀ ι a W, TR ι nt [] T a → YS l0 ys a → IS P ι0 h0 w0 n0 cx.nt cx.T ac l0 K (Rp R pe) ι s W → Fresh ι s.n s'.n →
    Code.roundsIn (Fr none) 0 P c (Zn8 P ι0 h0 w0 n0 cx ac l0 K R nt ι s e T' s' ys' pe') (fu + 1) a W := by
   intro x T s ys pe e T' s' ys' pe' h ho ι a W hT hY I hf
   simp only [evI] at h
   rw [roundsIn_succ]
   split at h
   ·rename_i T1 s1 ys1 pe1 h1
    have u1 := ZdL F fu _ _ _ _ _ _ _ _ _ _ h1
    have u2 := ZdL F fu _ _ _ _ _ _ _ _ _ _ h
    refine wpIn_mono (ihC x T s ys pe .normal T1 s1 ys1 pe1 h1 (Za8 u2.ob ho) ι a W hT hY I (hf.mono (Nat.le_refl _) u2.n)) ?_
    rintro ex a1 w1 ⟨rfl, ι1, g1, g2, g3, g4⟩
    exact Zho (two g4 u1.n u2.n) fu a1 w1 (ihL x T1 s1 ys1 pe1 e T' s' ys' pe' h ho ι1 a1 w1 g1 g2 g3 (hf.after g4 u1.n))
   ·rename_i i r h1
    injection h with h; simp only [Prod.mk.injEq] at h; obtain ⟨rfl, rfl⟩ := h
    refine wpIn_mono (ihC x T s ys pe _ _ _ _ _ h1 ho ι a W hT hY I hf) ?_
    rintro ex a1 w1 ⟨rfl, hq⟩
    exact ⟨rfl, hq⟩
   ·rename_i r h1
    injection h with h; simp only [Prod.mk.injEq] at h; obtain ⟨rfl, rfl⟩ := h
    refine wpIn_mono (ihC x T s ys pe _ _ _ _ _ h1 ho ι a W hT hY I hf) ?_
    rintro ex a1 w1 ⟨rfl, hq⟩
    exact ⟨rfl, hq⟩
   ·cases h
  refine ⟨fun c T s ys pe e T' s' ys' pe' h ho ι a W hT hY I hf => ?_, loops⟩
  have h0' := h
  cases c <;> simp only [evI] at h
  case skip => injection h with h; simp only [Prod.mk.injEq] at h; obtain ⟨rfl, rfl, rfl, rfl, rfl⟩ := h; exact wpIn_skip ⟨rfl, ι, hT, hY, I, Dom.refl⟩
  case ret => injection h with h; simp only [Prod.mk.injEq] at h; obtain ⟨rfl, rfl, rfl, rfl, rfl⟩ := h; exact wpIn_ret ⟨rfl, ι, hT, hY, I, Dom.refl⟩
  case exit id => injection h with h; simp only [Prod.mk.injEq] at h; obtain ⟨rfl, rfl, rfl, rfl, rfl⟩ := h; exact wpIn_exit ⟨rfl, ι, hT, hY, I, Dom.refl⟩
  case seq x y =>
   split at h
   ·rename_i T1 s1 ys1 pe1 h1
    have u1 := ZdL F fu _ _ _ _ _ _ _ _ _ _ h1
    have u2 := ZdL F fu _ _ _ _ _ _ _ _ _ _ h
    refine wpIn_seq (wpIn_mono (ihC x T s ys pe .normal T1 s1 ys1 pe1 h1 (Za8 u2.ob ho) ι a W hT hY I (hf.mono (Nat.le_refl _) u2.n)) ?_)
    rintro ex a1 w1 ⟨rfl, ι1, g1, g2, g3, g4⟩
    exact wpIn_mono (ihC y T1 s1 ys1 pe1 e T' s' ys' pe' h ho ι1 a1 w1 g1 g2 g3 (hf.after g4 u1.n)) (two g4 u1.n u2.n)
   ·rename_i i r h1
    injection h with h; simp only [Prod.mk.injEq] at h; obtain ⟨rfl, rfl⟩ := h
    refine wpIn_seq (wpIn_mono (ihC x T s ys pe _ _ _ _ _ h1 ho ι a W hT hY I hf) ?_)
    rintro ex a1 w1 ⟨rfl, hq⟩
    exact ⟨rfl, hq⟩
   ·rename_i r h1
    injection h with h; simp only [Prod.mk.injEq] at h; obtain ⟨rfl, rfl⟩ := h
    refine wpIn_seq (wpIn_mono (ihC x T s ys pe _ _ _ _ _ h1 ho ι a W hT hY I hf) ?_)
    rintro ex a1 w1 ⟨rfl, hq⟩
    exact ⟨rfl, hq⟩
   ·cases h
  case cond x y z =>
   split at h
   ·rename_i t ht
    have hx : a.eval x = .bool t := Zed ((ht ▸ hT.opnd x : VR ι (.bool t) (Zbq a x)).bool_inv)
    split at h
    ·exact wpIn_cond_true hx (ihC y T s ys pe e T' s' ys' pe' h ho ι a W hT hY I hf)
    ·exact wpIn_cond_false hx (ihC z T s ys pe e T' s' ys' pe' h ho ι a W hT hY I hf)
   ·cases h
  case block id x =>
   split at h
   ·rename_i i r h1
    cases hb : Nat.beq i id with
    | true =>
     rw [hb] at h
     injection h with h; simp only [Prod.mk.injEq] at h; obtain ⟨rfl, rfl⟩ := h
     refine wpIn_block (wpIn_mono (ihC x T s ys pe _ _ _ _ _ h1 ho ι a W hT hY I hf) ?_)
     rintro ex a1 w1 ⟨rfl, hq⟩
     show if i = id then _ else _
     rw [if_pos (Nat.eq_of_beq_eq_true hb)]
     exact ⟨rfl, hq⟩
    | false =>
     rw [hb] at h
     injection h with h; simp only [Prod.mk.injEq] at h; obtain ⟨rfl, rfl⟩ := h
     refine wpIn_block (wpIn_mono (ihC x T s ys pe _ _ _ _ _ h1 ho ι a W hT hY I hf) ?_)
     rintro ex a1 w1 ⟨rfl, hq⟩
     show if i = id then _ else _
     rw [if_neg (fun e => by rw [Zgg e] at hb; cases hb)]
     exact ⟨rfl, hq⟩
   ·rename_i r h1
    injection h with h; simp only [Prod.mk.injEq] at h; obtain ⟨rfl, rfl⟩ := h
    refine wpIn_block (wpIn_mono (ihC x T s ys pe _ _ _ _ _ h1 ho ι a W hT hY I hf) ?_)
    rintro ex a1 w1 ⟨rfl, hq⟩
    exact ⟨rfl, hq⟩
   ·rename_i r h1
    injection h with h; simp only [Prod.mk.injEq] at h; obtain ⟨rfl, rfl⟩ := h
    refine wpIn_block (wpIn_mono (ihC x T s ys pe _ _ _ _ _ h1 ho ι a W hT hY I hf) ?_)
    rintro ex a1 w1 ⟨rfl, hq⟩
    exact ⟨rfl, hq⟩
   ·cases h
  case loop x => exact wpIn_loop_rounds (fu + 1) (loops x T s ys pe e T' s' ys' pe' h0' ho ι a W hT hY I hf)
  case region id ops draw =>
   split at h
   ·cases h
   ·split at h
    ·rename_i T1 s1 ys1 pe1 h1
     injection h with h; simp only [Prod.mk.injEq] at h; obtain ⟨rfl, rfl, rfl, rfl, rfl⟩ := h
     exact wpIn_region_list (Zh7 F hR ops.toList T s ys pe T1 s1 ys1 pe1 h1 ho ι a W _ hT hY I hf fun ι' a' W' k1 k2 k3 k4 => ⟨rfl, ι', k1, k2, k3, k4⟩)
    ·cases h
  all_goals cases h
end
def Mk (b : Nat) (m : Bool) (D : List Deferred) (ι : Ren) (h : AH) (w : World) : Prop := match m with
 | false => D = []
 | true => ∃ K, b ≤ K ∧ D = [{ target := .collected K, args := #[] }] ∧ w.heap[K]? = some (.deferred (some [])) ∧ ∀ k b, ZW (h k) b = true ∨ ZJ k → ι k = some b → b.1 ≠ K
theorem Mk.step {b : Nat} {m : Bool} {D : List Deferred} {ι ι1 : Ren} {h h1 : AH} {w w1 : World} (hm : Mk b m D ι h w) (g : Step P ι h w ι1 h1 w1) : Mk b m D ι1 h1 w1 := by
 cases m with
 | false => exact hm
 | true =>
  obtain ⟨K, hb, e, hk, hn⟩ := hm
  obtain ⟨a1, a2⟩ := Zkn g (Array.getElem?_eq_some_iff.1 hk).1 hn
  exact ⟨K, hb, e, a2.trans hk, a1⟩
def Zko (b : Nat) (P : Program) (ι : Ren) (s : St) (w : World) (nt : Nat) (e : Ex) (T' : Tr Value) (s' : St) (m' : Bool) (ex : Exit) (a' : Act) (w' : World) : Prop :=
 ex = e.out ∧ ∃ ι' D', Step P ι s.h.get w ι' s'.h.get w' ∧ Dom ι ι' s.n s'.n ∧ TR ι' nt D' T' a' ∧ Mk b m' D' ι' s'.h.get w'
theorem up_rf (F : Fit P ext) {nt fu : Nat} {g : Operand} {ps : Array Tmp} {asg body : Code} {T : Tr Value} {s s' : St} {e : Ex} (h : Zqj P ext nt fu g ps asg body T s = some (e, s')) : Up s s' := by
 unfold Zqj at h
 split at h
 ·split at h
  ·split at h
   ·obtain ⟨_, h⟩ := Zl h
    split at h
    ·cases h
    ·rename_i h1; injection h with h; injection h with q1 q2; subst q2; exact ZdL F _ _ _ _ _ _ _ _ _ _ _ h1
    ·rename_i h1; obtain ⟨_, h⟩ := Zkh h; injection h with h; injection h with q1 q2; subst q2; exact ZdL F _ _ _ _ _ _ _ _ _ _ _ h1
    ·cases h
   ·cases h
  ·cases h
 ·cases h
theorem Zuy (F : Fit P ext) {nt fu : Nat} {g : Operand} {ps : Array Tmp} {asg body : Code} {T : Tr Value} {s s' : St} {e : Ex} (h : Zqj P ext nt fu g ps asg body T s = some (e, s')) (ho : ∀ p ∈ s'.ob, p.1 = p.2) {b : Nat} {ι : Ren} {a : Act} {w : World} (hbw : b ≤ w.heap.size)
  (hT : TR ι nt [] T a) (he : Emb P ι s.h.get w) (hf : Fresh ι s.n s'.n) : (Code.rangeFunc g ps asg body).wpIn (Fr none) 0 P (Zko b P ι s w nt e T s' true) a w := by
 unfold Zqj at h
 split at h
 ·rename_i gf av bv hg
  split at h
  ·rename_i fn hfn
   split at h
   ·rename_i c hb
    obtain ⟨hgd, h⟩ := Zl h
    simp only [Bool.and_eq_true] at hgd
    obtain ⟨⟨hgd, hsz⟩, hres⟩ := hgd
    have hsz := Nat.le_of_ble_eq_true hsz
    have hres := Nat.eq_of_beq_eq_true hres
    have key : ∃ e0 T1 ys1 pe, evI P ext fn.ntmps ⟨nt, T, ps, asg, body⟩ fu c (ZcN 0 (av ++ #[Value.chan (some 0)] ++ bv).toList .nil) s [av.size] none = some (e0, T1, s', ys1, pe) ∧ (e0 = .normal ∨ e0 = .ret) ∧ e = (match pe with | none => .normal | some e => e) ∧ (∀ e1, pe = some e1 → isN e1 = false) := by
     split at h
     ·cases h
     ·rename_i e0 T1 s1 ys1 hne h1
      injection h with h; injection h with q1 q2; subst q1 q2
      refine ⟨e0, T1, ys1, none, h1, ?_, rfl, fun e1 he => by cases he⟩
      cases e0 with
      | normal => exact .inl rfl
      | ret => exact .inr rfl
      | exit i => exact (hne i rfl).elim
     ·rename_i e0 T1 s1 ys1 e1 hne h1
      obtain ⟨hn1, h⟩ := Zkh h
      injection h with h; injection h with q1 q2; subst q1 q2
      refine ⟨e0, T1, ys1, some e1, h1, ?_, rfl, fun e2 he => by injection he with he; rw [← he]; exact hn1⟩
      cases e0 with
      | normal => exact .inl rfl
      | ret => exact .inr rfl
      | exit i => exact (hne i rfl).elim
     ·cases h
    obtain ⟨e0, T1, ys1, pe, h1, he0, hepe, hnn⟩ := key
    have hgv : ∃ av' bv', Zbq a g = .func (.func gf) av' bv' ∧ VRs ι av av' ∧ VRs ι bv bv' := by
     have hv := hg ▸ hT.opnd g
     generalize Zbq a g = x' at hv
     cases hv with
     | atom h =>
      simp [Ev.atom] at h
      obtain ⟨rfl, rfl⟩ := h
      exact ⟨_, _, rfl, ⟨rfl, fun i x y hx => by simp at hx⟩, ⟨rfl, fun i x y hx => by simp at hx⟩⟩
     | func hs ht h1 h2 => exact ⟨_, _, rfl, ⟨hs, h1⟩, ⟨ht, h2⟩⟩
    obtain ⟨av', bv', hgv, hav, hbv⟩ := hgv
    have hgv : a.eval g = .func (.func gf) av' bv' := by
     cases g with
     | const v => simp only [Zdw] at hgd; simpa [Zbq, hgd, Act.eval] using hgv
     | _ => exact hgv
    refine wpIn_rangeFunc ?_
    intro fn0 _
    obtain ⟨R, hRd⟩ : ∃ R : Loop, R = { state := .ready, pending := none, fn := fn0, tmps := a.tmps, params := ps, assign := asg, body, defers := w.heap.size } := ⟨_, rfl⟩
    obtain ⟨W1, hW1⟩ : ∃ W1, (w.alloc (.deferred (some []))).alloc (.loop R) = W1 := ⟨_, rfl⟩
    have hL1 : W1.heap[w.heap.size + 1]? = some (.loop (Rp R none)) := by
     rw [show Rp R none = R by rw [hRd]; rfl]
     rw [← hW1]; have := World.alloc_heap_new (w.alloc (.deferred (some []))) (.loop R); rwa [World.size_alloc] at this
    have hK1 : W1.heap[w.heap.size]? = some (.deferred (some [])) := by
     rw [← hW1]; exact (Below.heap_alloc _ _ _ (by simp)).trans (World.alloc_heap_new w _)
    have hb1 : Below w.heap.size w W1 := by
     rw [← hW1]; exact ((Below.refl _ w).alloc (Nat.le_refl _) _).alloc (by simp) _
    have I1 : IS P ι s.h.get w s.n nt T a (w.heap.size + 1) w.heap.size (Rp R none) ι s W1 :=
     ⟨Step.below he hb1, Dom.refl, Nat.le_refl _, ⟨hT.1, rfl, hT.2.2⟩, hL1, hK1, by omega, by omega, fun k b _ hk => by have := he.lt k b hk; omega⟩
    have hargs : VRs ι (av ++ #[Value.chan (some 0)] ++ bv) (av' ++ #[Value.func (.yield (w.heap.size + 1)) #[] #[]] ++ bv') :=
     Zef (Zef hav ⟨rfl, fun i x y hx hy => by
      cases i with
      | zero => simp at hx hy; rw [← hx, ← hy]; exact .glob rfl
      | succ i => simp at hx⟩) hbv
    refine ⟨w.heap.size + 1, [{ target := .collected w.heap.size, args := #[] }], W1, { target := .fn (.func gf) bv', args := av' ++ #[.func (.yield (w.heap.size + 1)) #[] #[]] }, W1, gf,
     av' ++ #[.func (.yield (w.heap.size + 1)) #[] #[]] ++ bv', W1, ?_, ?_, fun _ _ => trivial, ?_, fun e => (by cases e), ?_⟩
    ·rw [← hW1, hRd]; exact run_enterLoop_outer _ _ _ _ _
    ·simp only [resolve, hgv]
     simp [go_sem, Deferred.ofValue]
    ·simp [invoke, Zcb hfn (F.go gf fn hfn) hb]
    ·refine callsIn_of_wp_marks hfn hb trivial ?_
     refine wpIn_mono ((Zol (R := R) (cx := ⟨nt, T, ps, asg, body⟩) (ac := a) F ⟨by rw [hRd], by rw [hRd], by rw [hRd], by rw [hRd]⟩ fu).1 c _ s _ none e0 T1 s' ys1 pe h1 ho ι _ W1 (ZfP hargs hsz) ?_ I1 hf) ?_
     ·intro t ht
      rw [List.mem_singleton] at ht
      subst ht
      have hs := hav.1
      rw [Array.getD_eq_getD_getElem?, Array.getElem?_append_left (by simp; omega), Array.getElem?_append_left (by simp; omega), Array.getElem?_append_right (by omega)]
      simp [hs]
     ·rintro ex a2 w2 ⟨rfl, ι2, g1, _, I2, g4⟩
      have hr := run_endLoop (P := P) I2.lo (by cases pe <;> simp [Rp])
      have I3 := I2.put { Rp R pe with state := .exhausted }
      have hr2 : ∃ v', (results fn a2.tmps).run P w2 = .ok v' w2 := by
       have hnil : fn.results.toList = [] := List.eq_nil_of_length_eq_zero hres
       obtain ⟨v', q, _⟩ := ZcX (fn := fn) (v := .tuple #[]) g1 I2.st.emb (by rw [hnil]; rfl)
       exact ⟨v', q⟩
      obtain ⟨v', hrun⟩ := hr2
      have fin : LeavesInM (Fr none) (0 - 1) P fn a2.tmps (rangePost (Fr none) 0 P (w.heap.size + 1) (Zko b P ι s w nt e T s' true) { a with defers := [{ target := .collected w.heap.size, args := #[] }] ++ a.defers }) a2.defers .returning w2 := by
       rw [g1.2.1]
       refine ⟨v', hrun, _, _, hr, ?_⟩
       have post : Zko b P ι s w nt e T s' true e.out { a with defers := [{ target := .collected w.heap.size, args := #[] }] ++ a.defers } (w2.putObj (w.heap.size + 1) (.loop { Rp R pe with state := .exhausted })) := by
        refine ⟨rfl, ι2, _, I3.st, I3.dm, ⟨I3.tr.1, rfl, I3.tr.2.2⟩, w.heap.size, hbw, ?_, I3.de, fun k b hs hk => (I3.nl k b hs hk).2⟩
        rw [hT.2.1]; rfl
       cases pe with
       | none => rw [hepe] at post ⊢; exact post
       | some e1 =>
        cases e1 with
        | normal => exact absurd (hnn _ rfl) (by simp [isN])
        | ret => rw [hepe] at post ⊢; exact wpIn_ret post
        | exit i => rw [hepe] at post ⊢; exact wpIn_exit post
      rcases he0 with rfl | rfl
      ·exact fin
      ·exact fin
   ·cases h
  ·cases h
 ·cases h
end
section
variable {P : Program} {ext : FuncId → Option Ext}
theorem ZgG (F : Fit P ext) {nt : Nat} : ∀ (fu : Nat) (c : Code) (T : Tr Value) (s : St) (m : Bool) (e : Ex) (T' : Tr Value) (s' : St) (m' : Bool), evR P ext nt fu c T s m = some (e, T', s', m') → Up s s'
 | 0, _, _, _, _, _, _, _, _, h => by simp [evR] at h
 | fu + 1, c, T, s, m, e, T', s', m', h => by
  have upC := (Zb7 (P := P) (ext := ext) (fun f g hg => (F.hp f g hg).up) (fu + 1)).1
  cases c <;> simp only [evR] at h
  case skip => injection h with h; simp only [Prod.mk.injEq] at h; obtain ⟨rfl, rfl, rfl, rfl⟩ := h; exact Up.refl _
  case ret => injection h with h; simp only [Prod.mk.injEq] at h; obtain ⟨rfl, rfl, rfl, rfl⟩ := h; exact Up.refl _
  case exit id => injection h with h; simp only [Prod.mk.injEq] at h; obtain ⟨rfl, rfl, rfl, rfl⟩ := h; exact Up.refl _
  case seq x y =>
   split at h
   ·rename_i T1 s1 m1 h1; exact (ZgG F fu _ _ _ _ _ _ _ _ h1).trans (ZgG F fu _ _ _ _ _ _ _ _ h)
   ·rename_i i r h1; injection h with h; simp only [Prod.mk.injEq] at h; obtain ⟨rfl, rfl⟩ := h; exact ZgG F fu _ _ _ _ _ _ _ _ h1
   ·rename_i r h1; injection h with h; simp only [Prod.mk.injEq] at h; obtain ⟨rfl, rfl⟩ := h; exact ZgG F fu _ _ _ _ _ _ _ _ h1
   ·cases h
  case cond x y z =>
   split at h
   ·split at h
    ·exact ZgG F fu _ _ _ _ _ _ _ _ h
    ·exact ZgG F fu _ _ _ _ _ _ _ _ h
   ·cases h
  case block id x =>
   split at h
   ·rename_i i r h1
    cases hb : Nat.beq i id with
    | true => rw [hb] at h; injection h with h; simp only [Prod.mk.injEq] at h; obtain ⟨rfl, rfl⟩ := h; exact ZgG F fu _ _ _ _ _ _ _ _ h1
    | false => rw [hb] at h; injection h with h; simp only [Prod.mk.injEq] at h; obtain ⟨rfl, rfl⟩ := h; exact ZgG F fu _ _ _ _ _ _ _ _ h1
   ·rename_i r h1; injection h with h; simp only [Prod.mk.injEq] at h; obtain ⟨rfl, rfl⟩ := h; exact ZgG F fu _ _ _ _ _ _ _ _ h1
   ·rename_i r h1; injection h with h; simp only [Prod.mk.injEq] at h; obtain ⟨rfl, rfl⟩ := h; exact ZgG F fu _ _ _ _ _ _ _ _ h1
   ·cases h
  case rangeFunc g ps asg body =>
   obtain ⟨_, h⟩ := Zkh h
   split at h
   ·rename_i e1 s1 h1
    injection h with h; simp only [Prod.mk.injEq] at h; obtain ⟨rfl, rfl, rfl, rfl⟩ := h
    exact up_rf F h1
   ·cases h
  case region id ops draw =>
   split at h
   ·rename_i e1 T1 s1 h1
    injection h with h; simp only [Prod.mk.injEq] at h; obtain ⟨rfl, rfl, rfl, rfl⟩ := h
    exact upC _ _ _ _ _ _ _ h1
   ·cases h
  case loop x =>
   split at h
   ·rename_i e1 T1 s1 h1
    injection h with h; simp only [Prod.mk.injEq] at h; obtain ⟨rfl, rfl, rfl, rfl⟩ := h
    exact upC _ _ _ _ _ _ _ h1
   ·cases h
  all_goals cases h
theorem ZdM (F : Fit P ext) {nt : Nat} : ∀ (fu : Nat) (c : Code) (T : Tr Value) (s : St) (m : Bool) (e : Ex) (T' : Tr Value) (s' : St) (m' : Bool), evR P ext nt fu c T s m = some (e, T', s', m') → (∀ p ∈ s'.ob, p.1 = p.2) →
  ∀ b ι D a w, b ≤ w.heap.size → TR ι nt D T a → Mk b m D ι s.h.get w → Emb P ι s.h.get w → Fresh ι s.n s'.n → c.wpIn (Fr none) 0 P (Zko b P ι s w nt e T' s' m') a w
 | 0, _, _, _, _, _, _, _, _, h => by simp [evR] at h
 | fu + 1, c, T, s, m, e, T', s', m', h => by
  intro ho b ι D a w hbw hT hM he hf
  have code : ∀ {c : Code} {e1 : Ex} {T1 : Tr Value} {s1 : St}, ZT P ext nt (fu + 1) c T s = some (e1, T1, s1) → (∀ p ∈ s1.ob, p.1 = p.2) → Fresh ι s.n s1.n → c.wpIn (Fr none) 0 P (Zko b P ι s w nt e1 T1 s1 m) a w := fun h1 ho1 hf1 => by
   refine (wpIn_wide (n := 0)).2 (wp_mono ((Zcu F (fu + 1)).1 nt _ T s _ _ _ h1 ho1 ι D a w hT he hf1) ?_)
   rintro ex a1 w1 ⟨rfl, ι1, g1, g2, g3⟩
   exact ⟨rfl, ι1, D, g1, g2, g3, hM.step g1⟩
  have two : ∀ {ι1 : Ren} {s1 : St} {w1 : World}, Step P ι s.h.get w ι1 s1.h.get w1 → Dom ι ι1 s.n s1.n → s.n ≤ s1.n → s1.n ≤ s'.n → ∀ ex a W, Zko b P ι1 s1 w1 nt e T' s' m' ex a W → Zko b P ι s w nt e T' s' m' ex a W :=
   fun hS hd h1 h2 ex a W ⟨hx, ι', D', k1, k2, k3, k4⟩ => ⟨hx, ι', D', hS.trans k1, hd.trans k2 h1 h2, k3, k4⟩
  cases c <;> simp only [evR] at h
  case skip => injection h with h; simp only [Prod.mk.injEq] at h; obtain ⟨rfl, rfl, rfl, rfl⟩ := h; exact wpIn_skip ⟨rfl, ι, D, Step.refl he, Dom.refl, hT, hM⟩
  case ret => injection h with h; simp only [Prod.mk.injEq] at h; obtain ⟨rfl, rfl, rfl, rfl⟩ := h; exact wpIn_ret ⟨rfl, ι, D, Step.refl he, Dom.refl, hT, hM⟩
  case exit id => injection h with h; simp only [Prod.mk.injEq] at h; obtain ⟨rfl, rfl, rfl, rfl⟩ := h; exact wpIn_exit ⟨rfl, ι, D, Step.refl he, Dom.refl, hT, hM⟩
  case seq x y =>
   split at h
   ·rename_i T1 s1 m1 h1
    have u1 := ZgG F fu _ _ _ _ _ _ _ _ h1
    have u2 := ZgG F fu _ _ _ _ _ _ _ _ h
    refine wpIn_seq (wpIn_mono (ZdM F fu x T s m .normal T1 s1 m1 h1 (Za8 u2.ob ho) b ι D a w hbw hT hM he (hf.mono (Nat.le_refl _) u2.n)) ?_)
    rintro ex a1 w1 ⟨rfl, ι1, D1, g1, g2, g3, g4⟩
    exact wpIn_mono (ZdM F fu y T1 s1 m1 e T' s' m' h ho b ι1 D1 a1 w1 (Nat.le_trans hbw g1.size) g3 g4 g1.emb (hf.after g2 u1.n)) (two g1 g2 u1.n u2.n)
   ·rename_i i r h1
    injection h with h; simp only [Prod.mk.injEq] at h; obtain ⟨rfl, rfl⟩ := h
    refine wpIn_seq (wpIn_mono (ZdM F fu x T s m _ _ _ _ h1 ho b ι D a w hbw hT hM he hf) ?_)
    rintro ex a1 w1 ⟨rfl, hq⟩
    exact ⟨rfl, hq⟩
   ·rename_i r h1
    injection h with h; simp only [Prod.mk.injEq] at h; obtain ⟨rfl, rfl⟩ := h
    refine wpIn_seq (wpIn_mono (ZdM F fu x T s m _ _ _ _ h1 ho b ι D a w hbw hT hM he hf) ?_)
    rintro ex a1 w1 ⟨rfl, hq⟩
    exact ⟨rfl, hq⟩
   ·cases h
  case cond x y z =>
   split at h
   ·rename_i t ht
    have hx : a.eval x = .bool t := Zed ((ht ▸ hT.opnd x : VR ι (.bool t) (Zbq a x)).bool_inv)
    split at h
    ·exact wpIn_cond_true hx (ZdM F fu y T s m e T' s' m' h ho b ι D a w hbw hT hM he hf)
    ·exact wpIn_cond_false hx (ZdM F fu z T s m e T' s' m' h ho b ι D a w hbw hT hM he hf)
   ·cases h
  case block id x =>
   split at h
   ·rename_i i r h1
    cases hb : Nat.beq i id with
    | true =>
     rw [hb] at h
     injection h with h; simp only [Prod.mk.injEq] at h; obtain ⟨rfl, rfl⟩ := h
     refine wpIn_block (wpIn_mono (ZdM F fu x T s m _ _ _ _ h1 ho b ι D a w hbw hT hM he hf) ?_)
     rintro ex a1 w1 ⟨rfl, hq⟩
     show if i = id then _ else _
     rw [if_pos (Nat.eq_of_beq_eq_true hb)]
     exact ⟨rfl, hq⟩
    | false =>
     rw [hb] at h
     injection h with h; simp only [Prod.mk.injEq] at h; obtain ⟨rfl, rfl⟩ := h
     refine wpIn_block (wpIn_mono (ZdM F fu x T s m _ _ _ _ h1 ho b ι D a w hbw hT hM he hf) ?_)
     rintro ex a1 w1 ⟨rfl, hq⟩
     show if i = id then _ else _
     rw [if_neg (fun e => by rw [Zgg e] at hb; cases hb)]
     exact ⟨rfl, hq⟩
   ·rename_i r h1
    injection h with h; simp only [Prod.mk.injEq] at h; obtain ⟨rfl, rfl⟩ := h
    refine wpIn_block (wpIn_mono (ZdM F fu x T s m _ _ _ _ h1 ho b ι D a w hbw hT hM he hf) ?_)
    rintro ex a1 w1 ⟨rfl, hq⟩
    exact ⟨rfl, hq⟩
   ·rename_i r h1
    injection h with h; simp only [Prod.mk.injEq] at h; obtain ⟨rfl, rfl⟩ := h
    refine wpIn_block (wpIn_mono (ZdM F fu x T s m _ _ _ _ h1 ho b ι D a w hbw hT hM he hf) ?_)
    rintro ex a1 w1 ⟨rfl, hq⟩
    exact ⟨rfl, hq⟩
   ·cases h
  case rangeFunc g ps asg body =>
   obtain ⟨hm, h⟩ := Zkh h
   split at h
   ·rename_i e1 s1 h1
    injection h with h; simp only [Prod.mk.injEq] at h; obtain ⟨rfl, rfl, rfl, rfl⟩ := h
    subst hm
    obtain rfl : D = [] := hM
    exact Zuy F h1 ho hbw hT he hf
   ·cases h
  case region id ops draw =>
   split at h
   ·rename_i e1 T1 s1 h1
    injection h with h; simp only [Prod.mk.injEq] at h; obtain ⟨rfl, rfl, rfl, rfl⟩ := h
    exact code h1 ho hf
   ·cases h
  case loop x =>
   split at h
   ·rename_i e1 T1 s1 h1
    injection h with h; simp only [Prod.mk.injEq] at h; obtain ⟨rfl, rfl, rfl, rfl⟩ := h
    exact code h1 ho hf
   ·cases h
  all_goals cases h
theorem Zn9 (F : Fit P ext) {fu : Nat} {f : FuncId} {fn : Func} {c : Code} (hfn : P.funcs[f]? = some fn) (hb : fn.body = some c) : Zod P f (ZjF P ext fu f) := by
 refine ⟨fun args s v s' h => ?_, fun args s v s' h ho ι w args' ha he hf => .inl ⟨⟨fn, c, hfn, hb⟩, ?_⟩⟩
 ·unfold ZjF at h
  rw [hfn] at h
  simp only [hb] at h
  replace h := (Zl h).2
  split at h
  ·cases h
  ·rename_i h1
   have u := ZgG F fu _ _ _ _ _ _ _ _ h1
   split at h
   ·injection h with h; injection h with q1 q2; subst q2; exact u
   ·injection h with h; injection h with q1 q2; subst q2; exact u
   ·cases h
  ·cases h
 ·unfold ZjF at h
  rw [hfn] at h
  simp only [hb] at h
  obtain ⟨hsz, h⟩ := Zl h
  have hle : args.size ≤ fn.ntmps := Nat.le_of_ble_eq_true hsz
  split at h
  ·cases h
  ·rename_i ex T1 s1 m1 hne h1
   have hs : s' = s1 ∧ (match Zbu P T1 s1 fn.results.toList with | some [v] => some v | some vs => some (.tuple vs.toArray) | none => none) = some v := by
    split at h
    ·rename_i hr; injection h with h; injection h with q1 q2; subst q1 q2; exact ⟨rfl, by first | rw [hr] | rfl⟩
    ·rename_i vs hn hr; injection h with h; injection h with q1 q2; subst q1 q2
     refine ⟨rfl, ?_⟩
     try rw [hr]
     rcases vs with _ | ⟨x, _ | ⟨y, vs⟩⟩
     ·rfl
     ·exact absurd rfl (hn x)
     ·rfl
    ·cases h
   obtain ⟨rfl, hres⟩ := hs
   refine (callsIn_wide (n := 0)).1 (callsIn_of_wp_marks hfn hb trivial (wpIn_mono (ZdM F fu c _ s false ex T1 s' m1 h1 ho w.heap.size ι [] _ w (Nat.le_refl _) (ZfP ha hle) rfl he hf) ?_))
   rintro e2 a2 w2 ⟨rfl, ι2, D2, g1, g2, g3, g4⟩
   have fin : LeavesInM (Fr none) 0 P fn a2.tmps (Zn0 P ι s w v s') a2.defers .returning w2 := by
    rw [g3.2.1]
    cases m1 with
    | false =>
     obtain rfl : D2 = [] := g4
     obtain ⟨v', hrun, hv⟩ := ZcX g3 g1.emb hres
     exact ⟨v', hrun, v', ι2, rfl, g1, g2, hv⟩
    | true =>
     obtain ⟨K, hKw, rfl, hk, hn⟩ := g4
     have g1' := g1.put hKw hn (.deferred none)
     obtain ⟨v', hrun, hv⟩ := ZcX g3 g1'.emb hres
     exact ⟨by simp, .inl ⟨K, _, rfl, run_takeDeferred hk, v', hrun, v', ι2, rfl, g1', g2, hv⟩⟩
   cases ex with
   | normal => exact fin
   | ret => exact fin
   | exit i => exact (hne i rfl).elim
  ·cases h
end
noncomputable section
end
section
variable {P : Program} {ext : FuncId → Option Ext}
end
noncomputable section
end
section
variable {P : Program}
end

def ZsB : FuncId → Option Ext := fun f =>
  bif Nat.beq f 132 then some (.at .i64 0) else
  bif Nat.beq f 171 then some (.at .i64 1) else
  bif Nat.beq f 170 then some (.at .i64 2) else
  bif Nat.beq f 169 then some (.at .i64 3) else
   none

theorem noGo : (Tryz.prog.funcs.toList.all fun fn => !(fn.name == "runtime.NumGoroutine")) = true := by kernel_rfl
theorem mixed : Tryz.prog.follows .mixedOrders = true := by kernel_rfl
def Zql (sp : FuncId → Option (List Value → Option Value)) (hp : FuncId → Option (Array Value → St → Out)) : FuncId → Option Ext := fun f => match ZsB f with
  | some e => some e
  | none => match sp f with
    | some g => some (.fn g)
    | none => match hp f with
      | some g => some (.hp g)
      | none => none
def Zpx (sp : FuncId → Option (List Value → Option Value)) : Prop := ∀ (f : Nat) (g : List Value → Option Value), sp f = some g → (∃ (fn : Func) (c : Code), Tryz.prog.funcs[f]? = some fn ∧ fn.body = some c) ∧
  ∀ (args : Array Value) (v : Value), Zq Zcv args.toList = true → g args.toList = some v → ∀ w, TabW w → Calls Tryz.prog f args w fun e w' => e = .returned v ∧ Below w.heap.size w w'
def Zqm (hp : FuncId → Option (Array Value → St → Out)) : Prop := ∀ (f : Nat) (g : Array Value → St → Out), hp f = some g → Zod Tryz.prog f g
theorem Zmj {b : Bool} {x e : Ext} {y : Option Ext} (h : (bif b then some x else y) = some e) : (b = true ∧ x = e) ∨ y = some e := by
  cases b with
  | true => exact .inl ⟨rfl, by simpa using h⟩
  | false => exact .inr (by simpa using h)
theorem ZjG {f : Nat} {e : Ext} (he : ZsB f = some e) : (∀ (kk : IntKind) (c : Nat), e = .at kk c → ∃ fn : Func, Tryz.prog.funcs[f]? = some fn ∧ fn.body.isNone = true ∧ Extern.findNext fn = none ∧
    (c = 0 ∧ Extern.find fn = some (Extern.Atomic.loadT (.int kk)) ∨ c = 1 ∧ Extern.find fn = some Extern.Atomic.storeT ∨
     c = 2 ∧ Extern.find fn = some (Extern.Atomic.update (Op.intArith .add) kk true) ∨ c = 3 ∧ Extern.find fn = some (Extern.Atomic.casT (.int kk)))) ∧
    (∀ n : Nat, e = .mark n → ∃ fn : Func, Tryz.prog.funcs[f]? = some fn ∧ fn.body.isNone = true ∧ Extern.findNext fn = none ∧
    (n = 0 ∧ (∃ m : Mark, Extern.find fn = some (fun _ => do mark m; pure Extern.Race.none_)) ∨ n = 1 ∧ ∃ m : Addr → Mark, Extern.find fn = some (Extern.Race.marked m))) ∧ (∀ g, e ≠ .fn g) ∧ (∀ g, e ≠ .hp g) ∧ (∀ S, e ≠ .tc S) := by
  unfold ZsB at he
  rcases Zmj he with ⟨hb, hx⟩ | he
  · obtain rfl := Nat.eq_of_beq_eq_true hb; subst hx; refine ⟨fun kk c hc => ?_, fun n hn => (by cases hn), fun g hg => (by cases hg), fun g hg => (by cases hg), fun S hg => (by cases hg)⟩; injection hc with h1 h2; subst h1 h2; exact ⟨_, Tryz.func132, by kernel_rfl, by kernel_rfl, .inl ⟨rfl, by kernel_rfl⟩⟩
  rcases Zmj he with ⟨hb, hx⟩ | he
  · obtain rfl := Nat.eq_of_beq_eq_true hb; subst hx; refine ⟨fun kk c hc => ?_, fun n hn => (by cases hn), fun g hg => (by cases hg), fun g hg => (by cases hg), fun S hg => (by cases hg)⟩; injection hc with h1 h2; subst h1 h2; exact ⟨_, Tryz.func171, by kernel_rfl, by kernel_rfl, .inr (.inl ⟨rfl, by kernel_rfl⟩)⟩
  rcases Zmj he with ⟨hb, hx⟩ | he
  · obtain rfl := Nat.eq_of_beq_eq_true hb; subst hx; refine ⟨fun kk c hc => ?_, fun n hn => (by cases hn), fun g hg => (by cases hg), fun g hg => (by cases hg), fun S hg => (by cases hg)⟩; injection hc with h1 h2; subst h1 h2; exact ⟨_, Tryz.func170, by kernel_rfl, by kernel_rfl, .inr (.inr (.inl ⟨rfl, by kernel_rfl⟩))⟩
  rcases Zmj he with ⟨hb, hx⟩ | he
  · obtain rfl := Nat.eq_of_beq_eq_true hb; subst hx; refine ⟨fun kk c hc => ?_, fun n hn => (by cases hn), fun g hg => (by cases hg), fun g hg => (by cases hg), fun S hg => (by cases hg)⟩; injection hc with h1 h2; subst h1 h2; exact ⟨_, Tryz.func169, by kernel_rfl, by kernel_rfl, .inr (.inr (.inr ⟨rfl, by kernel_rfl⟩))⟩
  cases he
theorem Zgj {sp : FuncId → Option (List Value → Option Value)} {hp : FuncId → Option (Array Value → St → Out)} {f : Nat} {e : Ext} (h : Zql sp hp f = some e) : ZsB f = some e ∨ (∃ g, sp f = some g ∧ e = .fn g) ∨ ∃ g, hp f = some g ∧ e = .hp g := by
  unfold Zql at h
  split at h
  · rename_i e' he'
    injection h with h; subst h
    exact .inl he'
  · split at h
    · rename_i g hg
      injection h with h; subst h
      exact .inr (.inl ⟨g, hg, rfl⟩)
    · split at h
      · rename_i g hg
        injection h with h; subst h
        exact .inr (.inr ⟨g, hg, rfl⟩)
      · cases h
theorem fitH {sp : FuncId → Option (List Value → Option Value)} {hp : FuncId → Option (Array Value → St → Out)} (hsp : Zpx sp) (hhp : Zqm hp) : Fit Tryz.prog (Zql sp hp) := by
  refine ⟨mixed, fun f fn hf => ?_, fun f g hg => ?_, fun f g hg => ?_, fun f S hS => ?_, fun f n hn => ?_, fun f kk e he => ?_⟩
  · have := List.all_eq_true.1 noGo fn (by
      obtain ⟨h, rfl⟩ := Array.getElem?_eq_some_iff.1 hf
      simp)
    simpa using this
  · rcases Zgj hg with h | ⟨g', h, hx⟩ | ⟨g', h, hx⟩
    · exact ((ZjG h).2.2.1 g rfl).elim
    · injection hx with hx; subst hx; exact hsp f g h
    · cases hx
  · rcases Zgj hg with h | ⟨g', h, hx⟩ | ⟨g', h, hx⟩
    · exact ((ZjG h).2.2.2.1 g rfl).elim
    · cases hx
    · injection hx with hx; subst hx; exact hhp f g h
  · rcases Zgj hS with h | ⟨g', h, hx⟩ | ⟨g', h, hx⟩
    · exact ((ZjG h).2.2.2.2 S rfl).elim
    · cases hx
    · cases hx
  · rcases Zgj hn with h | ⟨g', h, hx⟩ | ⟨g', h, hx⟩
    · exact (ZjG h).2.1 n rfl
    · cases hx
    · cases hx
  · rcases Zgj he with h | ⟨g', h, hx⟩ | ⟨g', h, hx⟩
    · exact (ZjG h).1 kk e rfl
    · cases hx
    · cases hx
def Zuz : FuncId → Option (List Value → Option Value) := fun _ => none
theorem ZrM : Zpx Zuz := fun f g h => by cases h
theorem hp_or {β : Type} {b : Bool} {x e : β} {y : Option β} (h : (bif b then some x else y) = some e) : (b = true ∧ x = e) ∨ y = some e := by
  cases b with
  | true => injection h with h; exact .inl ⟨rfl, h⟩
  | false => exact .inr h
noncomputable def hp0 : FuncId → Option (Array Value → St → Out) := fun f =>
   none
theorem Zt0 : Zqm hp0 := by
  intro f g h
  unfold hp0 at h
  cases h
noncomputable def ext2 : FuncId → Option Ext := Zql Zuz hp0
theorem fit2 : Fit Tryz.prog ext2 := fitH ZrM Zt0
noncomputable def hp1 : FuncId → Option (Array Value → St → Out) := fun f =>
  bif Nat.beq f 18 then some (ZjF Tryz.prog ext2 20000 18) else
   hp0 f
theorem Zwi : Zqm hp1 := by
  intro f g h
  unfold hp1 at h
  rcases hp_or h with ⟨hb, rfl⟩ | h
  · obtain rfl := Nat.eq_of_beq_eq_true hb; exact Zn9 fit2 Tryz.func18 rfl
  exact Zt0 f g h
noncomputable def Zu0 (sp : FuncId → Option (List Value → Option Value)) : FuncId → Option Ext := Zql sp hp1
theorem fitS {sp : FuncId → Option (List Value → Option Value)} (hsp : Zpx sp) : Fit Tryz.prog (Zu0 sp) := fitH hsp Zwi
noncomputable def ext : FuncId → Option Ext := Zu0 Zuz
theorem fit : Fit Tryz.prog ext := fitS ZrM
def ZsC (e : FuncId → Option Ext) (tc : FuncId → Bool) : FuncId → Option Ext := fun f => bif tc f then some (.tc (ZbV Tryz.prog f)) else e f
theorem fitT {e : FuncId → Option Ext} {tc : FuncId → Bool} (F : Fit Tryz.prog e) (hb : ∀ f, tc f = true → ∃ (fn : Func) (c : Code), Tryz.prog.funcs[f]? = some fn ∧ fn.body = some c) : Fit Tryz.prog (ZsC e tc) := by
  have cs : ∀ {f : Nat} {x : Ext}, ZsC e tc f = some x → (tc f = true ∧ x = .tc (ZbV Tryz.prog f)) ∨ e f = some x := fun {f x} h => by
    unfold ZsC at h
    cases ht : tc f with
    | true => rw [ht] at h; injection h with h; exact .inl ⟨rfl, h.symm⟩
    | false => rw [ht] at h; exact .inr h
  refine ⟨F.mixed, F.go, fun f g hg => ?_, fun f g hg => ?_, fun f S hS => ?_, fun f n hn => ?_, fun f kk x hx => ?_⟩
  · rcases cs hg with ⟨_, h⟩ | h
    · cases h
    · exact F.fn f g h
  · rcases cs hg with ⟨_, h⟩ | h
    · cases h
    · exact F.hp f g h
  · rcases cs hS with ⟨ht, h⟩ | h
    · injection h with h; subst h; exact ⟨hb f ht, fun _ _ _ _ _ _ h => h⟩
    · exact F.tc f S h
  · rcases cs hn with ⟨_, h⟩ | h
    · cases h
    · exact F.mark f n h
  · rcases cs hx with ⟨_, h⟩ | h
    · cases h
    · exact F.ext f kk x h
def out (r : Out) : Option Value := match r with
  | some (v, s) => match s.ob with
    | [] => bif Zcv v && Nat.ble s.n 1000000000 then some v else none
    | _ => none
  | none => none
theorem Zwj (fu : Nat) {f : FuncId} {args : Array Value} {v : Value} (w : World) (h : out (ZdF Tryz.prog ext fu f args ⟨.nil, 0, [], ⟨[], [], [], [], []⟩, []⟩) = some v) (ha : Zq Zcv args.toList = true) (ht : TabW w := by first | assumption | (intro x hx; cases hx; done)) : Calls Tryz.prog f args w (Ret v w) := by
  unfold out at h
  split at h
  · rename_i u s hr
    split at h
    · rename_i ho
      obtain ⟨hf, h⟩ := Zl h
      injection h with h
      subst h
      exact (Zwg fit hr (by rw [ho]; simp) (VRs.of_free ha) (Bool.and_eq_true_iff.1 hf).1 (Nat.le_of_ble_eq_true (Bool.and_eq_true_iff.1 hf).2) w ht).mono fun e w' ⟨h1, h2⟩ => ⟨h1, h2⟩
    · cases h
  · cases h
def outO (r : Out) : Option (Value × List (Bool × Bool)) := match r with
  | some (v, s) => bif Zcv v && Nat.ble s.n 1000000000 then some (v, s.ob) else none
  | none => none
end Ev
end Go.Proofs.YtiijipocjellpaaGreat
namespace Go.Proofs.YtiijipocjellpaaGreat
open Go.ChangeShapes Go.WideShapes Go.ChangeAt Go.RowKit
namespace Ev
section
variable {P : Program} {w : World} {r : Reach} {base : Nat}
theorem okWide_slice {u e : TypeId} {c : Value} (hu : P.underlying u = some (.slice e)) (h : Cell.okWide P w r base u c) : c.oneCell' = true := by
 unfold Cell.okWide Cell.ok at h
 rw [hu] at h
 cases c <;> first | rfl | (simp at h)
def Zva : Nat → List (Nat × Bool) → List (Option Bool)
 | _, [] => []
 | n, (i, b) :: l => List.replicate (i - n) none ++ (some b :: Zva (i + 1) l)
def Zvb : Nat → List (Nat × Int) → List (Option Int)
 | _, [] => []
 | n, (i, b) :: l => List.replicate (i - n) none ++ (some b :: Zvb (i + 1) l)
def Zpy {α : Type} : Nat → List (Nat × α) → List (Option α)
 | _, [] => []
 | n, (i, b) :: l => List.replicate (i - n) none ++ (some b :: Zpy (i + 1) l)
def Zj (b : List (Nat × Bool)) (v : List (Nat × Int)) (x : List (Nat × Nat)) (l : List (Nat × List Cell)) (w : List (Nat × Zhj)) : Orc := ⟨Zva 0 b, Zvb 0 v, Zpy 0 x, Zpy 0 l, Zpy 0 w⟩
theorem Zk : ∀ p ∈ ([] : List (Bool × Bool)), p.1 = p.2 := by simp
theorem Z9 {a b : Bool} {l : List (Bool × Bool)} (h : a = b) (hl : ∀ q ∈ l, q.1 = q.2) : ∀ q ∈ (a, b) :: l, q.1 = q.2 := by
 intro q hq
 rcases List.mem_cons.1 hq with rfl | hq
 ·exact h
 ·exact hl q hq
theorem Zt1 {x : Int} (h : -9223372036854775808 ≤ x ∧ x < 9223372036854775808) : IntKind.i64.wrap x = x := by
 rw [IntKind.wrap_i64]
 omega
theorem ZgX {b : Int} (h : 0 ≤ b) : b = Int.ofNat b.toNat := (Int.toNat_of_nonneg h).symm
theorem Zwk {n m : Nat} (h : n < m) : Nat.blt n m = true := Nat.ble_eq_true_of_le h
end
end Ev
end Go.Proofs.YtiijipocjellpaaGreat
namespace Go.Proofs.YtiijipocjellpaaGreat
open Go.IntKind (i64)
open Go.RowKit
namespace Ev
/-! ### Where a loop stands -/
def Zck : List Nat → Code → List Zay → Code × List Zay
  | [], .loop a, K => (a, K)
  | 0 :: p, .seq a b, K => Zck p a (.seq b :: K)
  | 1 :: p, .seq _ b, K => Zck p b K
  | 2 :: p, .scope a, K => Zck p a (.scp :: K)
  | 3 :: p, .block i a, K => Zck p a (.blk i :: K)
  | 4 :: p, .cond _ a _, K => Zck p a K
  | 5 :: p, .cond _ _ b, K => Zck p b K
  | (n + 6) :: p, .loop a, K => Zck p a (.rnd n :: K)
  | _, _, K => (.skip, K)
def ZcP (fn : Func) : Code := match fn.body with | some c => c | none => .skip
noncomputable section
def ZnA (live : List Nat) (r : Option Stop) : Option (Value × List (Option AObj) × List (Bool × Bool)) :=
  match r with
  | some (.fin u s) => bif Nat.ble s.n 1000000000 then some (u, live.map s.h.get, s.ob) else none
  | _ => none
end
theorem Zrm {live : List Nat} {r : Option Stop} {u : Value} {bl : List (Option AObj)} {ob : List (Bool × Bool)} (h : ZnA live r = some (u, bl, ob)) : ∃ s, r = some (.fin u s) ∧ live.map s.h.get = bl ∧ s.ob = ob ∧ s.n ≤ far := by
  unfold ZnA at h
  split at h
  · rename_i u' s
    obtain ⟨hn, h⟩ := Zl h
    injection h with h
    simp only [Prod.mk.injEq] at h
    obtain ⟨rfl, rfl, rfl⟩ := h
    exact ⟨s, rfl, rfl, rfl, Nat.le_of_ble_eq_true hn⟩
  · cases h
def Zey (ρ : Nat → Nat) : AObj → AObj → Prop
  | .ro O, .ro O' => O = O'
  | .ro O true, .ro O' true => O = O'
  | .cells c t, .cells c' t' => t = t' ∧ (∃ r, c.map (ZF ρ 1) = c' ++ r) ∧ Zq (ZA 1) c = true
  | .cells c t true, .cells c' t' true => t = t' ∧ c.map (ZF ρ 1) = c' ∧ Zq (ZA 1) c = true
  | _, _ => False
def Zy (ρ : Nat → Nat) : List (Option AObj) → List (Option AObj) → Prop
  | _, [] => True
  | some o :: bl, some p :: l => Zey ρ o p ∧ Zy ρ bl l
  | _ :: bl, none :: l => Zy ρ bl l
  | _, _ => False
def Zb1 (ρ : Nat → Nat) : List (Option Value) → List (Nat × Value) → Prop
  | _, [] => True
  | some u :: tv, x :: l => (x.2 = ZF ρ 3 u ∧ ZA 3 u = true) ∧ Zb1 ρ tv l
  | _, _ => False
theorem Zd2 {ρ : Nat → Nat} {h : AH} : ∀ {live : List Nat} {l : List (Option AObj)}, Zy ρ (live.map h) l → ∀ j o, lkO l j = some o → ∃ k, live[j]? = some k ∧ match o with
      | .ro O m => h k = some (.ro O m)
      | .cells c t q => ∃ c' r, h k = some (.cells c' t q) ∧ c'.map (ZF ρ 1) = c ++ r ∧ (q = true → r = []) ∧ Zq (ZA 1) c' = true
  | live, [], _, j, o, hj => by simp [lkO] at hj
  | [], x :: l, hb, j, o, hj => by cases x <;> exact hb.elim
  | k :: live, none :: l, hb, j, o, hj => by
    have hb' : Zy ρ (live.map h) l := by
      simp only [List.map_cons] at hb
      cases hk : h k <;> rw [hk] at hb <;> exact hb
    cases j with
    | zero => simp [lkO] at hj
    | succ j => obtain ⟨k', q1, q2⟩ := Zd2 hb' j o (by simpa [lkO] using hj); exact ⟨k', by simpa using q1, q2⟩
  | k :: live, some p :: l, hb, j, o, hj => by
    simp only [List.map_cons] at hb
    cases hk : h k with
    | none => rw [hk] at hb; exact hb.elim
    | some o1 =>
      rw [hk] at hb
      cases j with
      | zero =>
        have : p = o := by simpa [lkO] using hj
        subst this
        refine ⟨k, rfl, ?_⟩
        have h1 := hb.1
        cases o1 with
        | cells c1 t1 q1 =>
          cases p with
          | cells c2 t2 q2 =>
            cases q1 <;> cases q2
            · simp only [Zey] at h1; obtain ⟨rfl, ⟨r, hr⟩, hs⟩ := h1; exact ⟨_, r, hk, hr, (fun e => by cases e), hs⟩
            · exact h1.elim
            · exact h1.elim
            · simp only [Zey] at h1; obtain ⟨rfl, hr, hs⟩ := h1; exact ⟨_, [], hk, by rw [hr, List.append_nil], fun _ => rfl, hs⟩
          | ro O2 m2 => cases q1 <;> cases m2 <;> exact h1.elim
        | ro O1 m1 =>
          cases p with
          | cells c2 t2 q2 => cases m1 <;> cases q2 <;> exact h1.elim
          | ro O2 m2 =>
            cases m1 <;> cases m2
            · obtain rfl : O1 = O2 := h1; exact hk
            · exact h1.elim
            · exact h1.elim
            · obtain rfl : O1 = O2 := h1; exact hk
      | succ j => obtain ⟨k', q1, q2⟩ := Zd2 hb.2 j o (by simpa [lkO] using hj); exact ⟨k', by simpa using q1, q2⟩
theorem Zqn {ρ : Nat → Nat} {T : Tr Value} : ∀ {l : List (Nat × Value)}, Zb1 ρ ((l.map (·.1)).map T.get) l → ∀ t v, ZN t l = some v → v = ZF ρ 3 ((T.get t).getD undef) ∧ ZA 3 ((T.get t).getD undef) = true
  | [], _, t, v, h => by cases h
  | x :: l, ht, t, v, h => by
    simp only [List.map_cons] at ht
    cases hx : T.get x.1 with
    | none => rw [hx] at ht; exact ht.elim
    | some u =>
      rw [hx] at ht
      unfold ZN at h
      cases hb : Nat.beq x.1 t with
      | true =>
        rw [hb] at h
        injection h with h
        obtain rfl := Nat.eq_of_beq_eq_true hb
        subst h
        rw [hx]
        exact ht.1
      | false => rw [hb] at h; exact Zqn ht.2 t v h
section
variable {P : Program} {ext : FuncId → Option Ext}
end
/-! ### Rows of numbers -/
theorem Zv5 (n : Int) : i64.wrap (((BitVec.ofInt i64.bits n &&& BitVec.ofInt i64.bits 1).toNat : Nat) : Int) = n % 2 := by
  have hb : i64.bits = 64 := rfl
  have e1 : (BitVec.ofInt 64 n &&& BitVec.ofInt 64 1).toNat = (BitVec.ofInt 64 n).toNat % 2 := by
    rw [BitVec.toNat_and]
    have : (BitVec.ofInt 64 1).toNat = 1 := by decide
    rw [this, Nat.and_one_is_mod]
  have e2 : ((BitVec.ofInt 64 n).toNat : Int) = n % 18446744073709551616 := by
    rw [BitVec.toNat_ofInt]
    omega
  show i64.wrap (((BitVec.ofInt 64 n &&& BitVec.ofInt 64 1).toNat : Nat) : Int) = n % 2
  rw [e1, Zt1 (by omega)]
  omega
theorem ZmR {a b : Int} (h : 0 ≤ a) : Int.tmod a b = a % b := Int.tmod_eq_emod_of_nonneg h
theorem Zu1 {a b : Int} (h : 0 ≤ a) : Int.tdiv a b = a / b := Int.tdiv_eq_ediv_of_nonneg h
theorem wrap_i64 {x : Int} (h : -9223372036854775808 ≤ x ∧ x ≤ 9223372036854775807) : i64.wrap x = x := Zt1 (by omega)
theorem Z5 {k o o' n n' c c' : Nat} (h1 : o = o') (h2 : n = n') (h3 : c = c') : Value.slice (some ⟨k, o, none⟩) n c = .slice (some ⟨k, o', none⟩) n' c' := by rw [h1, h2, h3]
theorem Zh {α : Type} {a b : α} {l r : List α} (h : a = b) (t : l = r) : a :: l = b :: r := by rw [h, t]
/-! ### Rows of bools -/
/-! ### Rows of the caller's -/
end Ev
end Go.Proofs.YtiijipocjellpaaGreat
namespace Go.Proofs.YtiijipocjellpaaGreat
open Go.RowKit
namespace Ev
section
variable {P : Program} {ext : FuncId → Option Ext}
def Zu2 (κ : List Nat) (n : Nat) (pre : List AObj) : List (Nat × AObj) := κ.zip (pre.map (ZfG (kap κ n)))
def Zpz (κ : List Nat) (n : Nat) (ch : List Nat) (post : List (Option AObj)) : List (Nat × Option AObj) := ch.map fun j => (kap κ n j, (lkO post j).map (ZfG (kap κ n)))
def Zif (m : Nat) : List AObj → Prop
 | [] => True
 | o :: l => Zfu m o = true ∧ Zif m l
def ZfR (m : Nat) : List (Option AObj) → Prop
 | [] => True
 | some o :: l => Zfu m o = true ∧ ZfR m l
 | none :: l => ZfR m l
theorem ZoO {m : Nat} : ∀ {l : List AObj}, Zif m l → ∀ o ∈ l, Zfu m o = true
 | x :: l, h, o, ho => by
  rcases List.mem_cons.1 ho with rfl | ho
  ·exact h.1
  ·exact ZoO h.2 o ho
theorem Zkp {m : Nat} : ∀ {l : List (Option AObj)}, ZfR m l → ∀ o, some o ∈ l → Zfu m o = true
 | some x :: l, h, o, ho => by
  rcases List.mem_cons.1 ho with e | ho
  ·injection e with e; subst e; exact h.1
  ·exact Zkp h.2 o ho
 | none :: l, h, o, ho => by
  rcases List.mem_cons.1 ho with e | ho
  ·cases e
  ·exact Zkp (l := l) h o ho
def Zom (ch : List Nat) : Nat → List AObj → List (Option AObj) → Prop
 | _, _, [] => True
 | j, o :: l, p :: r => (j ∈ ch ∨ p = some o) ∧ Zom ch (j + 1) l r
 | j, [], _ :: r => j ∈ ch ∧ Zom ch (j + 1) [] r
theorem Zon {ch : List Nat} : ∀ {l : List AObj} {r : List (Option AObj)} {j : Nat}, Zom ch j l r → ∀ i, i < r.length → j + i ∈ ch ∨ (i < l.length ∧ r[i]? = some l[i]?)
 | o :: l, p :: r, j, h, 0, _ => by
  rcases h.1 with h | h
  ·exact .inl h
  ·exact .inr ⟨by simp, by simp [h]⟩
 | o :: l, p :: r, j, h, i + 1, hi => by
  rcases Zon h.2 i (by simpa using hi) with q | ⟨q1, q2⟩
  ·exact .inl (by rwa [show j + (i + 1) = j + 1 + i by omega])
  ·exact .inr ⟨by simpa using q1, by simpa using q2⟩
 | [], p :: r, j, h, 0, _ => .inl h.1
 | [], p :: r, j, h, i + 1, hi => by
  rcases Zon h.2 i (by simpa using hi) with q | ⟨q1, q2⟩
  ·exact .inl (by rwa [show j + (i + 1) = j + 1 + i by omega])
  ·simp at q1
theorem Zqo {α : Type} {k : Nat} {x : α} : ∀ {ks : List Nat} {l : List α} {j : Nat}, ks.Nodup → ks[j]? = some k → l[j]? = some x → ZN k (ks.zip l) = some x
 | a :: ks, b :: l, 0, _, h1, h2 => by
  simp at h1 h2
  subst h1 h2
  simp [ZN]
 | a :: ks, b :: l, j + 1, hn, h1, h2 => by
  have hm : k ∈ ks := List.mem_of_getElem? (by simpa using h1)
  have hne : a ≠ k := fun e => by subst e; exact (List.nodup_cons.1 hn).1 hm
  show ZN k ((a, b) :: ks.zip l) = _
  unfold ZN
  rw [Zgf hne]
  exact Zqo (List.nodup_cons.1 hn).2 (by simpa using h1) (by simpa using h2)
 | [], _, j, _, h1, _ => by simp at h1
 | a :: ks, [], j, _, _, h2 => by simp at h2
theorem Zqp {f : Nat → Nat} {g : Nat → Option AObj} (hf : ∀ i j, f i = f j → i = j) (j : Nat) : ∀ ch : List Nat, ZN (f j) (ch.map fun i => (f i, g i)) = if j ∈ ch then some (g j) else none
 | [] => rfl
 | a :: ch => by
  show ZN (f j) ((f a, g a) :: ch.map fun i => (f i, g i)) = _
  unfold ZN
  by_cases h : a = j
  ·subst h; rw [Zgg rfl]; simp
  ·rw [Zgf (fun e => h (hf _ _ e)), cond_false, Zqp hf j ch]
   simp [show ¬ j = a from fun e => h e.symm]
theorem LSpec.callL {f : FuncId} {A : Array Value} {pre : List AObj} {v : Value} {post : List (Option AObj)} (h : LSpec P f A pre v post) (κ : List Nat) (n : Nat) (ch : List Nat) (hκ : κ.length = pre.length) (hnd : κ.Nodup) (hlt : ∀ k ∈ κ, k < n) (hle : pre.length ≤ post.length) (hch : ∀ j ∈ ch, j < post.length)
  (hA : Zq (Zag pre.length 3) A.toList = true) (hpre : Zif pre.length pre) (hv : (Zag post.length 3 v || ZbA v) = true) (hpost : ZfR post.length post) (hk : Zom ch 0 pre post)
  {A' : Array Value} {pre' : List (Nat × AObj)} {v' : Value} {post' : List (Nat × Option AObj)} {dn : Nat} (eA : A' = Zfq (ZF (kap κ n) 3) A) (ev : v' = ZF (kap κ n) 3 v) (edn : pre.length + dn = post.length) (ep : pre' = Zu2 κ n pre) (eq : post' = Zpz κ n ch post) : ZbV P f A' pre' v' post' n dn := by
 have kl : ∀ j, j < pre.length → κ[j]? = some (kap κ n j) := fun j hj => Zn5 (by omega)
 have kn : ∀ j, j < pre.length → kap κ n j < n := fun j hj => hlt _ (List.mem_of_getElem? (kl j hj))
 have kg : ∀ j, pre.length ≤ j → kap κ n j = n + (j - pre.length) := fun j hj => by rw [← hκ]; exact Ztx (by omega)
 have kinj : ∀ i j, kap κ n i = kap κ n j → i = j := fun i j hij => by
  rcases Nat.lt_or_ge i pre.length with h1 | h1 <;> rcases Nat.lt_or_ge j pre.length with h2 | h2
  ·have a := kl i h1
   have b := kl j h2
   rw [hij, ← b] at a
   exact (List.getElem?_inj (by omega) hnd).1 a
  ·have := kn i h1; rw [hij, kg j h2] at this; omega
  ·have := kn j h2; rw [← hij, kg i h1] at this; omega
  ·rw [kg i h1, kg j h2] at hij; omega
 have lp : ∀ j o, pre[j]? = some o → ZN (kap κ n j) pre' = some (ZfG (kap κ n) o) := fun j o ho => by
  subst ep
  have hj : j < pre.length := (List.getElem?_eq_some_iff.1 ho).1
  exact Zqo hnd (kl j hj) (by rw [List.getElem?_map, ho]; rfl)
 have ip : ∀ k o, ZN k pre' = some o → ∃ j, j < pre.length ∧ k = kap κ n j := fun k o ho => by
  subst ep
  obtain ⟨j, hj1, hj2⟩ := List.getElem_of_mem (List.of_mem_zip (ZgF ho)).1
  have hj : j < pre.length := by omega
  refine ⟨j, hj, ?_⟩
  have := kl j hj
  rw [List.getElem?_eq_getElem hj1, hj2] at this
  exact Option.some.inj this
 have lq : ∀ j, ZN (kap κ n j) post' = if j ∈ ch then some ((lkO post j).map (ZfG (kap κ n))) else none := fun j => by
  subst eq
  exact Zqp (g := fun j => (lkO post j).map (ZfG (kap κ n))) kinj j ch
 refine h.call κ n hκ hnd hlt hle hA (ZoO hpre) hv (Zkp hpost) eA ev edn lp ip (fun j hj => ?_) (fun k o ho => ?_)
 ·unfold behind
  rw [lq j]
  rcases Zon hk j hj with hc | ⟨h1, h2⟩
  ·rw [Nat.zero_add] at hc
   rw [if_pos hc]
  ·by_cases hc : j ∈ ch
   ·rw [if_pos hc]
   ·rw [if_neg hc]
    have ho : pre[j]? = some pre[j] := List.getElem?_eq_getElem h1
    show ZN (kap κ n j) pre' = _
    rw [lp j _ ho]
    simp [lkO, h2, ho]
 ·unfold behind at ho
  split at ho
  ·rename_i o' hl
   subst eq
   have := ZgF hl
   unfold Zpz at this
   obtain ⟨j, hj, he⟩ := List.mem_map.1 this
   injection he with h1 h2
   exact ⟨j, hch j hj, h1.symm⟩
  ·obtain ⟨j, hj, hk⟩ := ip k o ho
   exact ⟨j, by omega, hk⟩
end
theorem ZfS {α β : Type} {a a' : α} {b b' : β} (h : a = a') (k : b = b') : (a, b) = (a', b') := by rw [h, k]
theorem Zoo {α : Type} {a a' : α} (h : a = a') : some a = some a' := by rw [h]
theorem Zig {l r : List Value} (h : l = r) : l.toArray = r.toArray := by rw [h]
section
variable {P : Program} {ext : FuncId → Option Ext}
variable {fn : Func} {pre : List AObj} {v : Value} {po : List (Option AObj)} {X : Type} {m i : Nat} {L : X → List (Nat × Value)} {H : X → List AObj} {μ : X → Nat} {bd : X → List Nat} {Gb : List Nat → Ren → World → (Nat → Act → World → Prop) → Prop} {x : X} {c : Code} {K : List Zay} {T0 : Tr Value} {fu : Nat} {orc : Orc} {live : List Nat} {bl : List (Option AObj)} {ob : List (Bool × Bool)}
end
/-! ### A law -/
theorem Zwl (P : Program) {w : World} (ht : TabW w) : Emb P (ιMk w) (lk []) w := by
 rw [show lk [] = fun _ => none from funext fun k => by simp [lk]]
 exact ZrE P ht
theorem Zu3 {v : Value} (h : Zcv v = true) : ZbA v = false := by
 cases hz : ZbA v with
 | false => rfl
 | true =>
  unfold ZbA at hz
  split at hz
  ·simp only [Zcv, ZaQ, atom] at h
   simp [h] at hz
  ·cases hz
theorem Zwm {P : Program} {f : FuncId} {A : Array Value} {post : List (Option AObj)} {v : Value} (h : LSpec P f A [] v post) {w : World} {args' : Array Value} (ha : VRs (ιMk w) A args') (hv : Zcv v = true) (ht : TabW w := by first | assumption | (intro x hx; cases hx; done)) : Calls P f args' w (Ret v w) := by
 refine (h (ιMk w) w args' (fun k hk => ?_) ha (Zwl P ht)).mono ?_
 ·cases hq : ιMk w k with
  | none => exact absurd hq hk
  | some q =>
   obtain ⟨b, base, id, rfl, _⟩ := ιMk_inv hq
   exact .inr (ZbJ b base id)
 ·rintro e w' (⟨v', ι', rfl, hS, _, hvr⟩ | ⟨ht, _⟩)
  rotate_left
  ·rw [Zu3 hv] at ht; cases ht
  have := hvr.eq_of_free hv
  subst this
  exact ⟨rfl, hS.os, hS.tape, hS.output, hS.size, fun b hb => hS.frame b hb fun k c hk => by cases hk⟩
end Ev
end Go.Proofs.YtiijipocjellpaaGreat
/- Arguments that are slices of structs of ints, opened, over any program. -/
namespace Go.Proofs.YtiijipocjellpaaGreat
open Go.ChangeShapes Go.WideShapes Go.ChangeAt Go.RowKit Go.Deep
section
variable {H : Type} {enc : TypeId × Value → H} {P : Program} {w : World}

end
end Go.Proofs.YtiijipocjellpaaGreat
/- Arguments that are rows of numbers: blocks of the caller's, that are read alone. -/
namespace Go.Proofs.YtiijipocjellpaaGreat
open Go.ChangeShapes Go.WideShapes Go.ChangeAt Go.RowKit
namespace Ev
section
variable {P : Program} {w : World}
theorem ZkF {b o : Nat} {v : Value} (h : w.cell? ⟨b, o, none⟩ = some v) : ∃ C t fr, w.heap[b]? = some (.cells C t fr) ∧ C[o]? = some v := by
 unfold World.cell? at h
 split at h
 ·rename_i c e fr hb
  split at h
  ·cases h
  ·exact ⟨c, e, fr, hb, h⟩
 ·cases h
end
inductive StopC where
 | fin (v : Value) (s : St)
 | head (a : Code) (K : List Zay) (T : Tr Value) (s : St)
 | next (i : Nat) (T : Tr Value) (s : St)
 | cut (b : Code) (K : List Zay) (T : Tr Value) (s : St)
 | thr (u : Value) (s : St)
noncomputable section
def StopC.s : StopC → St
 | .fin _ s => s
 | .head _ _ _ s => s
 | .next _ _ s => s
 | .cut _ _ _ s => s
 | .thr _ s => s
def Zqq (s : St) : Option Value → Option StopC
 | some v => some (.fin v s)
 | none => none
def Zqr : Option (Value × Tr Value × St) → Option StopC
 | some (u, _, s) => bif ZbA u then some (.thr u s) else none
 | none => none
def Zt2 (P : Program) (fn : Func) (e : Ex) (T : Tr Value) (s : St) : Option StopC :=
 match e with
 | .exit _ => none
 | .normal => Zqq s (Zs6 P fn T s)
 | .ret => Zqq s (Zs6 P fn T s)
mutual
def Zd3 (P : Program) (ext : FuncId → Option Ext) (fn : Func) (nt cd : Nat) : Nat → Nat → Code → List Zay → Tr Value → St → Option StopC
 | 0, _, _, _, _, _ => none
 | fu + 1, cm, c, K, T, s => match c with
  | .seq a b => Zd3 P ext fn nt cd fu cm a (.seq b :: K) T s
  | .scope a => Zd3 P ext fn nt cd fu cm a (.scp :: K) T s
  | .block id a => Zd3 P ext fn nt cd fu cm a (.blk id :: K) T s
  | .cond x a b => match opnd T x with
   | .bool t => match t with
    | true => Zd3 P ext fn nt cd fu cm a K T s
    | false => Zd3 P ext fn nt cd fu cm b K T s
   | _ => none
  | .loop a => some (.head a K T s)
  | c => match ZT P ext nt fu c T s with
   | some (e, T', s') => Zcl P ext fn nt cd fu cm K e T' s'
   | none => Zqr (Zbj P ext nt (ZdK P ext fu) fu c T s)
termination_by structural fu _ _ _ _ _ => fu
def Zcl (P : Program) (ext : FuncId → Option Ext) (fn : Func) (nt cd : Nat) : Nat → Nat → List Zay → Ex → Tr Value → St → Option StopC
 | 0, _, _, _, _, _ => none
 | fu + 1, cm, K, e, T, s => match K with
  | [] => Zt2 P fn e T s
  | .seq b :: K => match e with
   | .normal => match Nat.beq K.length cd with
    | false => Zd3 P ext fn nt cd fu cm b K T s
    | true => match cm with
     | 0 => some (.cut b K T s)
     | m + 1 => Zd3 P ext fn nt cd fu m b K T s
   | .exit i => Zcl P ext fn nt cd fu cm K (.exit i) T s
   | .ret => Zcl P ext fn nt cd fu cm K .ret T s
  | .blk id :: K => match e with
   | .exit i => bif Nat.beq i id then Zcl P ext fn nt cd fu cm K .normal T s else Zcl P ext fn nt cd fu cm K (.exit i) T s
   | .normal => Zcl P ext fn nt cd fu cm K .normal T s
   | .ret => Zcl P ext fn nt cd fu cm K .ret T s
  | .scp :: K => Zcl P ext fn nt cd fu cm K e T s
  | .rnd i :: K => match e with
   | .normal => some (.next i T s)
   | .exit j => Zcl P ext fn nt cd fu cm K (.exit j) T s
   | .ret => Zcl P ext fn nt cd fu cm K .ret T s
termination_by structural fu _ _ _ _ _ => fu
end
end
section
variable {P : Program} {ext : FuncId → Option Ext}
theorem Zqs {s : St} {o : Option Value} {st : StopC} (h : Zqq s o = some st) : ∃ v, st = .fin v s ∧ o = some v := by
 cases o with
 | none => cases h
 | some v => injection h with h; exact ⟨v, h.symm, rfl⟩
theorem Zqt {fn : Func} {e : Ex} {T : Tr Value} {s : St} {st : StopC} (h : Zt2 P fn e T s = some st) : ∃ v, st = .fin v s ∧ (match e with | .exit _ => False | _ => True) ∧ (match Zbu P T s fn.results.toList with | some [v] => some v | some vs => some (.tuple vs.toArray) | none => none) = some v := by
 cases e with
 | exit i => cases h
 | normal => obtain ⟨v, h1, h2⟩ := Zqs h; exact ⟨v, h1, trivial, h2⟩
 | ret => obtain ⟨v, h1, h2⟩ := Zqs h; exact ⟨v, h1, trivial, h2⟩
theorem ZoP {o : Option (Value × Tr Value × St)} {st : StopC} (h : Zqr o = some st) : ∃ u T s, o = some (u, T, s) ∧ ZbA u = true ∧ st = .thr u s := by
 unfold Zqr at h
 split at h
 ·rename_i u T s
  obtain ⟨h1, h2⟩ := Zl h
  injection h2 with h2
  exact ⟨u, T, s, rfl, h1, h2.symm⟩
 ·cases h
theorem Zqu (F : Fit P ext) {fn : Func} {nt cd : Nat} : ∀ fu : Nat, (∀ cm c K T s st, Zd3 P ext fn nt cd fu cm c K T s = some st → Up s st.s) ∧ (∀ cm K e T s st, Zcl P ext fn nt cd fu cm K e T s = some st → Up s st.s) := by
 intro fu
 induction fu with
 | zero => exact ⟨fun _ _ _ _ _ _ h => by simp [Zd3] at h, fun _ _ _ _ _ _ h => by simp [Zcl] at h⟩
 | succ fu ih =>
  obtain ⟨ihT, ihB⟩ := ih
  have other : ∀ cm c K T s st, (match ZT P ext nt fu c T s with | some (e, T', s') => Zcl P ext fn nt cd fu cm K e T' s' | none => Zqr (Zbj P ext nt (ZdK P ext fu) fu c T s)) = some st → Up s st.s := fun cm c K T s st h => by
   split at h
   ·exact ((Zb7 (P := P) (ext := ext) (fun f g hg => (F.hp f g hg).up) fu).1 _ _ _ _ _ _ _ (by assumption)).trans (ihB _ _ _ _ _ _ h)
   ·obtain ⟨u, T', s', hx, _, rfl⟩ := ZoP h
    exact Zic F (Zs8 F fu) fu _ _ _ _ _ _ hx
  refine ⟨fun cm c K T s st h => ?_, fun cm K e T s st h => ?_⟩
  ·cases c <;> simp only [Zd3] at h
   case seq a b => exact ihT _ _ _ _ _ _ h
   case scope a => exact ihT _ _ _ _ _ _ h
   case block id a => exact ihT _ _ _ _ _ _ h
   case cond x a b =>
    split at h
    ·split at h
     ·exact ihT _ _ _ _ _ _ h
     ·exact ihT _ _ _ _ _ _ h
    ·cases h
   case loop a => injection h with h; subst h; exact Up.refl _
   all_goals exact other _ _ _ _ _ _ h
  ·cases K with
   | nil => simp only [Zcl] at h; obtain ⟨v, rfl, _⟩ := Zqt h; exact Up.refl _
   | cons k K =>
    cases k <;> simp only [Zcl] at h
    ·cases e <;> simp only at h
     ·split at h
      ·exact ihT _ _ _ _ _ _ h
      ·split at h
       ·injection h with h; subst h; exact Up.refl _
       ·exact ihT _ _ _ _ _ _ h
     ·exact ihB _ _ _ _ _ _ h
     ·exact ihB _ _ _ _ _ _ h
    ·cases e <;> simp only at h
     ·exact ihB _ _ _ _ _ _ h
     ·rename_i id i
      cases hb : Nat.beq i id <;> rw [hb] at h <;> exact ihB _ _ _ _ _ _ h
     ·exact ihB _ _ _ _ _ _ h
    ·exact ihB _ _ _ _ _ _ h
    ·cases e <;> simp only at h
     ·injection h with h; subst h; exact Up.refl _
     ·exact ihB _ _ _ _ _ _ h
     ·exact ihB _ _ _ _ _ _ h
def Zl3 (P : Program) (fn : Func) (R : Ending → World → Prop) (Nx : Nat → Act → World → Prop) (nt : Nat) (ι : Ren) (a : Act) (w : World) : StopC → Prop
 | .fin v _ => ∀ v', VR ι v v' → R (.returned v') w
 | .head b K T _ => TR ι nt [] T a → (Code.loop b).wp P (post P fn R Nx K) a w
 | .next i T _ => TR ι nt [] T a → Nx i a w
 | .cut b K T _ => TR ι nt [] T a → b.wp P (post P fn R Nx K) a w
 | .thr u _ => ZbA u = true → R (.panicked (Zfd u)) w
theorem Zgk {fn : Func} {R : Ending → World → Prop} {Nx : Nat → Act → World → Prop} {ch : List PanicEntry} {a : Act} {w : World} (ha : a.defers = []) (h : R (.panicked ch) w) : ∀ K : List Zay, post P fn R Nx K (.panic ch) a w
 | [] => ⟨ha, h⟩
 | .seq b :: K => Zgk ha h K
 | .blk id :: K => Zgk ha h K
 | .scp :: K => Zgk ha h K
 | .rnd i :: K => Zgk ha h K
theorem ZoQ (F : Fit P ext) {fn : Func} {nt cd : Nat} {R : Ending → World → Prop} {Nx : Nat → Act → World → Prop} : ∀ fu : Nat,
  (∀ cm c K T s st, Zd3 P ext fn nt cd fu cm c K T s = some st → (∀ p ∈ st.s.ob, p.1 = p.2) → ∀ ι a w, TR ι nt [] T a → Emb P ι s.h.get w → Fresh ι s.n st.s.n →
   (∀ ι' a' w', Step P ι s.h.get w ι' st.s.h.get w' → Dom ι ι' s.n st.s.n → Zl3 P fn R Nx nt ι' a' w' st) → c.wp P (post P fn R Nx K) a w) ∧
  (∀ cm K e T s st, Zcl P ext fn nt cd fu cm K e T s = some st → (∀ p ∈ st.s.ob, p.1 = p.2) → ∀ ι a w, TR ι nt [] T a → Emb P ι s.h.get w → Fresh ι s.n st.s.n →
   (∀ ι' a' w', Step P ι s.h.get w ι' st.s.h.get w' → Dom ι ι' s.n st.s.n → Zl3 P fn R Nx nt ι' a' w' st) → post P fn R Nx K e.out a w) := by
 intro fu
 induction fu with
 | zero => exact ⟨fun _ _ _ _ _ _ h => by simp [Zd3] at h, fun _ _ _ _ _ _ h => by simp [Zcl] at h⟩
 | succ fu ih =>
  obtain ⟨ihT, ihB⟩ := ih
  have other : ∀ cm c K T s st, (match ZT P ext nt fu c T s with | some (e, T', s') => Zcl P ext fn nt cd fu cm K e T' s' | none => Zqr (Zbj P ext nt (ZdK P ext fu) fu c T s)) = some st → (∀ p ∈ st.s.ob, p.1 = p.2) → ∀ ι a w, TR ι nt [] T a → Emb P ι s.h.get w → Fresh ι s.n st.s.n →
   (∀ ι' a' w', Step P ι s.h.get w ι' st.s.h.get w' → Dom ι ι' s.n st.s.n → Zl3 P fn R Nx nt ι' a' w' st) → c.wp P (post P fn R Nx K) a w := fun cm c K T s st h ho ι a w hT he hf hQ => by
   split at h
   ·rename_i e T1 s1 h1
    have u1 := (Zb7 (P := P) (ext := ext) (fun f g hg => (F.hp f g hg).up) fu).1 _ _ _ _ _ _ _ h1
    have u2 := (Zqu F (fn := fn) (nt := nt) fu).2 _ _ _ _ _ _ h
    refine wp_mono (ZuY F h1 (Za8 u2.ob ho) hT he (hf.mono (Nat.le_refl _) u2.n)) ?_
    rintro ex a1 w1 ⟨rfl, ι1, g1, g2, g3⟩
    exact ihB _ K e T1 s1 st h ho ι1 a1 w1 g3 g1.emb (hf.after g2 u1.n) fun ι' a' w' k1 k2 => hQ ι' a' w' (g1.trans k1) (g2.trans k2 u1.n u2.n)
   ·obtain ⟨u, T', s', hx, ht, rfl⟩ := ZoP h
    refine wp_mono ((Ztu F (Zs8 F fu) fu).1 c T s u T' s' hx ho ι [] a w hT he hf) ?_
    rintro ex a1 w1 ⟨ι1, rfl, g1, g2, g3⟩
    exact Zgk g3.2.1 (hQ ι1 a1 w1 g1 g2 ht) K
  refine ⟨fun cm c K T s st h ho ι a w hT he hf hQ => ?_, fun cm K e T s st h ho ι a w hT he hf hQ => ?_⟩
  ·have h0 := h
   cases c <;> simp only [Zd3] at h
   case seq x y => exact wp_seq (ihT _ x (.seq y :: K) T s st h ho ι a w hT he hf hQ)
   case scope x => exact wp_scope_straight (ihT _ x (.scp :: K) T s st h ho ι a w hT he hf hQ)
   case block id x => exact wp_block (ihT _ x (.blk id :: K) T s st h ho ι a w hT he hf hQ)
   case cond x y z =>
    split at h
    ·rename_i t ht
     have hx : a.eval x = .bool t := Zed ((ht ▸ hT.opnd x : VR ι (.bool t) (Zbq a x)).bool_inv)
     split at h
     ·exact wp_cond_true hx (ihT _ y K T s st h ho ι a w hT he hf hQ)
     ·exact wp_cond_false hx (ihT _ z K T s st h ho ι a w hT he hf hQ)
    ·cases h
   case loop x =>
    injection h with h
    subst h
    exact hQ ι a w (Step.refl he) Dom.refl hT
   all_goals exact other _ _ K T s st h ho ι a w hT he hf hQ
  ·cases K with
   | nil =>
    simp only [Zcl] at h
    obtain ⟨v, rfl, hne, hr⟩ := Zqt h
    obtain ⟨v', hrun, hv⟩ := ZcX hT he hr
    have := hQ ι a w (Step.refl he) Dom.refl v' hv
    cases e with
    | normal => exact ⟨hT.2.1, v', hrun, this⟩
    | ret => exact ⟨hT.2.1, v', hrun, this⟩
    | exit i => exact hne.elim
   | cons k K =>
    cases k with
    | seq b =>
     simp only [Zcl] at h
     cases e with
     | normal =>
      simp only at h
      split at h
      ·exact ihT _ b K T s st h ho ι a w hT he hf hQ
      ·split at h
       ·injection h with h
        subst h
        exact hQ ι a w (Step.refl he) Dom.refl hT
       ·exact ihT _ b K T s st h ho ι a w hT he hf hQ
     | exit i => exact ihB _ K (.exit i) T s st h ho ι a w hT he hf hQ
     | ret => exact ihB _ K .ret T s st h ho ι a w hT he hf hQ
    | blk id =>
     simp only [Zcl] at h
     cases e with
     | normal => exact ihB _ K .normal T s st h ho ι a w hT he hf hQ
     | ret => exact ihB _ K .ret T s st h ho ι a w hT he hf hQ
     | exit i =>
      simp only at h
      show if i = id then _ else _
      cases hb : Nat.beq i id with
      | true =>
       rw [hb] at h
       rw [if_pos (Nat.eq_of_beq_eq_true hb)]
       exact ihB _ K .normal T s st h ho ι a w hT he hf hQ
      | false =>
       rw [hb] at h
       rw [if_neg (fun e => by rw [Zgg e] at hb; cases hb)]
       exact ihB _ K (.exit i) T s st h ho ι a w hT he hf hQ
    | scp =>
     simp only [Zcl] at h
     have := ihB _ K e T s st h ho ι a w hT he hf hQ
     cases e <;> exact this
    | rnd i =>
     simp only [Zcl] at h
     cases e with
     | normal =>
      injection h with h
      subst h
      exact hQ ι a w (Step.refl he) Dom.refl hT
     | exit j => exact ihB _ K (.exit j) T s st h ho ι a w hT he hf hQ
     | ret => exact ihB _ K .ret T s st h ho ι a w hT he hf hQ
end
noncomputable section
def ZhH (live : List Nat) (r : Option StopC) : Option (Value × List (Option AObj) × List (Bool × Bool)) :=
 match r with
 | some (.fin u s) => bif Nat.ble s.n 500000000 then some (u, live.map s.h.get, s.ob) else none
 | _ => none
def Zkq (i : Nat) (live temps : List Nat) (r : Option StopC) : Option (List (Option Value) × List (Option AObj) × List (Bool × Bool)) :=
 match r with
 | some (.next j T s) => bif Nat.beq j i && Nat.ble s.n 500000000 then some (temps.map T.get, live.map s.h.get, s.ob) else none
 | _ => none
def ZfH (live temps : List Nat) (r : Option StopC) : Option ((Code × List Zay) × List (Option Value) × List (Option AObj) × List (Bool × Bool)) :=
 match r with
 | some (.head b K T s) => bif Nat.ble s.n 500000000 then some ((b, K), temps.map T.get, live.map s.h.get, s.ob) else none
 | _ => none
def ZnB (live temps : List Nat) (r : Option StopC) : Option ((Code × List Zay) × List (Option Value) × List (Option AObj) × List (Bool × Bool)) :=
 match r with
 | some (.cut b K T s) => bif Nat.ble s.n 500000000 then some ((b, K), temps.map T.get, live.map s.h.get, s.ob) else none
 | _ => none
end
theorem Zl4 {live : List Nat} {r : Option StopC} {u : Value} {bl : List (Option AObj)} {ob : List (Bool × Bool)} (h : ZhH live r = some (u, bl, ob)) : ∃ s, r = some (.fin u s) ∧ live.map s.h.get = bl ∧ s.ob = ob ∧ s.n ≤ 500000000 := by
 unfold ZhH at h
 split at h
 ·rename_i u' s
  obtain ⟨hn, h⟩ := Zl h
  injection h with h
  simp only [Prod.mk.injEq] at h
  obtain ⟨rfl, rfl, rfl⟩ := h
  exact ⟨s, rfl, rfl, rfl, Nat.le_of_ble_eq_true hn⟩
 ·cases h
theorem Zpi {i : Nat} {live temps : List Nat} {r : Option StopC} {tv : List (Option Value)} {bl : List (Option AObj)} {ob : List (Bool × Bool)} (h : Zkq i live temps r = some (tv, bl, ob)) : ∃ T s, r = some (.next i T s) ∧ temps.map T.get = tv ∧ live.map s.h.get = bl ∧ s.ob = ob ∧ s.n ≤ 500000000 := by
 unfold Zkq at h
 split at h
 ·rename_i j T s
  obtain ⟨hn, h⟩ := Zl h
  simp only [Bool.and_eq_true] at hn
  injection h with h
  simp only [Prod.mk.injEq] at h
  obtain ⟨rfl, rfl, rfl⟩ := h
  exact ⟨T, s, by rw [Nat.eq_of_beq_eq_true hn.1], rfl, rfl, rfl, Nat.le_of_ble_eq_true hn.2⟩
 ·cases h
theorem Zhp {live temps : List Nat} {r : Option StopC} {bK : Code × List Zay} {tv : List (Option Value)} {bl : List (Option AObj)} {ob : List (Bool × Bool)} (h : ZfH live temps r = some (bK, tv, bl, ob)) : ∃ T s, r = some (.head bK.1 bK.2 T s) ∧ temps.map T.get = tv ∧ live.map s.h.get = bl ∧ s.ob = ob ∧ s.n ≤ 500000000 := by
 unfold ZfH at h
 split at h
 ·rename_i b K T s
  obtain ⟨hn, h⟩ := Zl h
  injection h with h
  simp only [Prod.mk.injEq] at h
  obtain ⟨rfl, rfl, rfl, rfl⟩ := h
  exact ⟨T, s, rfl, rfl, rfl, rfl, Nat.le_of_ble_eq_true hn⟩
 ·cases h
theorem Zrn {live temps : List Nat} {r : Option StopC} {bK : Code × List Zay} {tv : List (Option Value)} {bl : List (Option AObj)} {ob : List (Bool × Bool)} (h : ZnB live temps r = some (bK, tv, bl, ob)) : ∃ T s, r = some (.cut bK.1 bK.2 T s) ∧ temps.map T.get = tv ∧ live.map s.h.get = bl ∧ s.ob = ob ∧ s.n ≤ 500000000 := by
 unfold ZnB at h
 split at h
 ·rename_i b K T s
  obtain ⟨hn, h⟩ := Zl h
  injection h with h
  simp only [Prod.mk.injEq] at h
  obtain ⟨rfl, rfl, rfl, rfl⟩ := h
  exact ⟨T, s, rfl, rfl, rfl, rfl, Nat.le_of_ble_eq_true hn⟩
 ·cases h
section
variable {P : Program} {ext : FuncId → Option Ext}
theorem Zt3 (F : Fit P ext) {f : FuncId} {fn : Func} {c : Code} (hfn : P.funcs[f]? = some fn) (hb : fn.body = some c) {A : Array Value} {pre : List AObj} {v : Value} {post : List (Option AObj)} (hA : Nat.ble A.size fn.ntmps = true) {fu : Nat} {orc : Orc} {cd cm : Nat} {st : StopC}
  (hev : Zd3 P ext fn fn.ntmps cd fu cm c [] (ZcN 0 A.toList .nil) ⟨ZcO 0 pre, pre.length, [], orc, []⟩ = some st) (ho : ∀ p ∈ st.s.ob, p.1 = p.2) (hn : st.s.n ≤ far)
  (hto : ∀ ι0 w0, (∀ k, ι0 k ≠ none → k < pre.length ∨ ZJ k) → ∀ ι' a' w', Step P ι0 (lk pre) w0 ι' st.s.h.get w' → Dom ι0 ι' pre.length st.s.n → Zl3 P fn (Fin P ι0 pre w0 v post) (fun _ _ _ => False) fn.ntmps ι' a' w' st) : LSpec P f A pre v post := by
 intro ι w args' hd ha he
 refine calls_of_wp hfn hb ?_
 have := (ZoQ F (R := Fin P ι pre w v post) (Nx := fun _ _ _ => False) fu).1 cm c [] _ _ st hev ho ι _ w (ZfP ha (Nat.le_of_ble_eq_true hA)) (by show Emb P ι (ZcO 0 pre).get w; rw [Zd9]; exact he)
  ⟨hn, fun k h1 h2 => by
   cases hk : ι k with
   | none => rfl
   | some b => exact absurd (hd k (by rw [hk]; simp)) (by have h3 : pre.length ≤ k := h1; have h4 : st.s.n ≤ 1000000000 := hn; have h5 : k < st.s.n := h2; unfold ZJ; omega)⟩
  (fun ι' a' w' g1 g2 => hto ι w hd ι' a' w' (by have := g1; simp only [Zd9] at this; exact this) g2)
 exact this
end
def Zt : List Zay → List Nat
  | [] => []
  | .rnd i :: K => i :: Zt K
  | .seq _ :: K => Zt K
  | .blk _ :: K => Zt K
  | .scp :: K => Zt K
def Zaw {X R : Type} (step : X → Option (X ⊕ R)) : Nat → X → Option R
  | 0, _ => none
  | n + 1, x => match step x with
    | none => none
    | some (.inl y) => Zaw step n y
    | some (.inr r) => some r
def goM {X R : Type} (step : X → Option (X ⊕ R)) (n : Nat) (o : Option (X ⊕ R)) : Option R :=
  match o with
  | none => none
  | some (.inl y) => Zaw step n y
  | some (.inr r) => some r
theorem ZB (n : Nat) (h : Nat.ble n 1000000000 = true) : n ≤ far := Nat.le_of_ble_eq_true h
theorem ZoR {P : Program} {c : Code} {Q : Exit → Act → World → Prop} : ∀ (n m : Nat), n ≤ m → ∀ a w, Code.rounds P c Q n a w → Code.rounds P c Q m a w
  | 0, _, _, _, _, h => h.elim
  | n + 1, 0, hm, _, _, _ => by omega
  | n + 1, m + 1, hm, a, w, h => by
    rw [rounds_succ] at h ⊢
    refine wp_mono h ?_
    intro e a' w' h'
    cases e with
    | normal => exact ZoR n m (by omega) a' w' h'
    | exit i => exact h'
    | goto l => exact h'
    | ret => exact h'
    | panic ch => exact h'
    | outgrown => exact h'
theorem Zfw {P : Program} {fn : Func} {R : Ending → World → Prop} {Nx Nx' : Nat → Act → World → Prop} : ∀ {K : List Zay}, (∀ j ∈ Zt K, Nx' j = Nx j) → post P fn R Nx' K = post P fn R Nx K
  | [], _ => rfl
  | .seq b :: K, h => by simp only [post]; rw [Zfw (K := K) h]
  | .blk id :: K, h => by simp only [post]; rw [Zfw (K := K) h]
  | .scp :: K, h => by simp only [post]; rw [Zfw (K := K) h]
  | .rnd j :: K, h => by
    simp only [post]
    rw [Zfw (K := K) fun j hj => h j (List.mem_cons_of_mem _ hj), h j (List.mem_cons_self ..)]
noncomputable def ZbT : Nat → List (Option AObj) → Tr AObj
  | _, [] => .nil
  | i, none :: l => ZbT (i + 1) l
  | i, some o :: l => (ZbT (i + 1) l).set i (some o)
theorem Zl5 : ∀ (l : List (Option AObj)) (i k : Nat), (ZbT i l).get k = if i ≤ k then (l[k - i]?).join else none
  | [], i, k => by
    show (Tr.nil : Tr AObj).get k = _
    rw [Tr.get_nil]
    split <;> simp
  | none :: l, i, k => by
    show (ZbT (i + 1) l).get k = _
    rw [Zl5 l (i + 1) k]
    by_cases h : i + 1 ≤ k
    · rw [if_pos h, if_pos (by omega)]
      have : k - i = (k - (i + 1)) + 1 := by omega
      rw [this, List.getElem?_cons_succ]
    · rw [if_neg h]
      by_cases hk : i ≤ k
      · rw [if_pos hk, show k - i = 0 by omega]; rfl
      · rw [if_neg hk]
  | some o :: l, i, k => by
    show ((ZbT (i + 1) l).set i (some o)).get k = _
    rw [Tr.get_set]
    by_cases hk : k = i
    · subst hk; rw [Zm, if_pos (Nat.le_refl _)]; simp
    · rw [Ze hk, Zl5 l (i + 1) k]
      by_cases h : i + 1 ≤ k
      · rw [if_pos h, if_pos (by omega)]
        have : k - i = (k - (i + 1)) + 1 := by omega
        rw [this, List.getElem?_cons_succ]
      · rw [if_neg h, if_neg (by omega)]
theorem Zih (l : List (Option AObj)) : (ZbT 0 l).get = lkO l := funext fun k => by rw [Zl5]; simp [lkO]
theorem Zeg {nt m : Nat} {lt : List (Nat × Value)} {H : List (Option AObj)} {T : Tr Value} {s : St} {live : List Nat} (hl : live.length = m) (hn : live.Nodup) (ht : Zb1 (rho live far) ((lt.map (·.1)).map T.get) lt) (hb : Zy (rho live far) (live.map s.h.get) H) : Zoh nt m (fun t => ZN t lt) (ZbT 0 H) T s live := by
  refine ⟨hl, hn, fun t v _ h => Zqn ht t v h, fun j o ho => ?_⟩
  rw [Zih] at ho
  exact Zd2 hb j o ho
/-! ### A slice of no room may stand for a nil one -/
def WkV (x y : Value) : Prop := x = y ∨ (x = .slice none 0 0 ∧ ∃ A : Addr, y = .slice (some A) 0 0)
def WkC : List Value → List Value → Prop
  | [], [] => True
  | x :: l, y :: m => WkV x y ∧ WkC l m
  | _, _ => False
def WkO (a b : Option AObj) : Prop := a = b ∨ (∃ c c' t q, a = some (.cells c t q) ∧ b = some (.cells c' t q) ∧ WkC c c') ∨ ∃ c c' t, a = some (.cells c t) ∧ b = some (.cells c' t true) ∧ WkC c c'
def WkL : List (Option AObj) → List (Option AObj) → Prop
  | [], [] => True
  | a :: l, b :: m => WkO a b ∧ WkL l m
  | _, _ => False
theorem WkL.refl : ∀ l, WkL l l
  | [] => trivial
  | _ :: l => ⟨.inl rfl, WkL.refl l⟩
theorem WkL.len : ∀ {l m}, WkL l m → l.length = m.length
  | [], [], _ => rfl
  | _ :: l, _ :: m, h => congrArg (· + 1) h.2.len
  | [], _ :: _, h => h.elim
  | _ :: _, [], h => h.elim
theorem WkL.at_ : ∀ {l m}, WkL l m → ∀ k, WkO (lkO l k) (lkO m k)
  | [], [], _, k => .inl rfl
  | a :: l, b :: m, h, 0 => by simpa [lkO] using h.1
  | a :: l, b :: m, h, k + 1 => by
    have := h.2.at_ k
    simpa [lkO] using this
  | [], _ :: _, h, _ => h.elim
  | _ :: _, [], h, _ => h.elim
theorem WkV.vr {ι : Ren} {x y r : Value} (h : WkV x y) (hv : VR ι x r) : VR ι y r := by
  rcases h with rfl | ⟨rfl, A, rfl⟩
  · exact hv
  · cases hv with
    | atom h => exact .slice0 fun _ => rfl
theorem WkC.cells : ∀ {c c' : List Value}, WkC c c' → c.length = c'.length ∧ ∀ (i : Nat) y, c'[i]? = some y → ∃ x, c[i]? = some x ∧ WkV x y
  | [], [], _ => ⟨rfl, fun i y h => by simp at h⟩
  | x :: l, y :: m, h => by
    obtain ⟨h1, h2⟩ := h.2.cells
    refine ⟨congrArg (· + 1) h1, fun i z hz => ?_⟩
    cases i with
    | zero => exact ⟨x, rfl, by have : y = z := by simpa using hz
                                exact this ▸ h.1⟩
    | succ i =>
      obtain ⟨x', q1, q2⟩ := h2 i z (by simpa using hz)
      exact ⟨x', by simpa using q1, q2⟩
  | [], _ :: _, h => h.elim
  | _ :: _, [], h => h.elim
theorem WkC.nil {c c' : List Value} (h : WkC c c') : c'.isEmpty = c.isEmpty := by
  cases c <;> cases c' <;> first | rfl | exact h.elim
theorem WkO.kind {a b : Option AObj} (h : WkO a b) : (∀ d, ZM b d = true → ZM a d = true) ∧ ∀ d, ZW b d = true → ZW a d = true := by
  rcases h with rfl | ⟨c, c', t, q, rfl, rfl, hw⟩ | ⟨c, c', t, rfl, rfl, hw⟩
  · exact ⟨fun _ h => h, fun _ h => h⟩
  · have e1 : isC (some (.cells c' t q)) = isC (some (.cells c t q)) := by
      cases q with
      | false => rfl
      | true => show (!c'.isEmpty) = (!c.isEmpty); rw [hw.nil]
    have e2 : sol (some (.cells c' t q)) = sol (some (.cells c t q)) := e1
    exact ⟨fun d h => by unfold ZM at h ⊢; rw [e1] at h; exact h, fun d h => by unfold ZW at h ⊢; rw [e2] at h; exact h⟩
  · exact ⟨fun _ _ => rfl, fun _ _ => rfl⟩
theorem Emb.weaken {P : Program} {ι : Ren} {h h' : AH} {w : World} (e : Emb P ι h w) (hw : ∀ k, WkO (h k) (h' k)) : Emb P ι h' w where
  obj := fun k c t q hk => by
    rcases hw k with z | ⟨c1, c2, t1, q1, z1, z2, z3⟩ | ⟨c1, c2, t1, z1, z2, z3⟩
    · exact e.obj k c t q (z.trans hk)
    · rw [z2] at hk
      injection hk with hk
      injection hk with hc ht hq
      subst hc ht hq
      obtain ⟨b, hb, ⟨y1, y2, y3⟩ | ⟨y1, C, r2, r3, r4⟩⟩ := e.obj k c1 t1 q1 z1
      · subst y2
        refine ⟨b, hb, .inl ⟨y1, ?_, y3⟩⟩
        cases c2 with
        | nil => rfl
        | cons x l => exact z3.elim
      · obtain ⟨l1, l2⟩ := z3.cells
        refine ⟨b, hb, .inr ⟨?_, C, r2, ⟨l1 ▸ r3.1, fun i x y hx hy => ?_⟩, r4⟩⟩
        · have e1 : isC (some (.cells c2 t1 q1)) = isC (some (.cells c1 t1 q1)) := by
            cases q1 with
            | false => rfl
            | true => show (!c2.isEmpty) = (!c1.isEmpty); rw [z3.nil]
          unfold ZM at y1 ⊢
          rw [e1]; exact y1
        · obtain ⟨x', w1, w2⟩ := l2 i x hx
          exact w2.vr (r3.2 i x' y w1 hy)
    · rw [z2] at hk
      injection hk with hk
      injection hk with hc ht hq
      subst hc ht hq
      obtain ⟨b, C, hb, r2, r3, r4⟩ := e.objF k c1 t1 z1
      obtain ⟨l1, l2⟩ := z3.cells
      by_cases hz : c2 = [] ∧ b.2 = 0
      · exact ⟨b, hb, .inl ⟨rfl, hz.1, hz.2⟩⟩
      refine ⟨b, hb, .inr ⟨?_, C, r2, ⟨l1 ▸ r3.1, fun i x y hx hy => ?_⟩, r4⟩⟩
      · cases c2 with
        | nil =>
          have hb2 : b.2 ≠ 0 := fun h => hz ⟨rfl, h⟩
          show (false || (true && !Nat.beq b.2 0)) = true
          cases hq : Nat.beq b.2 0 with
          | true => exact absurd (Nat.eq_of_beq_eq_true hq) hb2
          | false => rfl
        | cons x l => rfl
      · obtain ⟨x', w1, w2⟩ := l2 i x hx
        exact w2.vr (r3.2 i x' y w1 hy)
  ro := fun {m} k O hk => by
    rcases hw k with q | ⟨c1, c2, t1, q1, z1, z2, z3⟩ | ⟨c1, c2, t1, z1, z2, z3⟩
    · exact e.ro k O (q.trans hk)
    · rw [z2] at hk; injection hk with hk; cases hk
    · rw [z2] at hk; injection hk with hk; cases hk
  inj := fun k k' b b' h1 h2 h3 h4 h5 => e.inj k k' b b' ((hw k).kind.1 _ h1) ((hw k').kind.2 _ h2) h3 h4 h5
  lt := e.lt
  mks := fun b base id q hq => by
    obtain ⟨m1, m2, m3⟩ := e.mks b base id q hq
    exact ⟨m1, m2, fun k d hk hd => m3 k d ((hw k).kind.1 _ hk) hd⟩
  tb := e.tb
theorem Step.weaken {P : Program} {ι ι' : Ren} {h h1 h2 : AH} {w w' : World} (s : Step P ι h w ι' h1 w') (hw : ∀ k, WkO (h1 k) (h2 k)) : Step P ι h w ι' h2 w' where
  ext := s.ext
  emb := s.emb.weaken hw
  os := s.os
  tape := s.tape
  output := s.output
  size := s.size
  frame := s.frame
  new := fun k b h1 h2 h3 => s.new k b h1 h2 (h3.imp (fun h => (hw k).kind.2 b h) id)
  alive := fun k b hk hi => s.alive k b ((hw k).kind.2 b hk) hi
  kind := fun k b hk hi => s.kind k b ((hw k).kind.1 b hk) hi
theorem Step.ph {P : Program} {ι0 ι : Ren} {h0 h : AH} {w0 w : World} (S : Step P ι0 h0 w0 ι h w) {j i : Nat} (t : TypeId) (hjf : j < 1000000000) (hj : ι j = none) (hh : h j = none) (hi : isC (h i) = true) : ∃ b, Step P ι0 h0 w0 (upd ι j (some b)) (upd h j (some (.cells [] t true))) w := by
  obtain ⟨bi, hbi⟩ := S.emb.live (Zuc hi)
  have hx : ∀ k b, ι k = some b → upd ι j (some (bi.1, 0)) k = some b := fun k b hk => by
    rw [Ze]; · exact hk
    · intro e; subst e; rw [hj] at hk; cases hk
  have ne : ∀ k o, upd h j (some (AObj.cells [] t true)) k = some o → k ≠ j → h k = some o := fun k o hk hkj => by rwa [Ze hkj] at hk
  have neC : ∀ k b, ZM (upd h j (some (AObj.cells [] t true)) k) b = true → upd ι j (some (bi.1, 0)) k = some b → k ≠ j ∧ ZM (h k) b = true := fun k b hk hb => by
    by_cases hkj : k = j
    · subst hkj; rw [Zm] at hk hb; injection hb with hb; subst hb; cases hk
    · exact ⟨hkj, by rwa [Ze hkj] at hk⟩
  have neS : ∀ k b, ZW (upd h j (some (AObj.cells [] t true)) k) b = true → upd ι j (some (bi.1, 0)) k = some b → k ≠ j ∧ ZW (h k) b = true := fun k b hk hb => by
    by_cases hkj : k = j
    · subst hkj; rw [Zm] at hk hb; injection hb with hb; subst hb; cases hk
    · exact ⟨hkj, by rwa [Ze hkj] at hk⟩
  refine ⟨(bi.1, 0), fun k b hk => hx k b (S.ext k b hk), ⟨fun k c t' q hk => ?_, fun k O hk => ?_, fun k k' b b' h1 h2 h3 h4 h5 => ?_, fun k b hk => ?_, fun b base id q hq => ?_, fun x hx' => (S.emb.tb x hx').imp fun q hq => hx _ _ hq⟩, S.os, S.tape, S.output, S.size, S.frame, fun k b h1 h2 h3 => ?_, fun k b h1 h2 => S.alive k b (neS k b h1 (hx k b (S.ext k b h2))).2 h2, fun k b h1 h2 => S.kind k b (neC k b h1 (hx k b (S.ext k b h2))).2 h2⟩
  · by_cases hkj : k = j
    · subst hkj
      rw [Zm] at hk
      injection hk with hk
      injection hk with q1 q2 q3
      subst q1 q2 q3
      exact ⟨_, Zm, .inl ⟨rfl, rfl, rfl⟩⟩
    · obtain ⟨b, hb, hz⟩ := S.emb.obj k c t' q (ne k _ hk hkj)
      exact ⟨b, hx k b hb, hz.imp id fun ⟨z1, C, z2, z3, z4⟩ => ⟨z1, C, z2, z3.ext hx, z4⟩⟩
  · by_cases hkj : k = j
    · subst hkj; rw [Zm] at hk; injection hk with hk; cases hk
    · obtain ⟨b, hb, hB⟩ := S.emb.ro k O (ne k _ hk hkj)
      exact ⟨b, hx k b hb, hB⟩
  · obtain ⟨g1, g2⟩ := neC k b h1 h3
    obtain ⟨g3, g4⟩ := neS k' b' h2 h4
    rw [Ze g1] at h3
    rw [Ze g3] at h4
    exact S.emb.inj k k' b b' g2 g4 h3 h4 h5
  · by_cases hkj : k = j
    · subst hkj; rw [Zm] at hk; injection hk with hk; subst hk; exact S.emb.lt i bi hbi
    · rw [Ze hkj] at hk; exact S.emb.lt k b hk
  · obtain ⟨m1, m2, m3⟩ := S.emb.mks b base id q (ZgB hjf _ _ _ _ hq)
    refine ⟨m1, ⟨m2.1.ext hx rfl, fun o c hc => hx _ _ (m2.2 o c hc)⟩, fun k d hk hd => ?_⟩
    obtain ⟨g1, g2⟩ := neC k d hk hd
    rw [Ze g1] at hd
    exact m3 k d g2 hd
  · by_cases hkj : k = j
    · subst hkj
      rw [Zm] at h2
      injection h2 with h2
      subst h2
      cases hi0 : ι0 i with
      | none => exact S.new i bi hi0 hbi (.inl (Zj9 (ZnZ hi)))
      | some c =>
        have := S.ext i c hi0
        rw [hbi] at this
        injection this with this
        subst this
        exact .inr ⟨i, _, S.kind i _ (Zew hi) hi0, hi0, rfl⟩
    · rw [Ze hkj] at h2
      exact S.new k b h1 h2 (h3.imp (fun h => by rwa [Ze hkj] at h) id)
def Zmk : List (Nat × TypeId) → List (Option AObj) → List (Option AObj)
  | [], H => H
  | x :: js, H => Zmk js (H.set x.1 (some (.cells [] x.2 true)))
def Zu4 (live : List Nat) (H : List (Option AObj)) (js : List (Nat × TypeId)) : Bool :=
  Zq (fun x => (match live[x.1]? with | some k => Nat.ble 500000000 k | none => false) && (match H[x.1]? with | some none => true | _ => false)) js && decide (js.map (·.1)).Nodup
theorem ZoS : ∀ (js : List (Nat × TypeId)) (H : List (Option AObj)), (Zmk js H).length = H.length
  | [], _ => rfl
  | x :: js, H => by show (Zmk js _).length = _; rw [ZoS js]; simp
theorem ZrN {H : List (Option AObj)} {j : Nat} {o : Option AObj} (hj : j < H.length) : lkO (H.set j o) = upd (lkO H) j o := funext fun k => by
  unfold lkO
  by_cases hk : k = j
  · subst hk; rw [Zm]; simp [hj]
  · rw [Ze hk, List.getElem?_set_ne (fun e => hk e.symm)]
theorem Zqv {P : Program} {ι0 : Ren} {h0 : AH} {w0 w : World} {i : Nat} : ∀ (js : List (Nat × TypeId)) (H : List (Option AObj)) (ι : Ren), H.length ≤ far → (∀ x ∈ js, H[x.1]? = some none ∧ ι x.1 = none) → (js.map (·.1)).Nodup → (js = [] ∨ isC (lkO H i) = true) → Step P ι0 h0 w0 ι (lkO H) w →
    ∃ ι', (∀ k b, ι k = some b → ι' k = some b) ∧ Step P ι0 h0 w0 ι' (lkO (Zmk js H)) w ∧ ∀ k, H.length ≤ k → ι k = none → ι' k = none
  | [], H, ι, _, _, _, _, S => ⟨ι, fun _ _ h => h, S, fun _ _ h => h⟩
  | x :: js, H, ι, hl, hx, hn, hi, S => by
    obtain ⟨h1, h2⟩ := hx x (List.mem_cons_self ..)
    have hlt : x.1 < H.length := (List.getElem?_eq_some_iff.1 h1).1
    have hC : isC (lkO H i) = true := by rcases hi with h | h; cases h; exact h
    have hn1 : lkO H x.1 = none := by unfold lkO; rw [h1]; rfl
    obtain ⟨b, S1⟩ := S.ph x.2 (Nat.lt_of_lt_of_le hlt hl) h2 hn1 hC
    rw [← ZrN hlt] at S1
    have hnd := List.nodup_cons.1 hn
    have hix : i ≠ x.1 := fun e => by subst e; rw [hn1] at hC; cases hC
    obtain ⟨ι', q1, q2, q3⟩ := Zqv (i := i) js (H.set x.1 (some (.cells [] x.2 true))) _ (by simpa using hl) (fun y hy => by
      have hne : y.1 ≠ x.1 := fun e => hnd.1 (List.mem_map.2 ⟨y, hy, e⟩)
      obtain ⟨g1, g2⟩ := hx y (List.mem_cons_of_mem _ hy)
      exact ⟨by rw [List.getElem?_set_ne (fun e => hne e.symm)]; exact g1, by rw [Ze hne]; exact g2⟩) hnd.2 (.inr (by rw [ZrN hlt, Ze hix]; exact hC)) S1
    refine ⟨ι', fun k c hk => q1 k c (by rw [Ze (fun e => by subst e; rw [h2] at hk; cases hk)]; exact hk), q2, fun k hk hk2 => q3 k (by simpa using hk) (by rw [Ze (by omega)]; exact hk2)⟩
def Zkr : List Nat → Code → List Zay → Code × List Zay
  | [], c, K => (c, K)
  | 0 :: p, .seq a b, K => Zkr p a (.seq b :: K)
  | 1 :: p, .seq _ b, K => Zkr p b K
  | 2 :: p, .scope a, K => Zkr p a (.scp :: K)
  | 3 :: p, .block i a, K => Zkr p a (.blk i :: K)
  | 4 :: p, .cond _ a _, K => Zkr p a K
  | 5 :: p, .cond _ _ b, K => Zkr p b K
  | (n + 6) :: p, .loop a, K => Zkr p a (.rnd n :: K)
  | _, _, K => (.skip, K)
structure Mach where
  fn : Func
  pre : List AObj
  X : Type
  R : Type
  step : X → Option (X ⊕ R)
  hd : X → Nat
  code : Nat → Code × List Zay
  isL : Nat → Bool
  L : X → List (Nat × Value)
  H : X → List (Option AObj)
  V : R → Value
  Po : R → List (Option AObj)
namespace Mach
def after (M : Mach) (n : Nat) : M.X ⊕ M.R → Option M.R
  | .inl y => Zaw M.step n y
  | .inr r => some r
def KK (M : Mach) (i : Nat) : List Zay := match M.isL i with | true => .rnd i :: (M.code i).2 | false => (M.code i).2
def IntoM (M : Mach) (y : M.X) (T : Tr Value) (s : St) : Prop :=
  ∃ live H0 js, WkL (Zmk js H0) (M.H y) ∧ Zu4 live H0 js = true ∧ (js = [] ∨ ∃ i, isC (lkO H0 i) = true) ∧ ZaI M.pre.length live = true ∧ Zoh M.fn.ntmps H0.length (fun t => ZN t (M.L y)) (ZbT 0 H0) T s live
def To (M : Mach) (K0 : List Zay) : StopC → M.X ⊕ M.R → Prop
  | .fin u s, .inr r => ∃ live, Zpv M.pre.length (M.V r) (M.Po r) u s live
  | .next j T s, .inl y => j = M.hd y ∧ M.isL j = true ∧ j ∈ Zt K0 ∧ M.IntoM y T s
  | .head b K T s, .inl y => M.isL (M.hd y) = true ∧ (b, K) = M.code (M.hd y) ∧ (∀ j ∈ Zt K, j ∈ Zt K0) ∧ M.IntoM y T s
  | .cut b K T s, .inl y => M.isL (M.hd y) = false ∧ (b, K) = M.code (M.hd y) ∧ (∀ j ∈ Zt K, j ∈ Zt K0) ∧ M.IntoM y T s
  | .thr u _, .inr r => M.V r = u ∧ ZbA u = true ∧ M.Po r = M.pre.map fun _ => none
  | _, _ => False
noncomputable def Start (M : Mach) (x : M.X) (gv : Nat → Value) (P : Program) (ext : FuncId → Option Ext) (cd cm fu : Nat) (orc : Orc) : Option StopC :=
  Zd3 P ext M.fn M.fn.ntmps cd fu cm (M.code (M.hd x)).1 (M.KK (M.hd x)) (tmps M.fn.ntmps (fun t => ZN t (M.L x)) gv) ⟨ZbT 0 (M.H x), (M.H x).length, [], orc, []⟩
noncomputable def Ok (M : Mach) (P : Program) (ext : FuncId → Option Ext) (x : M.X) (o : Option (M.X ⊕ M.R)) : Prop :=
  ∀ y, o = some y → ∀ gv, ∃ cd cm fu orc st, M.Start x gv P ext cd cm fu orc = some st ∧ (∀ p ∈ st.s.ob, p.1 = p.2) ∧ st.s.n ≤ 500000000 ∧ M.To (M.KK (M.hd x)) st y
def AtM (M : Mach) (P : Program) (ι0 : Ren) (w0 : World) (y : M.X) (gv : Nat → Value) (a : Act) (w : World) : Prop :=
  At P M.fn.ntmps (tmps M.fn.ntmps (fun t => ZN t (M.L y)) gv) (ZbT 0 (M.H y)).get (M.H y).length far ι0 (lk M.pre) w0 a w
section
variable {P : Program} {ext : FuncId → Option Ext}
def Good (M : Mach) (P : Program) (r : M.R) (ι0 : Ren) (w0 : World) (n : Nat) (x : M.X) (Nx : Nat → Act → World → Prop) (a : Act) (w : World) : Prop :=
  match M.isL (M.hd x) with
  | true => Code.rounds P (M.code (M.hd x)).1 (post P M.fn (Fin P ι0 M.pre w0 (M.V r) (M.Po r)) Nx (M.code (M.hd x)).2) n a w
  | false => (M.code (M.hd x)).1.wp P (post P M.fn (Fin P ι0 M.pre w0 (M.V r) (M.Po r)) Nx (M.code (M.hd x)).2) a w
def Outer (M : Mach) (P : Program) (r : M.R) (ι0 : Ren) (w0 : World) (n : Nat) (js : List Nat) (Nx : Nat → Act → World → Prop) : Prop :=
  ∀ m z, m < n → Zaw M.step m z = some r → M.isL (M.hd z) = true → M.hd z ∈ js → ∀ gv a w, M.AtM P ι0 w0 z gv a w → Nx (M.hd z) a w
theorem Zro {n : Nat} (h : n ≤ far) : ZaI n (List.range n) = true := by
  unfold ZaI
  rw [Bool.and_eq_true]
  constructor
  · rw [List.take_of_length_le (by simp)]; exact beq_self_eq_true _
  · have : ∀ l : List Nat, (∀ k ∈ l, k < 1000000000) → Zq (fun k => Nat.blt k 1000000000) l = true := by
      intro l
      induction l with
      | nil => intro _; rfl
      | cons x l ih =>
        intro hl
        show (Nat.blt x 1000000000 && Zq _ l) = true
        rw [ih fun k hk => hl k (List.mem_cons_of_mem _ hk), Bool.and_true, Nat.blt_eq]
        exact hl x (List.mem_cons_self ..)
    exact this _ fun k hk => Nat.lt_of_lt_of_le (List.mem_range.1 hk) h
theorem into_atM (M : Mach) (hH : ∀ x, (M.H x).length ≤ far) {y : M.X} {T : Tr Value} {s : St} (h : M.IntoM y T s) {ι0 ι : Ren} {w0 w : World} {a : Act} (hd : ∀ k, ι0 k ≠ none → k < M.pre.length ∨ ZJ k) (hT : TR ι M.fn.ntmps [] T a) (hS : Step P ι0 (lk M.pre) w0 ι s.h.get w) (hF : ∀ k, 500000000 ≤ k → k < far → ι k = none) : ∃ gv, M.AtM P ι0 w0 y gv a w := by
  obtain ⟨live, H0, js, hwk, hph, hi, hk, h1, h2, h3, h4⟩ := h
  have hlen : H0.length = (M.H y).length := by rw [← hwk.len, ZoS]
  obtain ⟨gv, ι', a1, a2, a3, _, a5⟩ := Zkl hT hS live H0.length far rfl (Zib hk) h1 (hlen ▸ hH y) h2 (fun k hk2 => (hd k hk2).imp (Zh5 hk) id) (fun t => ZN t (M.L y)) h3 (ZbT 0 H0).get h4
  rw [Zih] at a2
  unfold Zu4 at hph
  rw [Bool.and_eq_true] at hph
  obtain ⟨i, hi'⟩ : ∃ i, js = [] ∨ isC (lkO H0 i) = true := by
    rcases hi with h | ⟨i, h⟩
    · exact ⟨0, .inl h⟩
    · exact ⟨i, .inr h⟩
  obtain ⟨ι2, b1, b2, b3⟩ := Zqv (i := i) js H0 ι' (hlen ▸ hH y) (fun x hx => by
    have hq := ZE hph.1 x hx
    rw [Bool.and_eq_true] at hq
    obtain ⟨g1, g2⟩ := hq
    constructor
    · split at g2
      · assumption
      · cases g2
    · split at g1
      · rename_i k hlk
        rw [a5 x.1 k hlk]
        exact hF k (Nat.le_of_ble_eq_true g1) (Zib hk k (List.mem_of_getElem? hlk))
      · cases g1) (of_decide_eq_true hph.2) hi' a2
  refine ⟨gv, ι2, a1.on b1, ?_, fun k hk1 hk2 => b3 k (hlen ▸ hk1) (a3 k (hlen ▸ hk1) hk2)⟩
  rw [Zih]
  exact b2.weaken hwk.at_
theorem run1 (M : Mach) (hH : ∀ x, (M.H x).length ≤ far) (hPo : ∀ r, (M.Po r).length ≤ far) (r : M.R) {ι0 : Ren} {w0 : World} (hd0 : ∀ k, ι0 k ≠ none → k < M.pre.length ∨ ZJ k) (n : Nat)
    (ih : ∀ m, m ≤ n → ∀ x, Zaw M.step m x = some r → ∀ Nx, M.Outer P r ι0 w0 m (Zt (M.code (M.hd x)).2) Nx → ∀ gv a w, M.AtM P ι0 w0 x gv a w → M.Good P r ι0 w0 m x Nx a w)
    {K0 : List Zay} {Nx : Nat → Act → World → Prop} (hNx : M.Outer P r ι0 w0 (n + 1) (Zt K0) Nx) {st : StopC} {y : M.X ⊕ M.R} (hto : M.To K0 st y) (hy : M.after n y = some r)
    {ι : Ren} {a : Act} {w : World} (hS : Step P ι0 (lk M.pre) w0 ι st.s.h.get w) (hF : ∀ k, 500000000 ≤ k → k < far → ι k = none) : Zl3 P M.fn (Fin P ι0 M.pre w0 (M.V r) (M.Po r)) Nx M.fn.ntmps ι a w st := by
  have sub : ∀ {K : List Zay}, (∀ j ∈ Zt K, j ∈ Zt K0) → M.Outer P r ι0 w0 n (Zt K) Nx := fun {K} hs m z hm hz hl hj gv a w hat => hNx m z (by omega) hz hl (hs _ hj) gv a w hat
  cases st with
  | fin u s =>
    cases y with
    | inl y => exact hto.elim
    | inr r' =>
      obtain ⟨live, hto⟩ := hto
      obtain rfl : r' = r := Option.some.inj hy
      exact fun v' hv => Zl1 (hPo r') hd0 hto hS hv
  | next j T s =>
    cases y with
    | inr r' => exact hto.elim
    | inl y =>
      obtain ⟨rfl, hl, hj, hin⟩ := hto
      intro hT
      obtain ⟨gv, hat⟩ := M.into_atM hH hin hd0 hT hS hF
      exact hNx n y (by omega) hy hl hj gv a w hat
  | head b K T s =>
    cases y with
    | inr r' => exact hto.elim
    | inl y =>
      obtain ⟨hl, hc, hsub, hin⟩ := hto
      intro hT
      obtain ⟨gv, hat⟩ := M.into_atM hH hin hd0 hT hS hF
      have e1 : b = (M.code (M.hd y)).1 := congrArg Prod.fst hc
      have e2 : K = (M.code (M.hd y)).2 := congrArg Prod.snd hc
      subst e1 e2
      have := ih n (Nat.le_refl _) y hy Nx (sub hsub) gv a w hat
      unfold Good at this
      rw [hl] at this
      exact wp_loop_rounds n this
  | thr u s =>
    cases y with
    | inl y => exact hto.elim
    | inr r' =>
      obtain ⟨hv, ht, hpo⟩ := hto
      obtain rfl : r' = r := Option.some.inj hy
      intro _
      have hl : (M.Po r').length = M.pre.length := by rw [hpo, List.length_map]
      have hfar : M.pre.length ≤ far := hl ▸ hPo r'
      have hf := Zl1 (v := .bool true) (u := .bool true) (v' := .bool true) (post := M.Po r') (s := s) (live := List.range M.pre.length) (hPo r') hd0 ⟨by rw [hl, List.length_range], List.nodup_range, Zro hfar, ⟨rfl, rfl⟩, fun j o hj => by
        rw [hpo] at hj
        exfalso
        unfold lkO at hj
        rw [List.getElem?_map] at hj
        cases hx : M.pre[j]? <;> rw [hx] at hj <;> cases hj⟩ hS (.atom rfl)
      rcases hf with ⟨v', ι', _, g2, g3, _⟩ | ⟨hz, _⟩
      · rw [← hv] at ht ⊢
        exact .inr ⟨ht, ι', rfl, g2, g3⟩
      · cases hz
  | cut b K T s =>
    cases y with
    | inr r' => exact hto.elim
    | inl y =>
      obtain ⟨hl, hc, hsub, hin⟩ := hto
      intro hT
      obtain ⟨gv, hat⟩ := M.into_atM hH hin hd0 hT hS hF
      have e1 : b = (M.code (M.hd y)).1 := congrArg Prod.fst hc
      have e2 : K = (M.code (M.hd y)).2 := congrArg Prod.snd hc
      subst e1 e2
      have := ih n (Nat.le_refl _) y hy Nx (sub hsub) gv a w hat
      unfold Good at this
      rw [hl] at this
      exact this
theorem rounds (F : Fit P ext) (M : Mach) (hH : ∀ x, (M.H x).length ≤ far) (hPo : ∀ r, (M.Po r).length ≤ far) (hK : ∀ x, M.isL (M.hd x) = true → M.hd x ∉ Zt (M.code (M.hd x)).2) (ok : ∀ x, M.Ok P ext x (M.step x)) (r : M.R) {ι0 : Ren} {w0 : World} (hd0 : ∀ k, ι0 k ≠ none → k < M.pre.length ∨ ZJ k) :
    ∀ (n : Nat) (x : M.X), Zaw M.step n x = some r → ∀ Nx, M.Outer P r ι0 w0 n (Zt (M.code (M.hd x)).2) Nx → ∀ gv a w, M.AtM P ι0 w0 x gv a w → M.Good P r ι0 w0 n x Nx a w := by
  intro n
  induction n using Nat.strongRecOn with
  | ind n ih =>
    intro x hx Nx hNx gv a w hat
    cases n with
    | zero => cases hx
    | succ n =>
      have hat0 := hat
      obtain ⟨ι, hT, hS, hfr⟩ := hat
      cases hy : M.step x with
      | none => simp only [Zaw, hy] at hx; cases hx
      | some y =>
        obtain ⟨cd, cm, fu, orc, st, hev, ho, hn, hto⟩ := ok x y hy gv
        have hyr : M.after n y = some r := by
          cases y <;> (simp only [Zaw, hy] at hx; exact hx)
        have hn' : st.s.n ≤ far := Nat.le_trans hn (by decide)
        have fresh : Fresh ι (M.H x).length st.s.n := ⟨hn', fun k h1 h2 => hfr k h1 (Nat.lt_of_lt_of_le h2 hn')⟩
        have ih' : ∀ m, m ≤ n → ∀ x, Zaw M.step m x = some r → ∀ Nx, M.Outer P r ι0 w0 m (Zt (M.code (M.hd x)).2) Nx → ∀ gv a w, M.AtM P ι0 w0 x gv a w → M.Good P r ι0 w0 m x Nx a w := fun m hm => ih m (by omega)
        have go : ∀ Nx', M.Outer P r ι0 w0 (n + 1) (Zt (M.KK (M.hd x))) Nx' → (M.code (M.hd x)).1.wp P (post P M.fn (Fin P ι0 M.pre w0 (M.V r) (M.Po r)) Nx' (M.KK (M.hd x))) a w := fun Nx' hNx' =>
          (ZoQ F (R := Fin P ι0 M.pre w0 (M.V r) (M.Po r)) (Nx := Nx') fu).1 cm _ _ _ _ st hev ho ι a w hT hS.emb fresh fun ι' a' w' g1 g2 => run1 M hH hPo r hd0 n ih' hNx' hto hyr (hS.trans g1) (fun k h1 h2 => by
            cases hik : ι' k with
            | none => rfl
            | some c =>
              rcases g2 k (by rw [hik]; simp) with h | ⟨_, h⟩ | h
              · exact absurd (hfr k (by have : (M.H x).length ≤ st.s.n := ((Zqu F (fn := M.fn) (nt := M.fn.ntmps) (cd := cd) fu).1 _ _ _ _ _ _ hev).n; omega) h2) h
              · omega
              · omega)
        unfold Good
        cases hl : M.isL (M.hd x) with
        | false =>
          have e : M.KK (M.hd x) = (M.code (M.hd x)).2 := by unfold KK; rw [hl]
          rw [e] at go
          exact go Nx hNx
        | true =>
          have e : M.KK (M.hd x) = .rnd (M.hd x) :: (M.code (M.hd x)).2 := by unfold KK; rw [hl]
          rw [e] at go
          show Code.rounds P _ _ (n + 1) a w
          rw [rounds_succ]
          let Nx' : Nat → Act → World → Prop := fun j => if j = M.hd x then Code.rounds P (M.code (M.hd x)).1 (post P M.fn (Fin P ι0 M.pre w0 (M.V r) (M.Po r)) Nx (M.code (M.hd x)).2) n else Nx j
          have n1 : Nx' (M.hd x) = Code.rounds P (M.code (M.hd x)).1 (post P M.fn (Fin P ι0 M.pre w0 (M.V r) (M.Po r)) Nx (M.code (M.hd x)).2) n := if_pos rfl
          have n2 : ∀ j, j ≠ M.hd x → Nx' j = Nx j := fun j hj => if_neg hj
          have hp : post P M.fn (Fin P ι0 M.pre w0 (M.V r) (M.Po r)) Nx' (M.code (M.hd x)).2 = post P M.fn (Fin P ι0 M.pre w0 (M.V r) (M.Po r)) Nx (M.code (M.hd x)).2 := Zfw fun j hj => n2 j fun e => by subst e; exact hK x hl hj
          have := go Nx' fun m z hm hz hlz hj gv a w hat => by
            by_cases hzx : M.hd z = M.hd x
            · rw [hzx, n1]
              have := ih m (by omega) z hz Nx (fun m' z' h1 h2 h3 h4 => hNx m' z' (by omega) h2 h3 (by rw [hzx] at h4; exact h4)) gv a w hat
              unfold Good at this
              rw [hlz] at this
              rw [hzx] at this
              exact ZoR m n (by omega) a w this
            · rw [n2 _ hzx]
              rcases List.mem_cons.1 hj with h | h
              · exact absurd h hzx
              · exact hNx m z (by omega) hz hlz h gv a w hat
          simp only [post, hp, n1] at this
          exact this
noncomputable def Enter (M : Mach) (P : Program) (ext : FuncId → Option Ext) (A : Array Value) (o : Option (M.X ⊕ M.R)) : Prop :=
  ∀ y, o = some y → ∃ cd cm fu orc st, Zd3 P ext M.fn M.fn.ntmps cd fu cm (ZcP M.fn) [] (ZcN 0 A.toList .nil) ⟨ZcO 0 M.pre, M.pre.length, [], orc, []⟩ = some st ∧ (∀ p ∈ st.s.ob, p.1 = p.2) ∧ st.s.n ≤ 500000000 ∧ M.To [] st y
theorem spec (F : Fit P ext) (M : Mach) {f : FuncId} (hfn : P.funcs[f]? = some M.fn) (hb : M.fn.body = some (ZcP M.fn)) {A : Array Value} (hA : Nat.ble A.size M.fn.ntmps = true) (hH : ∀ x, (M.H x).length ≤ far) (hPo : ∀ r, (M.Po r).length ≤ far) (hK : ∀ x, M.isL (M.hd x) = true → M.hd x ∉ Zt (M.code (M.hd x)).2)
    (ok : ∀ x, M.Ok P ext x (M.step x)) {o : Option (M.X ⊕ M.R)} (en : M.Enter P ext A o) {n : Nat} {r : M.R} (h : goM M.step n o = some r) : LSpec P f A M.pre (M.V r) (M.Po r) := by
  cases o with
  | none => cases h
  | some y =>
    obtain ⟨cd, cm, fu, orc, st, hev, ho, hn, hto⟩ := en y rfl
    refine Zt3 F hfn hb hA hev ho (Nat.le_trans hn (by decide)) fun ι0 w0 hd ι' a' w' hS hD => ?_
    exact run1 M hH hPo r hd n (fun m _ => rounds F M hH hPo hK ok r hd m) (K0 := []) (fun m z _ _ _ hj => by cases hj) hto (by cases y <;> exact h) hS (fun k h1 h2 => by
      cases hik : ι' k with
      | none => rfl
      | some c =>
        rcases hD k (by rw [hik]; simp) with h | ⟨_, h⟩ | h
        · rcases hd k h with h | h
          · have : M.pre.length ≤ st.s.n := ((Zqu F (fn := M.fn) (nt := M.fn.ntmps) (cd := cd) fu).1 _ _ _ _ _ _ hev).n; omega
          · unfold ZJ at h; unfold far at h2; omega
        · omega
        · omega)
end
/-! ### How leaves are written -/
section
variable {P : Program} {ext : FuncId → Option Ext} {M : Mach} {x : M.X} {cd cm fu : Nat} {orc : Orc} {live : List Nat} {bl : List (Option AObj)} {ob : List (Bool × Bool)}
theorem ok_none : M.Ok P ext x none := fun _ h => by cases h
theorem ok_ite {c : Prop} [Decidable c] {A B : Option (M.X ⊕ M.R)} (h1 : c → M.Ok P ext x A) (h2 : ¬ c → M.Ok P ext x B) : M.Ok P ext x (if c then A else B) := by
  by_cases h : c
  · rw [if_pos h]; exact h1 h
  · rw [if_neg h]; exact h2 h
theorem ok_bind {α : Type} {o : Option α} {k : α → Option (M.X ⊕ M.R)} (h : ∀ r, o = some r → M.Ok P ext x (k r)) : M.Ok P ext x (o.bind k) := by
  cases o with
  | none => exact ok_none
  | some r => exact h r rfl
theorem ok_fin {r : M.R} {u : Value} (hev : ∀ gv, ZhH live (M.Start x gv P ext cd cm fu orc) = some (u, bl, ob)) (ho : ∀ p ∈ ob, p.1 = p.2) (hl : live.length = (M.Po r).length) (hn : live.Nodup) (hk : ZaI M.pre.length live = true) (hv : M.V r = ZF (rho live far) 3 u ∧ ZA 3 u = true) (hbl : Zy (rho live far) bl (M.Po r)) : M.Ok P ext x (some (.inr r)) := by
  intro y hy gv
  obtain rfl := Option.some.inj hy
  obtain ⟨s, h1, rfl, rfl, h4⟩ := Zl4 (hev gv)
  exact ⟨cd, cm, fu, orc, _, h1, ho, h4, live, hl, hn, hk, hv, Zd2 hbl⟩
theorem ok_next {y : M.X} {tv : (Nat → Value) → List (Option Value)} (hL : M.isL (M.hd y) = true) (hr : M.hd y ∈ Zt (M.KK (M.hd x))) (hev : ∀ gv, Zkq (M.hd y) live ((M.L y).map (·.1)) (M.Start x gv P ext cd cm fu orc) = some (tv gv, bl, ob)) (ho : ∀ p ∈ ob, p.1 = p.2) (hl : live.length = (M.H y).length) (hn : live.Nodup) (hk : ZaI M.pre.length live = true) (ht : ∀ gv, Zb1 (rho live far) (tv gv) (M.L y)) (hbl : Zy (rho live far) bl (M.H y)) : M.Ok P ext x (some (.inl y)) := by
  intro y' hy gv
  obtain rfl := Option.some.inj hy
  obtain ⟨T, s, h1, h2, rfl, rfl, h4⟩ := Zpi (hev gv)
  exact ⟨cd, cm, fu, orc, _, h1, ho, h4, rfl, hL, hr, live, M.H y, [], WkL.refl _, rfl, .inl rfl, hk, Zeg hl hn (h2 ▸ ht gv) hbl⟩
theorem Zv6 {y : M.X} {tv : (Nat → Value) → List (Option Value)} {bK : Code × List Zay} (hL : M.isL (M.hd y) = true) (hr : bK = M.code (M.hd y)) (hsub : ∀ j ∈ Zt (M.code (M.hd y)).2, j ∈ Zt (M.KK (M.hd x))) (hev : ∀ gv, ZfH live ((M.L y).map (·.1)) (M.Start x gv P ext cd cm fu orc) = some (bK, tv gv, bl, ob)) (ho : ∀ p ∈ ob, p.1 = p.2) (hl : live.length = (M.H y).length) (hn : live.Nodup) (hk : ZaI M.pre.length live = true) (ht : ∀ gv, Zb1 (rho live far) (tv gv) (M.L y)) (hbl : Zy (rho live far) bl (M.H y)) : M.Ok P ext x (some (.inl y)) := by
  intro y' hy gv
  obtain rfl := Option.some.inj hy
  obtain ⟨T, s, h1, h2, rfl, rfl, h4⟩ := Zhp (hev gv)
  exact ⟨cd, cm, fu, orc, _, h1, ho, h4, hL, hr, by rw [hr]; exact hsub, live, M.H y, [], WkL.refl _, rfl, .inl rfl, hk, Zeg hl hn (h2 ▸ ht gv) hbl⟩
theorem Zwn {y : M.X} {tv : (Nat → Value) → List (Option Value)} {bK : Code × List Zay} (hL : M.isL (M.hd y) = false) (hr : bK = M.code (M.hd y)) (hsub : ∀ j ∈ Zt (M.code (M.hd y)).2, j ∈ Zt (M.KK (M.hd x))) (hev : ∀ gv, ZnB live ((M.L y).map (·.1)) (M.Start x gv P ext cd cm fu orc) = some (bK, tv gv, bl, ob)) (ho : ∀ p ∈ ob, p.1 = p.2) (hl : live.length = (M.H y).length) (hn : live.Nodup) (hk : ZaI M.pre.length live = true) (ht : ∀ gv, Zb1 (rho live far) (tv gv) (M.L y)) (hbl : Zy (rho live far) bl (M.H y)) : M.Ok P ext x (some (.inl y)) := by
  intro y' hy gv
  obtain rfl := Option.some.inj hy
  obtain ⟨T, s, h1, h2, rfl, rfl, h4⟩ := Zrn (hev gv)
  exact ⟨cd, cm, fu, orc, _, h1, ho, h4, hL, hr, by rw [hr]; exact hsub, live, M.H y, [], WkL.refl _, rfl, .inl rfl, hk, Zeg hl hn (h2 ▸ ht gv) hbl⟩
variable {A : Array Value}
noncomputable def startE (M : Mach) (P : Program) (ext : FuncId → Option Ext) (A : Array Value) (cd cm fu : Nat) (orc : Orc) : Option StopC :=
  Zd3 P ext M.fn M.fn.ntmps cd fu cm (ZcP M.fn) [] (ZcN 0 A.toList .nil) ⟨ZcO 0 M.pre, M.pre.length, [], orc, []⟩
theorem en_none : M.Enter P ext A none := fun _ h => by cases h
theorem en_ite {c : Prop} [Decidable c] {B C : Option (M.X ⊕ M.R)} (h1 : c → M.Enter P ext A B) (h2 : ¬ c → M.Enter P ext A C) : M.Enter P ext A (if c then B else C) := by
  by_cases h : c
  · rw [if_pos h]; exact h1 h
  · rw [if_neg h]; exact h2 h
theorem en_bind {α : Type} {o : Option α} {k : α → Option (M.X ⊕ M.R)} (h : ∀ r, o = some r → M.Enter P ext A (k r)) : M.Enter P ext A (o.bind k) := by
  cases o with
  | none => exact en_none
  | some r => exact h r rfl
theorem en_fin {r : M.R} {u : Value} (hev : ZhH live (M.startE P ext A cd cm fu orc) = some (u, bl, ob)) (ho : ∀ p ∈ ob, p.1 = p.2) (hl : live.length = (M.Po r).length) (hn : live.Nodup) (hk : ZaI M.pre.length live = true) (hv : M.V r = ZF (rho live far) 3 u ∧ ZA 3 u = true) (hbl : Zy (rho live far) bl (M.Po r)) : M.Enter P ext A (some (.inr r)) := by
  intro y hy
  obtain rfl := Option.some.inj hy
  obtain ⟨s, h1, rfl, rfl, h4⟩ := Zl4 hev
  exact ⟨cd, cm, fu, orc, _, h1, ho, h4, live, hl, hn, hk, hv, Zd2 hbl⟩
theorem en_head {y : M.X} {tv : List (Option Value)} {bK : Code × List Zay} (hL : M.isL (M.hd y) = true) (hr : bK = M.code (M.hd y)) (hsub : Zt (M.code (M.hd y)).2 = []) (hev : ZfH live ((M.L y).map (·.1)) (M.startE P ext A cd cm fu orc) = some (bK, tv, bl, ob)) (ho : ∀ p ∈ ob, p.1 = p.2) (hl : live.length = (M.H y).length) (hn : live.Nodup) (hk : ZaI M.pre.length live = true) (ht : Zb1 (rho live far) tv (M.L y)) (hbl : Zy (rho live far) bl (M.H y)) : M.Enter P ext A (some (.inl y)) := by
  intro y' hy
  obtain rfl := Option.some.inj hy
  obtain ⟨T, s, h1, rfl, rfl, rfl, h4⟩ := Zhp hev
  exact ⟨cd, cm, fu, orc, _, h1, ho, h4, hL, hr, (fun j hj => by rw [show bK.2 = (M.code (M.hd y)).2 from congrArg Prod.snd hr, hsub] at hj; cases hj), live, M.H y, [], WkL.refl _, rfl, .inl rfl, hk, Zeg hl hn ht hbl⟩
theorem en_headW {y : M.X} (H0 : List (Option AObj)) (js : List (Nat × TypeId)) (i : Nat) (hw : WkL (Zmk js H0) (M.H y)) (hp : Zu4 live H0 js = true) (hi : isC (lkO H0 i) = true) {tv : List (Option Value)} {bK : Code × List Zay} (hL : M.isL (M.hd y) = true) (hr : bK = M.code (M.hd y)) (hsub : Zt (M.code (M.hd y)).2 = []) (hev : ZfH live ((M.L y).map (·.1)) (M.startE P ext A cd cm fu orc) = some (bK, tv, bl, ob)) (ho : ∀ p ∈ ob, p.1 = p.2) (hl : live.length = H0.length) (hn : live.Nodup) (hk : ZaI M.pre.length live = true) (ht : Zb1 (rho live far) tv (M.L y)) (hbl : Zy (rho live far) bl H0) : M.Enter P ext A (some (.inl y)) := by
  intro y' hy
  obtain rfl := Option.some.inj hy
  obtain ⟨T, s, h1, rfl, rfl, rfl, h4⟩ := Zhp hev
  exact ⟨cd, cm, fu, orc, _, h1, ho, h4, hL, hr, (fun j hj => by rw [show bK.2 = (M.code (M.hd y)).2 from congrArg Prod.snd hr, hsub] at hj; cases hj), live, H0, js, hw, hp, .inr ⟨i, hi⟩, hk, Zeg hl hn ht hbl⟩
end
end Mach
/-! ### Functions without loops -/
section
variable {P : Program} {ext : FuncId → Option Ext} {fn : Func} {pre : List AObj} {A : Array Value} {R : Type} {V : R → Value} {Po : R → List (Option AObj)} {live : List Nat} {bl : List (Option AObj)} {ob : List (Bool × Bool)} {fu : Nat} {orc : Orc}
noncomputable def Zqw (P : Program) (ext : FuncId → Option Ext) (fn : Func) (pre : List AObj) (A : Array Value) (fu : Nat) (orc : Orc) : Option Stop :=
  ZfF P ext fn fn.ntmps fu (ZcP fn) [] (ZcN 0 A.toList .nil) ⟨ZcO 0 pre, pre.length, [], orc, []⟩
noncomputable def Fx (P : Program) (ext : FuncId → Option Ext) (fn : Func) (pre : List AObj) (A : Array Value) {R : Type} (V : R → Value) (Po : R → List (Option AObj)) (o : Option R) : Prop :=
  ∀ r, o = some r → ∃ fu orc u s, Zqw P ext fn pre A fu orc = some (.fin u s) ∧ (∀ p ∈ s.ob, p.1 = p.2) ∧ s.n ≤ far ∧ ∃ live, Zpv pre.length (V r) (Po r) u s live
theorem Zo : Fx P ext fn pre A V Po none := fun _ h => by cases h
theorem Zg {c : Prop} [Decidable c] {B C : Option R} (h1 : c → Fx P ext fn pre A V Po B) (h2 : ¬ c → Fx P ext fn pre A V Po C) : Fx P ext fn pre A V Po (if c then B else C) := by
  by_cases h : c
  · rw [if_pos h]; exact h1 h
  · rw [if_neg h]; exact h2 h
theorem Zcc {α : Type} {o : Option α} {k : α → Option R} (h : ∀ r, o = some r → Fx P ext fn pre A V Po (k r)) : Fx P ext fn pre A V Po (o.bind k) := by
  cases o with
  | none => exact Zo
  | some r => exact h r rfl
theorem Zwo {r : R} {u : Value} (hev : ZnA live (Zqw P ext fn pre A fu orc) = some (u, bl, ob)) (ho : ∀ p ∈ ob, p.1 = p.2) (hl : live.length = (Po r).length) (hn : live.Nodup) (hk : ZaI pre.length live = true) (hv : V r = ZF (rho live far) 3 u ∧ ZA 3 u = true) (hbl : Zy (rho live far) bl (Po r)) : Fx P ext fn pre A V Po (some r) := by
  intro r' hr
  obtain rfl := Option.some.inj hr
  obtain ⟨s, h1, rfl, rfl, h4⟩ := Zrm hev
  exact ⟨fu, orc, u, s, h1, ho, h4, live, hl, hn, hk, hv, Zd2 hbl⟩
theorem Zbc (F : Fit P ext) {f : FuncId} (hfn : P.funcs[f]? = some fn) (hb : fn.body = some (ZcP fn)) (hA : Nat.ble A.size fn.ntmps = true) (hPo : ∀ r, (Po r).length ≤ far) {o : Option R} (h : Fx P ext fn pre A V Po o) {r : R} (hr : o = some r) : LSpec P f A pre (V r) (Po r) := by
  obtain ⟨fu, orc, u, s, h1, h2, h3, live, h4⟩ := h r hr
  exact Ztw F hfn hb hA h1 h2 h3 (hPo r) live h4
end
theorem ZrO {P : Program} {f : FuncId} {A A' : Array Value} {pre : List (Nat × AObj)} {v : Value} {post : List (Nat × Option AObj)} {n dn : Nat} (e : A = A') (h : ZbV P f A' pre v post n dn) : ZbV P f A pre v post n dn := e ▸ h
def Zeh : List Cell → Bool
 | [] => true
 | .any :: _ => false
 | .i _ :: l => Zeh l
 | .b _ :: l => Zeh l
 | .k _ _ :: l => Zeh l
 | .s _ :: l => Zeh l
 | .m _ _ _ _ :: l => Zeh l
structure Enc (α : Type) where
 cel : α → List Cell
 w : Nat
 dflt : α
 clen : ∀ a, (cel a).length = w
 sure : ∀ a, Zeh (cel a) = true
def Enc.enc {α : Type} (E : Enc α) (a : α) : List Value := Zx (E.cel a)
theorem Enc.len {α : Type} (E : Enc α) (a : α) : (E.enc a).length = E.w := by unfold Enc.enc Zx; rw [List.length_map, E.clen]
def ZdC : Value → Bool
 | .pointer (some ⟨_, _, some _⟩) => true
 | .slice (some ⟨_, _, some _⟩) _ _ => true
 | v => atom v
theorem ZnC : ∀ l : List Cell, Zeh l = true → Zq ZdC (Zx l) = true
 | [], _ => rfl
 | c :: l, h => by
  show (ZdC (ZcF c) && Zq ZdC (Zx l)) = true
  cases c with
  | any => cases h
  | _ => rw [ZnC l h]; rfl
theorem Enc.atoms {α : Type} (E : Enc α) (a : α) : Zq ZdC (E.enc a) = true := ZnC _ (E.sure a)
def Zb {α : Type} (E : Enc α) (L : List α) : List Value := L.flatMap E.enc
def ZcQ {α : Type} (E : Enc α) (L : List α) : List Cell := L.flatMap E.cel
section
variable {α : Type} {E : Enc α}
theorem Zii : Zb E [] = [] := rfl
theorem Zd4 (x : α) (L : List α) : Zb E (x :: L) = E.enc x ++ Zb E L := rfl
theorem Zks (L M : List α) : Zb E (L ++ M) = Zb E L ++ Zb E M := by simp [Zb]
theorem Zdf : ∀ L : List α, (Zb E L).length = L.length * E.w
 | [] => by simp [Zii]
 | x :: L => by rw [Zd4, List.length_append, Zdf L, E.len, List.length_cons, Nat.add_mul, Nat.one_mul, Nat.add_comm]
theorem Zl6 : ∀ (i : Nat) (L : List α), (Zb E L).drop (i * E.w) = Zb E (L.drop i)
 | 0, L => by simp
 | i + 1, [] => by simp [Zii]
 | i + 1, x :: L => by
  rw [Zd4, List.drop_succ_cons, ← Zl6 i L, Nat.add_mul, Nat.one_mul, Nat.add_comm, ← List.drop_drop, ← E.len x, List.drop_left]
theorem Zl7 : ∀ (i : Nat) (L : List α), (Zb E L).take (i * E.w) = Zb E (L.take i)
 | 0, L => by simp [Zii]
 | i + 1, [] => by simp [Zii]
 | i + 1, x :: L => by
  rw [Zd4, List.take_succ_cons, Zd4, ← Zl7 i L, Nat.add_mul, Nat.one_mul, Nat.add_comm, List.take_append, E.len]
  rw [List.take_of_length_le (by rw [E.len]; omega), Nat.add_sub_cancel_left]
theorem Zl8 {L : List α} {i : Nat} (h : i < L.length) (d : α) : L.drop i = L.getD i d :: L.drop (i + 1) := by
 rw [List.getD_eq_getElem?_getD, List.getElem?_eq_getElem h, Option.getD_some]
 exact List.drop_eq_getElem_cons h
theorem Zop {L : List α} {o i q : Nat} (hi : i < L.length) (ho : o = i * E.w + q) (hq : q ≤ E.w) : (Zb E L).drop o = (E.enc (L.getD i E.dflt)).drop q ++ Zb E (L.drop (i + 1)) := by
 subst ho
 rw [← List.drop_drop, Zl6, Zl8 hi E.dflt, Zd4, List.drop_append, E.len, Nat.sub_eq_zero_of_le hq, List.drop_zero]
theorem ZoT {β : Type} {L : List β} {i : Nat} {x d : β} (h : i < L.length) : (L.set i x).getD i d = x := by simp [List.getD, h]
theorem Zkt {β : Type} : ∀ (m : Nat) (l : List β), m ≤ l.length → ZO m l = some (l.take m)
 | 0, l, _ => by simp [ZO]
 | m + 1, [], h => by simp at h
 | m + 1, x :: l, h => by
  simp only [ZO]
  rw [Zkt m l (by simpa using h)]
  rfl
theorem ZmS {L : List α} {o i q m : Nat} (hi : i < L.length) (ho : o = i * E.w + q) (hq : q + m ≤ E.w) : ZO m ((Zb E L).drop o) = some (((E.enc (L.getD i E.dflt)).drop q).take m) := by
 have hl := E.len (L.getD i E.dflt)
 rw [Zop hi ho (by omega), Zkt _ _ (by simp only [List.length_append, List.length_drop, hl]; omega), List.take_append]
 have : m - ((E.enc (L.getD i E.dflt)).drop q).length = 0 := by simp only [List.length_drop, hl]; omega
 rw [this, List.take_zero, List.append_nil]
theorem ZcY : ∀ {cs : List Cell}, Zeh cs = true → ZcG (Zx cs) cs = true
 | [], _ => rfl
 | c :: l, h => by
  cases c with
  | any => cases h
  | i n => show ((n == n) && ZcG (Zx l) l) = true; rw [ZcY (cs := l) h]; simp
  | b q => show ((q == q) && ZcG (Zx l) l) = true; rw [ZcY (cs := l) h]; simp
  | s x => show (dP (x = x) && ZcG (Zx l) l) = true; rw [ZcY (cs := l) h]; simp [dP]
  | m id o n c =>
   show (dP (ZcF (.m id o n c) = ZcF (.m id o n c)) && ZcG (Zx l) l) = true
   rw [ZcY (cs := l) h, Z2 rfl]; rfl
  | k kk n =>
   by_cases hk : kk = .i64
   ·subst hk; show ((decide (IntKind.i64 = IntKind.i64) && (n == n)) && ZcG (Zx l) l) = true; rw [ZcY (cs := l) h]; simp
   ·have e : ZcG (.int kk n :: Zx l) (.k kk n :: l) = ((decide (kk = kk) && (n == n)) && ZcG (Zx l) l) := by cases kk <;> rfl
    show ZcG (.int kk n :: Zx l) (.k kk n :: l) = true
    rw [e, ZcY (cs := l) h]; simp
theorem Zl9 {L : List α} {o i q m : Nat} {cs : List Cell} (hi : i < L.length) (ho : o = i * E.w + q) (hq : q + m ≤ E.w) (hs : Zeh cs = true) (hc : ((E.enc (L.getD i E.dflt)).drop q).take m = Zx cs) : Zfa (ZO m ((Zb E L).drop o)) cs = true := by
 rw [ZmS hi ho hq, hc]
 exact ZcY hs
theorem ZbC {L : List α} {o i q : Nat} {v : Value} (hi : i < L.length) (ho : o = i * E.w + q) (hq : q + 1 ≤ E.w) (hc : ((E.enc (L.getD i E.dflt)).drop q).take 1 = [v]) : ZO 1 ((Zb E L).drop o) = some [v] := by
 rw [ZmS hi ho hq, hc]
theorem ZaO {L : List α} {o i q : Nat} {l : List Value} (x : α) (hi : i < L.length) (ho : o = i * E.w + q) (hq : q + l.length ≤ E.w) (hx : ZeC (E.enc (L.getD i E.dflt)) q l = E.enc x) : o + l.length ≤ (Zb E L).length ∧ ZeC (Zb E L) o l = Zb E (L.set i x) := by
 have hl := E.len (L.getD i E.dflt)
 have hle : o + l.length ≤ (Zb E L).length := by
  have : (i + 1) * E.w ≤ L.length * E.w := Nat.mul_le_mul_right _ hi
  rw [Nat.add_mul, Nat.one_mul] at this
  rw [Zdf]; omega
 refine ⟨hle, ?_⟩
 have e1 : L.set i x = L.take i ++ x :: L.drop (i + 1) := by rw [List.set_eq_take_append_cons_drop, if_pos hi]
 rw [e1, Zks, Zd4, ← hx]
 unfold ZeC
 have h1 : (Zb E L).take o = Zb E (L.take i) ++ (E.enc (L.getD i E.dflt)).take q := by
  have hd : Zb E L = Zb E (L.take i) ++ (E.enc (L.getD i E.dflt) ++ Zb E (L.drop (i + 1))) := by
   rw [← Zd4, ← Zl8 hi, ← Zks, List.take_append_drop]
  rw [hd, List.take_append]
  have hlen : (Zb E (L.take i)).length = i * E.w := by rw [Zdf, List.length_take]; rw [Nat.min_eq_left (by omega)]
  rw [List.take_of_length_le (by omega), hlen, show o - i * E.w = q by omega, List.take_append]
  rw [show q - (E.enc (L.getD i E.dflt)).length = 0 by omega, List.take_zero, List.append_nil]
 have h2 : (Zb E L).drop (o + l.length) = (E.enc (L.getD i E.dflt)).drop (q + l.length) ++ Zb E (L.drop (i + 1)) := Zop hi (by omega) hq
 rw [h1, h2]
 simp
theorem ZfI {L M R : List α} {n m : Nat} (hm : m = n * E.w) (hn : n ≤ L.length) (hR : L.take n ++ M = R) : m ≤ (Zb E L).length ∧ (Zb E L).take m ++ Zb E M = Zb E R := by
 subst hm hR
 refine ⟨by rw [Zdf]; exact Nat.mul_le_mul_right _ hn, ?_⟩
 rw [Zl7, Zks]
theorem Zt4 {L : List α} (j : Nat) (hw : 0 < E.w) : (Zb E L)[j]? = if h : j / E.w < L.length then (E.enc (L[j / E.w]'h))[j % E.w]? else none := by
 by_cases h : j / E.w < L.length
 ·rw [dif_pos h]
  have hj : j = (j / E.w) * E.w + j % E.w := by rw [Nat.mul_comm]; exact (Nat.div_add_mod j E.w).symm
  have hr : j % E.w < E.w := Nat.mod_lt _ hw
  have := Zop (E := E) h hj (Nat.le_of_lt hr)
  have h0 : ((Zb E L).drop j)[0]? = (Zb E L)[j]? := by rw [List.getElem?_drop]; rfl
  rw [← h0, this, List.getElem?_append_left (by rw [List.length_drop, E.len]; omega), List.getElem?_drop, Nat.add_zero]
  rw [List.getD_eq_getElem?_getD, List.getElem?_eq_getElem h, Option.getD_some]
 ·rw [dif_neg h, List.getElem?_eq_none]
  rw [Zdf]
  have : L.length ≤ j / E.w := by omega
  exact (Nat.le_div_iff_mul_le hw).1 this
theorem ZgH {z : List Value} (x : α) (n : Nat) (hw : 0 < E.w) (hz : E.enc x = z) {m : Nat} (hm : m = n * E.w) : rep z m = Zb E (List.replicate n x) := by
 subst hz hm
 apply List.ext_getElem?
 intro j
 rw [Zt4 j hw]
 have hl := E.len x
 by_cases h : j < n * E.w
 ·have h' : j / E.w < n := (Nat.div_lt_iff_lt_mul hw).2 h
  rw [dif_pos (by simpa using h')]
  have : (rep (E.enc x) (n * E.w))[j]? = some ((E.enc x).getD (j % (E.enc x).length) undef) := by simp [rep, h]
  rw [this, List.getElem_replicate, hl, List.getD_eq_getElem?_getD]
  have hr : j % E.w < (E.enc x).length := by rw [hl]; exact Nat.mod_lt _ hw
  rw [List.getElem?_eq_getElem hr, Option.getD_some]
 ·rw [dif_neg (by simp; exact (Nat.le_div_iff_mul_le hw).2 (by omega)), List.getElem?_eq_none]
  simp [rep]; omega
/-! ### The same, as told cells -/
theorem Zqx : ZcQ E [] = [] := rfl
theorem ZlA (x : α) (L : List α) : ZcQ E (x :: L) = E.cel x ++ ZcQ E L := rfl
theorem ZmT : ∀ L : List α, (ZcQ E L).length = L.length * E.w
 | [] => by simp [Zqx]
 | x :: L => by rw [ZlA, List.length_append, ZmT L, E.clen, List.length_cons, Nat.add_mul, Nat.one_mul, Nat.add_comm]
theorem ZoU : ∀ (i : Nat) (L : List α), (ZcQ E L).drop (i * E.w) = ZcQ E (L.drop i)
 | 0, L => by simp
 | i + 1, [] => by simp [Zqx]
 | i + 1, x :: L => by
  rw [ZlA, List.drop_succ_cons, ← ZoU i L, Nat.add_mul, Nat.one_mul, Nat.add_comm, ← List.drop_drop, ← E.clen x, List.drop_left]
theorem ZrP {L : List α} {o i q : Nat} (hi : i < L.length) (ho : o = i * E.w + q) (hq : q ≤ E.w) : (ZcQ E L).drop o = (E.cel (L.getD i E.dflt)).drop q ++ ZcQ E (L.drop (i + 1)) := by
 subst ho
 rw [← List.drop_drop, ZoU, Zl8 hi E.dflt, ZlA, List.drop_append, E.clen, Nat.sub_eq_zero_of_le hq, List.drop_zero]
theorem Zu5 {L : List α} {o i q m : Nat} (hi : i < L.length) (ho : o = i * E.w + q) (hq : q + m ≤ E.w) : ZO m ((ZcQ E L).drop o) = some (((E.cel (L.getD i E.dflt)).drop q).take m) := by
 have hl := E.clen (L.getD i E.dflt)
 rw [ZrP hi ho (by omega), Zkt _ _ (by simp only [List.length_append, List.length_drop, hl]; omega), List.take_append]
 have : m - ((E.cel (L.getD i E.dflt)).drop q).length = 0 := by simp only [List.length_drop, hl]; omega
 rw [this, List.take_zero, List.append_nil]
theorem Zt5 {L : List α} (j : Nat) (hw : 0 < E.w) : (ZcQ E L)[j]? = if h : j / E.w < L.length then (E.cel (L[j / E.w]'h))[j % E.w]? else none := by
 by_cases h : j / E.w < L.length
 ·rw [dif_pos h]
  have hj : j = (j / E.w) * E.w + j % E.w := by rw [Nat.mul_comm]; exact (Nat.div_add_mod j E.w).symm
  have hr : j % E.w < E.w := Nat.mod_lt _ hw
  have := ZrP (E := E) h hj (Nat.le_of_lt hr)
  have h0 : ((ZcQ E L).drop j)[0]? = (ZcQ E L)[j]? := by rw [List.getElem?_drop]; rfl
  rw [← h0, this, List.getElem?_append_left (by rw [List.length_drop, E.clen]; omega), List.getElem?_drop, Nat.add_zero]
  rw [List.getD_eq_getElem?_getD, List.getElem?_eq_getElem h, Option.getD_some]
 ·rw [dif_neg h, List.getElem?_eq_none]
  rw [ZmT]
  have : L.length ≤ j / E.w := by omega
  exact (Nat.le_div_iff_mul_le hw).1 this
/-! ### Such a row is a row of atoms -/
theorem ZiF : ∀ L : List α, Zq ZdC (Zb E L) = true
 | [] => rfl
 | x :: L => by
  have app : ∀ (a b : List Value), Zq ZdC a = true → Zq ZdC b = true → Zq ZdC (a ++ b) = true := by
   intro a b ha hb
   induction a with
   | nil => exact hb
   | cons y a ih =>
    simp only [Zq, Bool.and_eq_true] at ha
    show (ZdC y && Zq ZdC (a ++ b)) = true
    rw [ha.1, ih ha.2]; rfl
  rw [Zd4]
  exact app _ _ (E.atoms x) (ZiF L)
theorem ZmU {p q : Value → Bool} (h : ∀ v, p v = true → q v = true) : ∀ {l : List Value}, Zq p l = true → Zq q l = true
 | [], _ => rfl
 | x :: l, hl => by
  simp only [Zq, Bool.and_eq_true] at hl ⊢
  exact ⟨h x hl.1, ZmU h hl.2⟩
theorem Zjd {v : Value} (h : ZdC v = true) : (∃ k o z, v = .pointer (some ⟨k, o, some z⟩)) ∨ (∃ k o z n c, v = .slice (some ⟨k, o, some z⟩) n c) ∨ atom v = true := by
 unfold ZdC at h
 split at h
 ·exact .inl ⟨_, _, _, rfl⟩
 ·exact .inr (.inl ⟨_, _, _, _, _, rfl⟩)
 ·exact .inr (.inr h)
theorem Zqy (d : Nat) {v : Value} (h : ZdC v = true) : ZA d v = true := by
 rcases Zjd h with ⟨k, o, z, rfl⟩ | ⟨k, o, z, n, c, rfl⟩ | h
 ·cases d <;> rfl
 ·cases d <;> rfl
 ·cases v with
  | agg => simp [atom] at h
  | tuple => simp [atom] at h
  | func f a b =>
   cases f with
   | func f =>
    simp only [atom, Bool.and_eq_true, Array.isEmpty_iff] at h
    obtain ⟨rfl, rfl⟩ := h
    cases d <;> rfl
   | _ => simp [atom] at h
  | _ => cases d <;> rfl
theorem ZsD (m d : Nat) {v : Value} (h : ZdC v = true) : Zag m d v = true := by
 rcases Zjd h with ⟨k, o, z, rfl⟩ | ⟨k, o, z, n, c, rfl⟩ | h
 ·cases d <;> rfl
 ·cases d <;> rfl
 ·cases v with
  | agg => simp [atom] at h
  | tuple => simp [atom] at h
  | pointer a => cases a with
   | none => cases d <;> exact h
   | some a => simp [atom] at h
  | slice a n c => cases a with
   | none => cases d <;> exact h
   | some a => simp [atom] at h
  | map a => cases a with
   | none => cases d <;> exact h
   | some a => simp [atom] at h
  | _ => cases d <;> exact h
theorem ZsE {ρ : Nat → Nat} (d : Nat) {v : Value} (h : ZdC v = true) : ZF ρ d v = v := by
 rcases Zjd h with ⟨k, o, z, rfl⟩ | ⟨k, o, z, n, c, rfl⟩ | h
 ·cases d <;> rfl
 ·cases d <;> rfl
 ·exact ZgW d h
theorem ZjH (ρ : Nat → Nat) (d : Nat) (L : List α) : (Zb E L).map (ZF ρ d) = Zb E L := by
 have : ∀ l : List Value, Zq ZdC l = true → l.map (ZF ρ d) = l := fun l => by
  induction l with
  | nil => intro _; rfl
  | cons y l ih =>
   intro h
   simp only [Zq, Bool.and_eq_true] at h
   rw [List.map_cons, ih h.2, ZsE d h.1]
 exact this _ (ZiF L)
theorem Zje (d : Nat) (L : List α) : Zq (ZA d) (Zb E L) = true := ZmU (fun _ => Zqy d) (ZiF L)
theorem ZbD (m d : Nat) (L : List α) : Zq (Zag m d) (Zb E L) = true := ZmU (fun _ => ZsD m d) (ZiF L)
theorem ZcK (ρ : Nat → Nat) (L : List α) (t : TypeId) : Zey ρ (.cells (Zb E L) t) (.cells (Zb E L) t) := ⟨rfl, ⟨[], by rw [ZjH, List.append_nil]⟩, Zje 1 L⟩
theorem Zc5 (ρ : Nat → Nat) {c : List Value} {L : List α} (t : TypeId) (h : c = Zb E L) : Zey ρ (.cells c t) (.cells (Zb E L) t) := h ▸ ZcK ρ L t
theorem ZfJ (ρ : Nat → Nat) (L : List α) (t : TypeId) : AObj.cells (Zb E L) t = ZfG ρ (.cells (Zb E L) t) := by
 show _ = AObj.cells ((Zb E L).map (ZF ρ 1)) t
 rw [ZjH]
end
theorem Zfx {b : Bool} (h : ¬ (b = true)) : (!b) = true := by cases b <;> simp_all
theorem Zd5 {b : Bool} (h : b = true) : (!b) = false := by subst h; rfl
def encI (k : IntKind) : Enc Int := ⟨fun n => match k with | .i64 => [.i n] | k => [.k k n], 1, 0, fun _ => by cases k <;> rfl, fun _ => by cases k <;> rfl⟩
abbrev eI : Enc Int := encI .i64
abbrev vi (x : Int) : Value := .int .i64 x
abbrev vs (k o n c : Nat) : Value := .slice (some ⟨k, o, none⟩) n c
abbrev vp (k o : Nat) : Value := .pointer (some ⟨k, o, none⟩)
/-! ### Rows that never change -/
noncomputable def mc {α : Type} (E : Enc α) (L : List α) : Cell := .m (code (ZcQ E L)) 0 L.length L.length
noncomputable abbrev ms {α : Type} (E : Enc α) (L : List α) : Value := .slice (some ⟨code (ZcQ E L), 0, some 0⟩) L.length L.length
noncomputable abbrev mp {α : Type} (E : Enc α) (L : List α) (o : Nat) : Value := .pointer (some ⟨code (ZcQ E L), o, some 0⟩)
theorem Zu6 {α : Type} {E : Enc α} {L : List α} {o i q m : Nat} {cs : List Cell} (hi : i < L.length) (ho : o = i * E.w + q) (hq : q + m ≤ E.w) (hc : ((E.cel (L.getD i E.dflt)).drop q).take m = cs) : ZbU (code (ZcQ E L)) o m = some cs := by
 unfold ZbU
 rw [ZcS]
 show ZO m ((ZcQ E L).drop o) = some cs
 rw [Zu5 hi ho hq, hc]
theorem Zku {α : Type} {E : Enc α} (L : List α) : Zb E L = Zx (ZcQ E L) := by
 unfold Zb ZcQ Zx Enc.enc Zx
 rw [List.map_flatMap]
/-! ### Bytes as strings -/
end Ev
end Go.Proofs.YtiijipocjellpaaGreat
namespace Go.Proofs.YtiijipocjellpaaGreat
open Go.ChangeShapes Go.WideShapes Go.ChangeAt Go.RowKit Go.Deep
namespace Ev
section
variable {H : Type} {enc : TypeId × Value → H} {P : Program} {w : World}
def Trd (enc : TypeId × Value → H) (P : Program) (w : World) (t : TypeId) (cs : List Value) : Prop := ∃ n y, DataW.trod enc P w 0 (fun _ => true) true n t cs = some y
def Elems (enc : TypeId × Value → H) (P : Program) (w : World) (e : TypeId) (O : Obj) (o cap : Nat) : Prop :=
 ∀ i, i < cap → ∃ C t fr cs, O = .cells C t fr ∧ cs.length = P.cellsOf e ∧ (∀ j, j < P.cellsOf e → C[o + (i * P.cellsOf e + j)]? = cs[j]?) ∧ Trd enc P w e cs
theorem Zt6 {t : TypeId} {fs : Array Field} {cs : List Value} (ht : P.underlying t = some (.struct fs)) (h : Trd enc P w t cs) (i : Nat) {f : Field} (hf : fs[i]? = some f) : Trd enc P w f.type ((cs.drop f.offset).take (P.cellsOf f.type)) := by
 obtain ⟨n, y, h⟩ := h
 obtain ⟨xs, n', _, _, _, hxl, hfl⟩ := DataW.trod_struct ht h
 have hi : i < fs.size := (Array.getElem?_eq_some_iff.1 hf).1
 have := hfl i f hf
 rw [List.getElem?_eq_getElem (show i < xs.length by omega)] at this
 exact ⟨n', _, this⟩
theorem Zv7 {t : TypeId} {k : IntKind} {cs : List Value} (ht : P.underlying t = some (.int k)) (h : Trd enc P w t cs) : ∃ z, cs = [.int k z] ∧ k.min ≤ z ∧ z ≤ k.max := by
 obtain ⟨n, y, h⟩ := h
 obtain ⟨z, e0, _, wx⟩ := DataW.trod_int ht h
 simp only [Lit.wf, Bool.and_eq_true, decide_eq_true_eq] at wx
 exact ⟨z, e0, wx.1, wx.2⟩
theorem Zt7 {t e : TypeId} {cs : List Value} (ht : P.underlying t = some (.slice e)) (hpos : 0 < P.cellsOf e) (h : Trd enc P w t cs) :
  (∃ a, cs = [.slice a 0 0]) ∨ ∃ (b o len cap : Nat) (O : Obj), cs = [.slice (some ⟨b, o, none⟩) len cap] ∧ 0 < cap ∧ len ≤ cap ∧ cap ≤ 9223372036854775807 ∧ w.heap[b]? = some O ∧ Elems enc P w e O o cap := by
 obtain ⟨n0, y, h⟩ := h
 rcases open_slice ht h with ⟨hcs, _⟩ | ⟨a, len, cap, m, n, D, Pl, hcs, hb, hl, hm, hmm, hx, hi⟩
 ·exact .inl ⟨_, hcs⟩
 ·simp only [if_true] at hmm
  subst hmm
  rcases Nat.eq_zero_or_pos m with h0 | h0
  ·subst h0
   obtain rfl : len = 0 := by omega
   exact .inl ⟨_, hcs⟩
  ·right
   obtain ⟨cs0, hc0, _⟩ := hi 0 h0
   obtain ⟨_, hcl0, hat0⟩ := World.cells?_some hc0
   have h1 := hat0 0 hpos
   rw [Nat.zero_mul] at h1
   have ha0 : (a.add 0).add 0 = a := by simp [Addr.add]
   rw [ha0] at h1
   have h2 : w.cell? a = some (cs0[0]'(by omega)) := h1.trans (List.getElem?_eq_getElem (by omega))
   obtain ⟨b, o, spot⟩ := a
   have hspot : spot = none := by
    unfold World.cell? at h2
    split at h2
    ·cases spot with
     | none => rfl
     | some z => simp at h2
    ·cases h2
   subst hspot
   obtain ⟨C, el, fr, hB, _⟩ := ZkF h2
   refine ⟨b, o, len, m, _, hcs, h0, hl, by unfold maxLen at hm; omega, hB, fun i hi' => ?_⟩
   obtain ⟨cs', hc, ht'⟩ := hi i hi'
   obtain ⟨_, hcl, hat⟩ := World.cells?_some hc
   refine ⟨C, el, fr, cs', rfl, hcl, fun j hj => ?_, n, _, ht'⟩
   have h1 := hat j hj
   rw [Go.Deep.add_add] at h1
   have h2 : w.cell? ⟨b, o + (i * P.cellsOf e + j), none⟩ = some (cs'[j]'(by omega)) := by
    have : (⟨b, o, none⟩ : Addr).add (i * P.cellsOf e + j) = ⟨b, o + (i * P.cellsOf e + j), none⟩ := Go.WideShapes.add_plain b o _
    rw [← this, h1]
    exact List.getElem?_eq_getElem (by omega)
   obtain ⟨C', t', fr', hB', hv'⟩ := ZkF h2
   rw [hB] at hB'
   injection hB' with hB'
   injection hB' with e1 e2 e3
   subst e1
   rw [hv']
   exact (List.getElem?_eq_getElem (by omega)).symm
def DecL (w : World) (cs : List Value) (l : List Cell) : Prop := cs.length = l.length ∧ ∀ (i : Nat) x y, l[i]? = some x → cs[i]? = some y → DecC w x y
theorem Zv8 {w : World} {cs : List Value} {l : List Cell} (hl : cs.length = l.length) (h : ∀ (i : Nat) x, l[i]? = some x → ∃ y, cs[i]? = some y ∧ DecC w x y) : DecL w cs l :=
 ⟨hl, fun i x y hx hy => by
  obtain ⟨y', h1, h2⟩ := h i x hx
  rw [hy] at h1
  injection h1 with h1
  subst h1
  exact h2⟩
theorem Zwp {w : World} {cs : List Value} {k : Nat} : ∀ (j : Nat) x, ([] : List Cell)[j]? = some x → ∃ y, cs[k + j]? = some y ∧ DecC w x y := fun j x h => by simp at h
theorem ZfT {w : World} {cs : List Value} {b : Cell} {l : List Cell} {k : Nat} {y : Value} (hx : cs[k]? = some y) (hd : DecC w b y) (t : ∀ (j : Nat) x, l[j]? = some x → ∃ y, cs[k + 1 + j]? = some y ∧ DecC w x y) :
  ∀ (j : Nat) x, (b :: l)[j]? = some x → ∃ y, cs[k + j]? = some y ∧ DecC w x y := fun j x h => by
 cases j with
 | zero => injection h with h; subst h; exact ⟨y, hx, hd⟩
 | succ j =>
  obtain ⟨y', h1, h2⟩ := t j x (by simpa using h)
  exact ⟨y', by rw [show k + (j + 1) = k + 1 + j by omega]; exact h1, h2⟩
theorem DecL.vr {w : World} {cs : List Value} {l : List Cell} (h : DecL w cs l) : VRs (ιMk w) (Zx l).toArray cs.toArray :=
 ⟨by simp [Zx, h.1], fun i x y hx hy => by
  have hx' : (Zx l)[i]? = some x := by simpa using hx
  have hy' : cs[i]? = some y := by simpa using hy
  unfold Zx at hx'
  rw [List.getElem?_map] at hx'
  cases hb : l[i]? with
  | none => rw [hb] at hx'; cases hx'
  | some z =>
   rw [hb] at hx'
   injection hx' with hx'
   subst hx'
   exact (h.2 i z y hb hy').vr⟩
theorem pick1 {α : Type} {n : Nat} (d : α) {R : Nat → α → Prop} (h : ∀ i, i < n → ∃ x, R i x) : ∃ f : Nat → α, ∀ i, i < n → R i (f i) := by
 classical
 refine ⟨fun i => if hi : i < n then (h i hi).choose else d, fun i hi => ?_⟩
 simp only [hi, dite_true]
 exact (h i hi).choose_spec
theorem Zt8 {α : Type} {E : Enc α} {Q : α → Prop} {t e : TypeId} {cs : List Value} (ht : P.underlying t = some (.slice e)) (hw : P.cellsOf e = E.w) (hpos : 0 < E.w)
  (hel : ∀ cs, cs.length = E.w → Trd enc P w e cs → ∃ x : α, DecL w cs (E.cel x) ∧ Q x) (h : Trd enc P w t cs) : ∃ (L : List α) (v : Value), cs = [v] ∧ DecC w (mc E L) v ∧ L.length ≤ 9223372036854775807 ∧ ∀ x ∈ L, Q x := by
 rcases Zt7 ht (by omega) h with ⟨a, rfl⟩ | ⟨b, o, len, cap, O, rfl, h0, hl, hm, hB, hE⟩
 ·exact ⟨[], _, rfl, .m0, by simp, fun x hx => by cases hx⟩
 ·have each : ∀ i, i < len → ∃ x : α, (∃ C t fr, O = .cells C t fr ∧ ∀ j y, (E.cel x)[j]? = some y → ∃ v, C[o + (i * E.w + j)]? = some v ∧ DecC w y v) ∧ Q x := fun i hi => by
   obtain ⟨C, t, fr, cs, hO, hcl, hc, htr⟩ := hE i (by omega)
   obtain ⟨x, hd, hq⟩ := hel cs (by omega) htr
   refine ⟨x, ⟨C, t, fr, hO, fun j y hy => ?_⟩, hq⟩
   have hj : j < cs.length := by rw [hd.1]; exact (List.getElem?_eq_some_iff.1 hy).1
   rw [← hw]
   refine ⟨cs[j], ?_, hd.2 j y _ hy (List.getElem?_eq_getElem hj)⟩
   rw [hc j (by omega)]
   exact List.getElem?_eq_getElem hj
  obtain ⟨G, hG⟩ := pick1 E.dflt each
  obtain ⟨C, t, fr, cs0, hO, _⟩ := hE 0 h0
  subst hO
  refine ⟨(List.range len).map G, _, rfl, ?_, by simp; omega, fun x hx => ?_⟩
  ·have hlen : ((List.range len).map G).length = len := by simp
   unfold mc
   rw [hlen]
   refine .m (base := o) (.mk (ZcS _) hB (fun hp => ?_) fun i x y hx hy => ?_) (Nat.le_refl _) hl
   ·rw [ZmT, hlen] at hp ⊢
    have hlen0 : 0 < len := by
     rcases Nat.eq_zero_or_pos len with e0 | e0
     ·subst e0; simp at hp
     ·exact e0
    obtain ⟨⟨C', t', fr', hO', hx'⟩, _⟩ := hG (len - 1) (by omega)
    injection hO' with e1 e2 e3
    subst e1
    have hw1 : (E.cel (G (len - 1))).length = E.w := E.clen _
    obtain ⟨v, hv, _⟩ := hx' (E.w - 1) _ (List.getElem?_eq_getElem (by omega))
    have := (Array.getElem?_eq_some_iff.1 hv).1
    have e2 : (len - 1) * E.w + E.w = len * E.w := by rw [← Nat.succ_mul]; congr 1; omega
    omega
   ·rw [Zt5 i hpos] at hx
    split at hx
    ·rename_i hlt
     rw [List.getElem_map, List.getElem_range] at hx
     obtain ⟨⟨C', t', fr', hO', hx'⟩, _⟩ := hG (i / E.w) (by rw [hlen] at hlt; exact hlt)
     injection hO' with e1 e2 e3
     subst e1
     obtain ⟨v, hv, hd⟩ := hx' (i % E.w) x hx
     have e : i / E.w * E.w + i % E.w = i := by rw [Nat.mul_comm]; exact Nat.div_add_mod i E.w
     rw [e, hy] at hv
     injection hv with hv
     subst hv
     exact hd
    ·cases hx
  ·obtain ⟨i, hi, rfl⟩ := List.mem_map.1 hx
   exact (hG i (List.mem_range.1 hi)).2
theorem Zrp {cs : List Value} {j m : Nat} {v : Value} (h : (cs.drop j).take m = [v]) (hm : m = 1) : cs[j]? = some v := by
 subst hm
 have : ((cs.drop j).take 1)[0]? = some v := by rw [h]; rfl
 rwa [List.getElem?_take_of_lt (by decide), List.getElem?_drop, Nat.add_zero] at this
/-! ### Parts of a value, by where they lie among its cells -/
def Zml (enc : TypeId × Value → H) (P : Program) (w : World) (t : TypeId) (cs : List Value) (o : Nat) : Prop := Trd enc P w t ((cs.drop o).take (P.cellsOf t))
theorem Zwq {t : TypeId} {cs : List Value} {c : Nat} (hc : P.cellsOf t = c) (hl : cs.length = c) (h : Trd enc P w t cs) : Zml enc P w t cs 0 := by
 unfold Zml
 rw [List.drop_zero, List.take_of_length_le (by omega)]
 exact h
theorem Zu7 {cs : List Value} {o m a k : Nat} (h : a + k ≤ m) : (((cs.drop o).take m).drop a).take k = (cs.drop (o + a)).take k := by
 rw [List.drop_take, List.take_take, List.drop_drop, Nat.min_eq_left (by omega)]
theorem Zei {t te : TypeId} {fs : Array Field} {cs : List Value} {o o' : Nat} (fo c ct : Nat) (ht : P.underlying t = some (.struct fs)) (h : Zml enc P w t cs o) (i : Nat) (hf : (fs[i]?).map (fun f => (f.type, f.offset)) = some (te, fo)) (ho : o' = o + fo) (hc : P.cellsOf te = c) (hct : P.cellsOf t = ct) (hle : fo + c ≤ ct) : Zml enc P w te cs o' := by
 cases hx : fs[i]? with
 | none => rw [hx] at hf; cases hf
 | some f =>
  rw [hx] at hf
  injection hf with hf
  injection hf with h1 h2
  subst h1 h2 ho
  have := Zt6 ht h i hx
  rw [Zu7 (by omega)] at this
  exact this
theorem Zu8 {cs : List Value} {o : Nat} {v : Value} (h : (cs.drop o).take 1 = [v]) : cs[o]? = some v := Zrp h rfl
theorem ZgY {t : TypeId} {k : IntKind} {cs : List Value} {o : Nat} (ht : P.underlying t = some (.int k)) (hc : P.cellsOf t = 1) (h : Zml enc P w t cs o) : ∃ z, cs[o]? = some (.int k z) ∧ k.min ≤ z ∧ z ≤ k.max := by
 unfold Zml at h
 rw [hc] at h
 obtain ⟨z, h1, h2⟩ := Zv7 ht h
 exact ⟨z, Zu8 h1, h2⟩
theorem Zv9 {t : TypeId} {v : Value} {d : DataW H} {p : List MemPlace} (h : DataW.Trod enc P w 0 (fun _ => true) true t v d p) : Trd enc P w t v.cells.toList := by
 obtain ⟨fuel, hf⟩ := h
 exact ⟨fuel, _, hf⟩
end
end Ev
end Go.Proofs.YtiijipocjellpaaGreat
namespace Go.Proofs.YtiijipocjellpaaGreat
open Go.RowKit
namespace Ev
section
variable {P : Program} {ext : FuncId → Option Ext} {pre : List AObj} {A : Array Value} {R : Type} {V : R → Value} {Po : R → List (Option AObj)} {live : List Nat} {bl : List (Option AObj)} {ob : List (Bool × Bool)} {fu : Nat} {orc : Orc}
noncomputable def ZnD (P : Program) (ext : FuncId → Option Ext) (f : FuncId) (pre : List AObj) (A : Array Value) (fu : Nat) (orc : Orc) : Option Stop :=
 match ZdF P ext fu f A ⟨ZcO 0 pre, pre.length, [], orc, []⟩ with
 | some (v, s) => some (.fin v s)
 | none => none
def Gx (P : Program) (f : FuncId) (pre : List AObj) (A : Array Value) {R : Type} (V : R → Value) (Po : R → List (Option AObj)) (o : Option R) : Prop :=
 ∀ r, o = some r → LSpec P f A pre (V r) (Po r)
variable {f : FuncId}
theorem ZS : Gx P f pre A V Po none := fun _ h => by cases h
theorem Z6 {c : Prop} [Decidable c] {B C : Option R} (h1 : c → Gx P f pre A V Po B) (h2 : ¬ c → Gx P f pre A V Po C) : Gx P f pre A V Po (if c then B else C) := by
 by_cases h : c
 ·rw [if_pos h]; exact h1 h
 ·rw [if_neg h]; exact h2 h
theorem ZaG {α : Type} {o : Option α} {k : α → Option R} (h : ∀ r, o = some r → Gx P f pre A V Po (k r)) : Gx P f pre A V Po (o.bind k) := by
 cases o with
 | none => exact ZS
 | some r => exact h r rfl
end
set_option linter.unusedVariables false
section
variable {P : Program}
noncomputable def ιMv (ι0 ι : Ren) (mv : Nat → Prop) (live : List Nat) (M : Nat) : Ren := fun j => @ite _ (mv j) (Classical.propDecidable _) (ι0 j) ((sig live M j).bind ι)
theorem Zu9 {nt : Nat} {ι0 ι : Ren} {h0 h : AH} {w0 w : World} {T : Tr Value} {a : Act} (hT : TR ι nt [] T a) (hS : Step P ι0 h0 w0 ι h w)
  (live : List Nat) (m M : Nat) (hM : M = 1000000000) (hll : ∀ k ∈ live, k < M) (hlen : live.length = m) (hmM : m ≤ M) (hn : live.Nodup) (mv : Nat → Prop) (h3 : ∀ k, ι0 k ≠ none → live[k]? = some k ∨ ZJ k ∨ mv k)
  (L : Nat → Option Value) (hL : ∀ t v, t < nt → L t = some v → v = ZF (rho live M) 3 ((T.get t).getD undef) ∧ ZA 3 ((T.get t).getD undef) = true)
  (g : AH) (hmv : ∀ j, mv j → g j = none ∧ j < m ∧ (∀ k, live[j]? = some k → ι k = none) ∧ ∀ b, ZW (h0 j) b = true → ZM (h0 j) b = true) (hg : ∀ j o, g j = some o → ∃ k, live[j]? = some k ∧ match o with
   | .ro O m => h k = some (.ro O m)
   | .cells c t q => ∃ c' r, h k = some (.cells c' t q) ∧ c'.map (ZF (rho live M) 1) = c ++ r ∧ (q = true → r = []) ∧ Zq (ZA 1) c' = true) :
  ∃ gv ι', TR ι' nt [] (tmps nt L gv) a ∧ Step P ι0 h0 w0 ι' g w ∧ (∀ k, m ≤ k → k < M → ι' k = none) := by
 have h2M : M % 2 = 0 := by omega
 have s1 := fun k => ZrI (live := live) (M := M) (by omega) h2M hll k
 have rm : ∀ b base id, rho live M (ZQ b base id) = ZQ b base id := fun b base id => by
  have := Zdb b base id
  unfold rho
  rw [if_pos ⟨by omega, this.2⟩]
 have nmv : ∀ j k b, sig live M j = some k → ι k = some b → ¬ mv j := fun j k b hs hk hm => by
  obtain ⟨_, hlt, h0, _⟩ := hmv j hm
  have : sig live M j = live[j]? := by unfold sig; rw [if_pos (by omega)]
  rw [h0 k (this ▸ hs)] at hk
  cases hk
 have hno : ∀ j, ¬ mv j → ιMv ι0 ι mv live M j = (sig live M j).bind ι := fun j hj => by unfold ιMv; rw [if_neg hj]
 have hyes : ∀ j, mv j → ιMv ι0 ι mv live M j = ι0 j := fun j hj => by unfold ιMv; rw [if_pos hj]
 have hι : ∀ k b, ι k = some b → (ιMv ι0 ι mv live M) (rho live M k) = some b := fun k b hk => by
  rw [hno _ (nmv _ k b (s1 k) hk), s1 k, Option.bind_some, hk]
 have hlive : ∀ j k, live[j]? = some k → sig live M j = some k := fun j k hk => by
  have hlt := (List.getElem?_eq_some_iff.1 hk).1
  unfold sig
  rw [if_pos hlt]
  exact hk
 have back : ∀ j b, ¬ mv j → ιMv ι0 ι mv live M j = some b → ∃ k, sig live M j = some k ∧ ι k = some b := fun j b hm hj => by
  rw [hno j hm] at hj
  cases hs : sig live M j with
  | none => rw [hs] at hj; cases hj
  | some k => rw [hs] at hj; exact ⟨k, rfl, hj⟩
 have sm : ∀ k, ZJ k → sig live M k = some k := fun k hk => by
  unfold ZJ at hk
  unfold sig
  rw [if_neg (by omega), if_pos (by omega), if_pos hk.2]
 have old : ∀ k, ¬ mv k → ι0 k ≠ none → sig live M k = some k := fun k hm hk => (h3 k hk).elim (hlive k k) fun h => h.elim (sm k) fun h => absurd h hm
 have mkm : ∀ k, ZJ k → ¬ mv k := fun k hk hm => by
  have := (hmv k hm).2.1
  unfold ZJ at hk
  omega
 have gmv : ∀ j o, g j = some o → ¬ mv j := fun j o hj hm => by rw [(hmv j hm).1] at hj; cases hj
 have gmC : ∀ j b, ZM (g j) b = true → ¬ mv j := fun j b hj hm => by rw [(hmv j hm).1] at hj; cases hj
 have gmS : ∀ j b, ZW (g j) b = true → ¬ mv j := fun j b hj hm => by rw [(hmv j hm).1] at hj; cases hj
 have gC : ∀ j b, ZM (g j) b = true → ∃ k, sig live M j = some k ∧ ZM (h k) b = true := fun j b hj => by
  cases hx : g j with
  | none => rw [hx] at hj; cases hj
  | some o =>
   obtain ⟨k, hk, ho⟩ := hg j o hx
   cases o with
   | ro O m1 => rw [hx] at hj; exact ⟨k, hlive j k hk, by rw [show h k = some (.ro O m1) from ho]; exact hj⟩
   | cells c t q => obtain ⟨c', r, hc, hcr, hq, _⟩ := ho; exact ⟨k, hlive j k hk, by rw [hc]; rw [hx] at hj; exact Zkk hcr hq hj⟩
 have gS : ∀ j b, ZW (g j) b = true → ∃ k, sig live M j = some k ∧ ZW (h k) b = true := fun j b hj => by
  cases hx : g j with
  | none => rw [hx] at hj; cases hj
  | some o =>
   obtain ⟨k, hk, ho⟩ := hg j o hx
   cases o with
   | ro O m1 => exact ⟨k, hlive j k hk, by rw [show h k = some (.ro O m1) from ho]; rfl⟩
   | cells c t q => obtain ⟨c', r, hc, hcr, hq, _⟩ := ho; exact ⟨k, hlive j k hk, by rw [hc]; rw [hx] at hj; exact Zkk hcr hq hj⟩
 have garb : ∀ t, ∃ u, VR (ιMv ι0 ι mv live M) u (a.tmps.getD t undef) := fun t => Zn3 hι rm (hT.2.2 t)
 refine ⟨fun t => (garb t).choose, ιMv ι0 ι mv live M, ⟨hT.1, hT.2.1, fun t => ?_⟩, ⟨fun k b hk => ?_, ⟨fun j c t q hj => ?_, fun j O hj => ?_, fun j j' b b' h1 h2 h4 h5 h6 => ?_, fun j b hj => ?_, fun b base id q hq => ?_, fun x hx => (hS.emb.tb x hx).imp fun q hq => by
  rw [hno _ (mkm _ (ZbJ x.1 0 (code x.2))), sm _ (ZbJ x.1 0 (code x.2))]; exact hq⟩, hS.os, hS.tape, hS.output, hS.size, hS.frame, fun j b h1 h2 h0 => ?_, fun j b h1 h2 => ?_, fun j b h1 h2 => ?_⟩, fun j h1 h2 => ?_⟩
 ·rw [Zia]
  by_cases ht : t < nt
  ·rw [if_pos ht]
   cases hl : L t with
   | none => exact (garb t).choose_spec
   | some v =>
    obtain ⟨e, hd⟩ := hL t v ht hl
    subst e
    exact Zff hι rm 3 _ _ (hT.2.2 t) hd
  ·rw [if_neg ht]
   have : a.tmps.getD t undef = undef := by
    have := hT.1
    simp [Array.getD, show ¬ t < a.tmps.size by omega]
   rw [this]
   exact VR.undef'
 ·by_cases hm : mv k
  ·rw [hyes k hm]; exact hk
  ·rw [hno k hm, old k hm (by rw [hk]; simp)]
   exact hS.ext k b hk
 ·obtain ⟨k, hk, c', r, hc, hcr, hq, hd⟩ := hg j _ hj
  obtain ⟨b, hb, ⟨z1, z2, z3⟩ | ⟨z1, C, hB, hC, hQ⟩⟩ := hS.emb.obj k c' t q hc
  ·refine ⟨b, by rw [hno j (gmv j _ hj), hlive j k hk]; exact hb, .inl ⟨z1, ?_, z3⟩⟩
   subst z2
   have := congrArg List.length hcr
   simp at this
   exact List.eq_nil_of_length_eq_zero (by omega)
  have hqc : ZM (some (.cells c t q)) b = true := by
   cases q with
   | false => rfl
   | true =>
    rw [hq rfl, List.append_nil] at hcr
    rw [← hcr]
    cases c' with
    | nil => exact z1
    | cons x c' => rfl
  have hle : c.length ≤ c'.length := by
   have := congrArg List.length hcr
   simp at this
   omega
  refine ⟨b, by rw [hno j (gmv j _ hj), hlive j k hk]; exact hb, .inr ⟨hqc, C, hB, ⟨Nat.le_trans hle hC.1, fun i x y hx hy => ?_⟩, hQ⟩⟩
  have hx' : (c'.map (ZF (rho live M) 1))[i]? = some x := by
   rw [hcr, List.getElem?_append_left (List.getElem?_eq_some_iff.1 hx).1]
   exact hx
  rw [List.getElem?_map] at hx'
  cases hz : c'[i]? with
  | none => rw [hz] at hx'; cases hx'
  | some z =>
   rw [hz] at hx'
   injection hx' with hx'
   subst hx'
   exact Zff hι rm 1 z y (hC.2 i z y hz hy) (ZE hd z (List.mem_of_getElem? hz))
 ·obtain ⟨k, hk, hr⟩ := hg j _ hj
  obtain ⟨b, hb, hB⟩ := hS.emb.ro k O hr
  exact ⟨b, by rw [hno j (gmv j _ hj), hlive j k hk]; exact hb, hB⟩
 ·obtain ⟨k, q1, q2⟩ := gC j b h1
  obtain ⟨k', q3, q4⟩ := gS j' b' h2
  obtain ⟨_, e1, e2⟩ := back j b (gmC j b h1) h4
  rw [q1] at e1; injection e1 with e1; subst e1
  obtain ⟨_, e3, e4⟩ := back j' b' (gmS j' b' h2) h5
  rw [q3] at e3; injection e3 with e3; subst e3
  have := hS.emb.inj k k' b b' q2 q4 e2 e4 h6
  subst this
  rw [← ZfQ hn h2M hll q1, ← ZfQ hn h2M hll q3]
 ·by_cases hm : mv j
  ·rw [hyes j hm] at hj; exact hS.emb.lt j b (hS.ext j b hj)
  ·obtain ⟨k, _, e2⟩ := back j b hm hj
   exact hS.emb.lt k b e2
 ·obtain ⟨k, e1, e2⟩ := back _ q (mkm _ (ZbJ b base id)) hq
  rw [sm _ (ZbJ b base id)] at e1; injection e1 with e1; subst e1
  obtain ⟨m1, m2, m3⟩ := hS.emb.mks b base id q e2
  refine ⟨m1, ⟨m2.1.ren hι rm, fun o c hc => by
   have := hι _ _ (m2.2 o c hc)
   rw [rm] at this
   exact this⟩, fun k d hk hd => ?_⟩
  obtain ⟨k', q1, q2⟩ := gC k d hk
  obtain ⟨k2, e3, e4⟩ := back k d (gmC k d hk) hd
  rw [q1] at e3; injection e3 with e3; subst e3
  exact m3 k' d q2 e4
 ·by_cases hm : mv j
  ·rw [hyes j hm, h1] at h2; cases h2
  obtain ⟨k, e1, e2⟩ := back j b hm h2
  have h0' : ZW (h k) b = true ∨ ZJ k := by
   rcases h0 with h0 | h0
   ·obtain ⟨k2, q1, q2⟩ := gS j b h0
    rw [e1] at q1; injection q1 with q1; subst q1
    exact .inl q2
   ·rw [sm j h0] at e1; injection e1 with e1; subst e1
    exact .inr h0
  cases hk : ι0 k with
  | none => exact hS.new k b hk e2 h0'
  | some c =>
   have e4 := hS.ext k c hk
   rw [e2] at e4; injection e4 with e4; subst e4
   by_cases hmk : mv k
   ·rcases h0' with h0' | h0'
    ·exact .inr ⟨k, _, (hmv k hmk).2.2.2 _ (hS.alive k _ h0' hk), hk, rfl⟩
    ·exact absurd hmk (mkm k h0')
   ·have := ZfQ hn h2M hll (old k hmk (by rw [hk]; simp))
    have e3 := ZfQ hn h2M hll e1
    rw [this] at e3
    subst e3
    rw [h1] at hk; cases hk
 ·obtain ⟨k, e1, e2⟩ := gS j b h1
  rw [old j (gmS j b h1) (by rw [h2]; simp)] at e1; injection e1 with e1; subst e1
  exact hS.alive j b e2 h2
 ·obtain ⟨k, e1, e2⟩ := gC j b h1
  rw [old j (gmC j b h1) (by rw [h2]; simp)] at e1; injection e1 with e1; subst e1
  exact hS.kind j b e2 h2
 ·rw [hno j (fun hm => by have := (hmv j hm).2.1; omega)]
  unfold sig
  rw [if_neg (by omega), if_neg (by omega)]
  rfl
def ZlB (k n : Nat) (live : List Nat) : Bool := (live.take k == List.range k) && (Zq (fun d => Nat.ble 900000000 d) ((live.drop k).take (n - k)) && (Nat.ble k n && (Nat.ble n live.length && Zq (fun d => Nat.blt d 1000000000) live)))
def ZnE (k n : Nat) (post : List (Option AObj)) : Bool := Zq (fun o => match o with | none => true | some _ => false) ((post.drop k).take (n - k))
def ZsF (k : Nat) (pre : List AObj) : Bool := Zq (fun o => match o with | .cells _ _ _ => true | .ro _ _ => false) (pre.drop k)
def Zwr (k n0 : Nat) (v : Value) (post : List (Option AObj)) (u : Value) (s : St) (live : List Nat) : Prop :=
 live.length = post.length ∧ live.Nodup ∧ ZlB k n0 live = true ∧ ZnE k n0 post = true ∧ (v = ZF (rho live far) 3 u ∧ ZA 3 u = true) ∧
  ∀ j o, lkO post j = some o → ∃ k, live[j]? = some k ∧ match o with
   | .ro O m => s.h.get k = some (.ro O m)
   | .cells c t q => ∃ c' r, s.h.get k = some (.cells c' t q) ∧ c'.map (ZF (rho live far) 1) = c ++ r ∧ (q = true → r = []) ∧ Zq (ZA 1) c' = true
theorem ZvA {ι0 ι : Ren} {pre : List AObj} {w0 w : World} {u v v' : Value} {post : List (Option AObj)} {s : St} {live : List Nat} {kp : Nat} (hle : post.length ≤ far) (hd : ∀ k, ι0 k ≠ none → k < pre.length ∨ ZJ k) (ho : ZsF kp pre = true) (h : Zwr kp pre.length v post u s live) (hn : s.n ≤ 900000000) (hD : ∀ k, s.n ≤ k → k < far → ι k = none) (hS : Step P ι0 (lk pre) w0 ι s.h.get w) (hv : VR ι u v') : Fin P ι0 pre w0 v post (.returned v') w := by
 obtain ⟨h1, h2, h3, hno, h4, h5⟩ := h
 unfold ZlB at h3
 simp only [Bool.and_eq_true] at h3
 obtain ⟨k1, k2, k3, k4, k5⟩ := h3
 have k1 : live.take kp = List.range kp := by simpa using k1
 have k3 := Nat.le_of_ble_eq_true k3
 have k4 := Nat.le_of_ble_eq_true k4
 have hlt : ∀ d ∈ live, d < far := fun d hd => Nat.le_of_ble_eq_true (ZE k5 d hd)
 have hT : TR ι 1 [] ((Tr.nil : Tr Value).set 0 (some u)) { tmps := #[v'], defers := [] } := ⟨rfl, rfl, fun t => by
  rw [Tr.get_set]
  by_cases ht : t = 0
  ·subst ht; rw [Zm]; exact hv
  ·rw [Ze ht, Tr.get_nil]
   have : (#[v'] : Array Value).getD t undef = undef := by simp [Array.getD, show ¬ t < 1 by omega]
   rw [this]
   exact VR.undef'⟩
 obtain ⟨gv, ι', hT', hS', hfr⟩ := Zu9 hT hS live post.length far rfl hlt h1 hle h2 (fun j => kp ≤ j ∧ j < pre.length) (fun k hk => by
  rcases hd k hk with h | h
  ·rcases Nat.lt_or_ge k kp with h6 | h6
   ·refine .inl ?_
    have e : (live.take kp)[k]? = some k := by rw [k1, List.getElem?_range h6]
    rwa [List.getElem?_take_of_lt h6] at e
   ·exact .inr (.inr ⟨h6, h⟩)
  ·exact .inr (.inl h)) (fun _ => some v) (fun t x ht hx => by
  injection hx with hx
  subst hx
  obtain rfl : t = 0 := by omega
  rw [Tr.get_set, Zm]
  exact h4) (lkO post) (fun j hj => by
  have hmem : ∀ {α : Type} (l : List α) (x : α), l[j]? = some x → x ∈ (l.drop kp).take (pre.length - kp) := fun l x hx => by
   refine List.mem_iff_getElem?.2 ⟨j - kp, ?_⟩
   rw [List.getElem?_take_of_lt (by omega), List.getElem?_drop, show kp + (j - kp) = j by omega]
   exact hx
  refine ⟨?_, by omega, fun d hdd => ?_, fun b hb => ?_⟩
  ·cases hp : post[j]? with
   | none => unfold lkO; rw [hp]; rfl
   | some o =>
    have := ZE hno o (hmem post o hp)
    cases o with
    | none => unfold lkO; rw [hp]; rfl
    | some o => cases this
  ·have := Nat.le_of_ble_eq_true (ZE k2 d (hmem live d hdd))
   exact hD d (by omega) (hlt d (List.mem_of_getElem? hdd))
  ·cases hp : pre[j]? with
   | none => unfold lk at hb; rw [hp] at hb; cases hb
   | some o =>
    have hb : ZW (some o) b = true := by unfold lk at hb; rw [hp] at hb; exact hb
    have := ZE ho o (List.mem_iff_getElem?.2 ⟨j - kp, by rw [List.getElem?_drop, show kp + (j - kp) = j by omega]; exact hp⟩)
    cases o with
    | ro O m => cases this
    | cells c t q =>
     show ZM (lk pre j) b = true
     unfold lk
     rw [hp]
     cases q <;> exact hb) h5
 refine .inl ⟨v', ι', rfl, hS', fun k hk => ?_, ?_⟩
 ·rcases Nat.lt_or_ge k post.length with h | h
  ·exact .inl h
  ·rcases Nat.lt_or_ge k far with h' | h'
   ·exact absurd (hfr k h h') hk
   ·exact .inr h'
 ·have := hT'.2.2 0
  rw [Zia, if_pos (by omega)] at this
  exact this
theorem Fin.wk {ι0 : Ren} {pre : List AObj} {w0 w : World} {v : Value} {post post' : List (Option AObj)} {e : Ending} (hw : WkL post post') (h : Fin P ι0 pre w0 v post e w) : Fin P ι0 pre w0 v post' e w := by
 rcases h with ⟨v', ι', h1, h2, h3, h4⟩ | ⟨h0, ι', h1, h2, h3⟩
 ·exact .inl ⟨v', ι', h1, h2.weaken hw.at_, fun k hk => by rw [← hw.len]; exact h3 k hk, h4⟩
 ·exact .inr ⟨h0, ι', h1, h2.weaken hw.at_, fun k hk => by rw [← hw.len]; exact h3 k hk⟩
end
section
variable {P : Program} {ext : FuncId → Option Ext} {f : FuncId} {pre : List AObj} {A : Array Value} {R : Type} {V : R → Value} {Po : R → List (Option AObj)} {live : List Nat} {bl : List (Option AObj)} {ob : List (Bool × Bool)} {orc : Orc}
noncomputable def ZjI (live : List Nat) (r : Option Stop) : Option (Value × List (Option AObj) × List (Bool × Bool)) :=
 match r with
 | some (.fin u s) => bif Nat.ble s.n 900000000 then some (u, live.map s.h.get, s.ob) else none
 | _ => none
theorem Zqz {r : Option Stop} {u : Value} (h : ZjI live r = some (u, bl, ob)) : ∃ s, r = some (.fin u s) ∧ live.map s.h.get = bl ∧ s.ob = ob ∧ s.n ≤ 900000000 := by
 unfold ZjI at h
 split at h
 ·rename_i u' s
  obtain ⟨hn, h⟩ := Zl h
  injection h with h
  simp only [Prod.mk.injEq] at h
  obtain ⟨rfl, rfl, rfl⟩ := h
  exact ⟨s, rfl, rfl, rfl, Nat.le_of_ble_eq_true hn⟩
 ·cases h
theorem ZrQ (F : Fit P ext) (kp : Nat) (H0 : List (Option AObj)) {r : R} {u : Value} (ho : ∀ p ∈ ob, p.1 = p.2) (hw : WkL H0 (Po r)) (hv : V r = ZF (rho live far) 3 u ∧ ZA 3 u = true) (hbl : Zy (rho live far) bl H0) (hev : ZjI live (ZnD P ext f pre A 4000 orc) = some (u, bl, ob) := by as_aux_lemma => kernel_rfl) (hl : live.length = H0.length := by rfl) (hn : live.Nodup := by decide) (hk : ZlB kp pre.length live = true := by rfl) (hno : ZnE kp pre.length H0 = true := by rfl) (hown : ZsF kp pre = true := by rfl) (hle : H0.length ≤ far := by exact ZB _ rfl) : Gx P f pre A V Po (some r) := by
 intro r' hr
 obtain rfl := Option.some.inj hr
 obtain ⟨s, h1, rfl, rfl, h4⟩ := Zqz hev
 intro ι w args' hd ha he
 have hc : ZdF P ext 4000 f A ⟨ZcO 0 pre, pre.length, [], orc, []⟩ = some (u, s) := by
  unfold ZnD at h1
  split at h1
  ·rename_i v1 s1 h2
   injection h1 with h1
   injection h1 with q1 q2
   rw [h2, q1, q2]
  ·cases h1
 have hF := (Zcu (P := P) F 4000).2.2.2.1 f A _ u s hc ho ι w args' ha (by show Emb P ι (ZcO 0 pre).get w; rw [Zd9]; exact he)
  ⟨Nat.le_trans h4 (by decide), fun k h1 h2 => by
   cases hk : ι k with
   | none => rfl
   | some b => exact absurd (hd k (by rw [hk]; simp)) (by have h3 : pre.length ≤ k := h1; have h5 : k < s.n := h2; unfold ZJ; omega)⟩
 refine hF.mono ?_
 rintro e w' ⟨v', ι', rfl, g1, g2, g3⟩
 refine Fin.wk hw (ZvA hle hd hown ⟨hl, hn, hk, hno, hv, Zd2 hbl⟩ h4 (fun k h1 h2 => ?_) (by have := g1; simp only [Zd9] at this; exact this) g3)
 cases hi : ι' k with
 | none => rfl
 | some c =>
  rcases g2 k (by rw [hi]; simp) with h | ⟨_, h⟩ | h
  ·rcases hd k h with h6 | h6
   ·have h7 : pre.length ≤ s.n := (Zb7 (P := P) (ext := ext) (fun f g hg => (F.hp f g hg).up) 4000).2.2.2.1 f A _ u s hc |>.n
    omega
   ·unfold ZJ at h6; unfold far at h2; omega
  ·omega
  ·unfold far at *; omega
end
end Ev
end Go.Proofs.YtiijipocjellpaaGreat
