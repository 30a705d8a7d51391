/- A round's frame: what the runner says of code holds there too. -/
import Derived.Test.YtldlnclkdgfahaaGreatEvQ
import Derived.RangeFuncLeaves
import Derived.OrdersIn
import Derived.LoopNIn
import Derived.TacticsIn
namespace Go.Proofs.YtldlnclkdgfahaaGreat
open Go.RowKit
namespace Ev
def noDefO (o : Oper) : Bool := match o.op with | .defer _ => false | _ => true
def noDef : Code → Bool
  | .seq a b => noDef a && noDef b
  | .cond _ a b => noDef a && noDef b
  | .block _ a => noDef a
  | .loop a => noDef a
  | .region _ ops _ => allB noDefO ops.toList
  | .scope _ => false
  | _ => true
abbrev Fr (r : Option Nat) : Fence := { Fence.wide with round := r }
theorem noDefO_spec {o : Oper} (h : noDefO o = true) : ∀ c, o.op ≠ .defer c := fun c e => by unfold noDefO at h; rw [e] at h; cases h
section
variable {P : Program} {ext : FuncId → Option Ext} {r : Option Nat}
theorem rows_in {n : Nat} {row : String} {args : Array Value} {w : World} {R : Value → World → Prop} (h : Rows P row args w R) : RowsIn (Fr r) n P row args w R := fun c cs _ => by
  obtain ⟨v, w', q, s⟩ := h c cs
  exact ⟨v, w', q, stepsIn_wide.2 s⟩
theorem calls_in {n f : Nat} {args : Array Value} {w : World} {R : Ending → World → Prop} (h : Calls P f args w R) : CallsIn (Fr r) n P f args w R := (callsIn_wide (n := n)).2 h
theorem oper_in {o : Oper} {a : Act} {w : World} {K : Act → World → Prop} {Q0 Q : Exit → Act → World → Prop} (hq : ∀ e a w, e ≠ .normal → ¬ Q0 e a w) (hnd : ∀ c, o.op ≠ .defer c) (h : o.wp P a w K Q0) : o.wpIn (Fr r) 0 P a w K Q := by
  refine ⟨fun _ _ => trivial, ?_⟩
  rw [Oper.semAt_eq _ _ _ hnd]
  unfold Oper.wp at h
  generalize (execOp a.eval o).run P w = x at h ⊢
  have no : ∀ (e : Exit) (a : Act) (w : World), e ≠ .normal → Q0 e a w → False := fun e a w he hx => hq e a w he hx
  cases x with
  | ok nx w' =>
    cases nx with
    | value v => exact h
    | skip => exact h
    | defer d => exact h
    | enter f args =>
      refine ⟨fun e => (by cases e), calls_in (Calls.mono h ?_)⟩
      intro e w2 h2
      cases e with
      | returned v => exact h2
      | panicked chain => exact (no _ _ _ (by simp) h2).elim
      | outgrown => obtain ⟨a0, w0, h0⟩ := h2; exact (no _ _ _ (by simp) h0).elim
    | row row args => exact ⟨fun e => (by cases e), rows_in h⟩
    | _ => exact h.elim
  | halt x w' =>
    cases x with
    | panic v => exact (no _ _ _ (by simp) h).elim
    | _ => exact h.elim
/-- What is asked of a normal end alone. -/
def onlyN (Q : Exit → Act → World → Prop) : Exit → Act → World → Prop := fun e a w => e = .normal ∧ Q .normal a w
theorem onlyN_no {Q : Exit → Act → World → Prop} : ∀ e a w, e ≠ .normal → ¬ onlyN Q e a w := fun e a w he h => he h.1
theorem list_in {ops : Array Oper} {Q : Exit → Act → World → Prop} : ∀ (l : List Oper) (a : Act) (w : World), allB noDefO l = true → wpList P ops (onlyN Q) l a w → wpListIn (Fr r) 0 P ops Q l a w
  | [], a, w, _, h => h.2
  | o :: l, a, w, hn, h => by
    have ho := noDefO_spec (allB_mem hn o (List.mem_cons_self ..))
    have hl : allB noDefO l = true := allB_of fun x hx => allB_mem hn x (List.mem_cons_of_mem _ hx)
    unfold wpList at h
    unfold wpListIn
    split
    · rename_i hw
      rw [if_pos hw] at h
      rcases h with h | ⟨_, a0, w0, h0⟩
      · exact oper_in onlyN_no ho (Oper.wp_mono (fun a w => list_in l a w hl) h)
      · cases h0.1
    · rename_i hw
      rw [if_neg hw] at h
      exact ⟨fun _ _ => trivial, list_in l _ w hl h⟩
theorem any_in {ops : Array Oper} {Q : Exit → Act → World → Prop} {md : Region.Mode} (hn : allB noDefO ops.toList = true) : ∀ (fuel : Nat) (listed : Array Bool) (a : Act) (w : World), wpAny P md ops (onlyN Q) fuel listed a w → wpAnyIn (Fr r) 0 P md ops Q fuel listed a w
  | 0, listed, a, w, h => ⟨h.1, h.2.2⟩
  | fuel + 1, listed, a, w, h => by
    refine ⟨fun e => (h.1 e).2, fun i hi => ?_⟩
    have hi := h.2 i hi
    unfold wpOp at hi
    unfold wpOpIn
    split
    · rename_i ho
      rw [ho] at hi
      exact any_in hn fuel _ a w hi
    · rename_i o ho
      rw [ho] at hi
      simp only at hi
      have hd := noDefO_spec (allB_mem hn o (by simpa using Array.mem_of_getElem? ho))
      split
      · rename_i hw
        rw [if_pos hw] at hi
        rcases hi with hi | ⟨_, a0, w0, h0⟩
        · exact oper_in onlyN_no hd (Oper.wp_mono (fun a w => any_in hn fuel _ a w) hi)
        · cases h0.1
      · rename_i hw
        rw [if_neg hw] at hi
        exact ⟨fun _ _ => trivial, any_in hn fuel _ _ w hi⟩
theorem roundsIn_mono {c : Code} {Q Q' : Exit → Act → World → Prop} (hq : ∀ e a w, Q e a w → Q' e a w) : ∀ (n : Nat) (a : Act) (w : World), Code.roundsIn (Fr r) 0 P c Q n a w → Code.roundsIn (Fr r) 0 P c Q' n a w
  | 0, _, _, h => h
  | n + 1, a, w, h => by
    rw [roundsIn_succ] at h ⊢
    refine wpIn_mono h ?_
    intro e a1 w1 h1
    cases e with
    | normal => exact roundsIn_mono hq n a1 w1 h1
    | _ => exact hq _ _ _ h1
theorem sound_in (F : Fit P ext) : ∀ fu : Nat,
    (∀ nt c T s e T' s', evCode P ext nt fu c T s = some (e, T', s') → noDef c = true → (∀ p ∈ s'.ob, p.1 = p.2) → ∀ ι D a w, TR ι nt D T a → Emb P ι s.h.get w → Fresh ι s.n s'.n → c.wpIn (Fr r) 0 P (PostC P ι s w nt D e T' s') a w) ∧
    (∀ nt c T s e T' s', evCode P ext nt fu (.loop c) T s = some (e, T', s') → noDef c = true → (∀ p ∈ s'.ob, p.1 = p.2) → ∀ ι D a w, TR ι nt D T a → Emb P ι s.h.get w → Fresh ι s.n s'.n → Code.roundsIn (Fr r) 0 P c (PostC P ι s w nt D e T' s') fu a w) := by
  intro fu
  induction fu with
  | zero => exact ⟨fun _ _ _ _ _ _ _ h => by simp [evCode] at h, fun _ _ _ _ _ _ _ h => by simp [evCode] at h⟩
  | succ fu ih =>
    obtain ⟨ihC, ihL⟩ := ih
    obtain ⟨upC, upO, upP, upF, upD, upE⟩ := up_all (P := P) (ext := ext) (fun f g hg => (F.hp f g hg).up) fu
    have loops : ∀ nt c T s e T' s', evCode P ext nt (fu + 1) (.loop c) T s = some (e, T', s') → noDef c = true → (∀ p ∈ s'.ob, p.1 = p.2) → ∀ ι D a w, TR ι nt D T a → Emb P ι s.h.get w → Fresh ι s.n s'.n → Code.roundsIn (Fr r) 0 P c (PostC P ι s w nt D e T' s') (fu + 1) a w := by
      intro nt x T s e T' s' h hn ho ι D a w hT he hf
      simp only [evCode] at h
      rw [roundsIn_succ]
      split at h
      · rename_i T1 s1 h1
        have u1 := upC _ _ _ _ _ _ _ h1
        have u2 := upC _ _ _ _ _ _ _ h
        refine wpIn_mono (ihC nt x T s .normal T1 s1 h1 hn (suffix_ob u2.ob ho) ι D a w hT he (hf.mono (Nat.le_refl _) u2.n)) ?_
        rintro ex a1 w1 ⟨rfl, ι1, g1, g2, g3⟩
        refine roundsIn_mono ?_ fu a1 w1 (ihL nt x T1 s1 e T' s' h hn ho ι1 D a1 w1 g3 g1.emb (hf.after g2 u1.n))
        rintro ex2 a2 w2 ⟨rfl, ι2, k1, k2, k3⟩
        exact ⟨rfl, ι2, g1.trans k1, g2.trans k2 u1.n u2.n, k3⟩
      · rename_i i T1 s1 h1
        injection h with h; simp only [Prod.mk.injEq] at h; obtain ⟨rfl, rfl, rfl⟩ := h
        refine wpIn_mono (ihC nt x T s _ _ _ h1 hn ho ι D a w hT he hf) ?_
        rintro ex a1 w1 ⟨rfl, hq⟩
        exact ⟨rfl, hq⟩
      · rename_i T1 s1 h1
        injection h with h; simp only [Prod.mk.injEq] at h; obtain ⟨rfl, rfl, rfl⟩ := h
        refine wpIn_mono (ihC nt x T s _ _ _ h1 hn ho ι D a w hT he hf) ?_
        rintro ex a1 w1 ⟨rfl, hq⟩
        exact ⟨rfl, hq⟩
      · cases h
    refine ⟨fun nt c T s e T' s' h hn ho ι D a w hT he hf => ?_, loops⟩
    have base : PostC P ι s w nt D .normal T s .normal a w ∧ PostC P ι s w nt D .ret T s .ret a w ∧ ∀ i, PostC P ι s w nt D (.exit i) T s (.exit i) a w :=
      ⟨⟨rfl, ι, Step.refl he, Dom.refl, hT⟩, ⟨rfl, ι, Step.refl he, Dom.refl, hT⟩, fun i => ⟨rfl, ι, Step.refl he, Dom.refl, hT⟩⟩
    have chain : ∀ {s1 : St} {T1 : Tr Value} {c2 : Code} {a1 : Act} {w1 : World} {ι1 : Ren}, noDef c2 = true → Up s s1 → Up s1 s' → Step P ι s.h.get w ι1 s1.h.get w1 → Dom ι ι1 s.n s1.n → TR ι1 nt D T1 a1 → evCode P ext nt fu c2 T1 s1 = some (e, T', s') →
        c2.wpIn (Fr r) 0 P (PostC P ι s w nt D e T' s') a1 w1 := fun {s1 T1 c2 a1 w1 ι1} n2 u1 u2 h1 h2 h3 h4 => by
      refine wpIn_mono (ihC nt c2 T1 s1 e T' s' h4 n2 ho ι1 D a1 w1 h3 h1.emb ((hf.mono (Nat.le_refl _) (Nat.le_refl _)).after h2 u1.n)) ?_
      rintro ex a2 w2 ⟨rfl, ι2, g1, g2, g3⟩
      exact ⟨rfl, ι2, (Step.two ⟨h1, h2⟩ ⟨g1, g2⟩ u1.n u2.n).1, (Step.two ⟨h1, h2⟩ ⟨g1, g2⟩ u1.n u2.n).2, g3⟩
    have h0 := h
    cases c <;> simp only [evCode] at h
    case skip => injection h with h; simp only [Prod.mk.injEq] at h; obtain ⟨rfl, rfl, rfl⟩ := h; exact wpIn_skip base.1
    case label l => injection h with h; simp only [Prod.mk.injEq] at h; obtain ⟨rfl, rfl, rfl⟩ := h; exact wpIn_label base.1
    case scope c => cases hn
    case ret => injection h with h; simp only [Prod.mk.injEq] at h; obtain ⟨rfl, rfl, rfl⟩ := h; exact wpIn_ret base.2.1
    case exit id => injection h with h; simp only [Prod.mk.injEq] at h; obtain ⟨rfl, rfl, rfl⟩ := h; exact wpIn_exit (base.2.2 id)
    case seq x y =>
      simp only [noDef, Bool.and_eq_true] at hn
      split at h
      · rename_i T1 s1 h1
        have u1 := upC _ _ _ _ _ _ _ h1
        have u2 := upC _ _ _ _ _ _ _ h
        refine wpIn_seq (wpIn_mono (ihC nt x T s .normal T1 s1 h1 hn.1 (suffix_ob u2.ob ho) ι D a w hT he (hf.mono (Nat.le_refl _) u2.n)) ?_)
        rintro ex a1 w1 ⟨rfl, ι1, g1, g2, g3⟩
        exact chain hn.2 u1 u2 g1 g2 g3 h
      · rename_i i T1 s1 h1
        injection h with h; simp only [Prod.mk.injEq] at h; obtain ⟨rfl, rfl, rfl⟩ := h
        refine wpIn_seq (wpIn_mono (ihC nt x T s _ _ _ h1 hn.1 ho ι D a w hT he hf) ?_)
        rintro ex a1 w1 ⟨rfl, hq⟩
        exact ⟨rfl, hq⟩
      · rename_i T1 s1 h1
        injection h with h; simp only [Prod.mk.injEq] at h; obtain ⟨rfl, rfl, rfl⟩ := h
        refine wpIn_seq (wpIn_mono (ihC nt x T s _ _ _ h1 hn.1 ho ι D a w hT he hf) ?_)
        rintro ex a1 w1 ⟨rfl, hq⟩
        exact ⟨rfl, hq⟩
      · cases h
    case cond x y z =>
      simp only [noDef, Bool.and_eq_true] at hn
      split at h
      · rename_i t ht
        have hx : a.eval x = .bool t := evalG_bool ((ht ▸ hT.opnd x : VR ι (.bool t) (evalG a x)).bool_inv)
        split at h
        · exact wpIn_cond_true hx (ihC nt y T s e T' s' h hn.1 ho ι D a w hT he hf)
        · exact wpIn_cond_false hx (ihC nt z T s e T' s' h hn.2 ho ι D a w hT he hf)
      · cases h
    case block id x =>
      simp only [noDef] at hn
      split at h
      · rename_i i T1 s1 h1
        cases hb : Nat.beq i id with
        | true =>
          rw [hb] at h
          injection h with h; simp only [Prod.mk.injEq] at h; obtain ⟨rfl, rfl, rfl⟩ := h
          refine wpIn_block (wpIn_mono (ihC nt x T s _ _ _ h1 hn ho ι D a w hT he hf) ?_)
          rintro ex a1 w1 ⟨rfl, hq⟩
          show if i = id then _ else _
          rw [if_pos (Nat.eq_of_beq_eq_true hb)]
          exact ⟨rfl, hq⟩
        | false =>
          rw [hb] at h
          injection h with h; simp only [Prod.mk.injEq] at h; obtain ⟨rfl, rfl, rfl⟩ := h
          refine wpIn_block (wpIn_mono (ihC nt x T s _ _ _ h1 hn ho ι D a w hT he hf) ?_)
          rintro ex a1 w1 ⟨rfl, hq⟩
          show if i = id then _ else _
          rw [if_neg (fun e => by rw [beqT e] at hb; cases hb)]
          exact ⟨rfl, hq⟩
      · rename_i T1 s1 h1
        injection h with h; simp only [Prod.mk.injEq] at h; obtain ⟨rfl, rfl, rfl⟩ := h
        refine wpIn_block (wpIn_mono (ihC nt x T s _ _ _ h1 hn ho ι D a w hT he hf) ?_)
        rintro ex a1 w1 ⟨rfl, hq⟩
        exact ⟨rfl, hq⟩
      · rename_i T1 s1 h1
        injection h with h; simp only [Prod.mk.injEq] at h; obtain ⟨rfl, rfl, rfl⟩ := h
        refine wpIn_block (wpIn_mono (ihC nt x T s _ _ _ h1 hn ho ι D a w hT he hf) ?_)
        rintro ex a1 w1 ⟨rfl, hq⟩
        exact ⟨rfl, hq⟩
      · cases h
    case loop x =>
      simp only [noDef] at hn
      exact wpIn_loop_rounds (fu + 1) (loops nt x T s e T' s' h0 hn ho ι D a w hT he hf)
    case region id ops draw =>
      simp only [noDef] at hn
      cases draw with
      | true =>
        simp only [cond_true] at h
        split at h
        · rename_i es T1 s1 h1
          injection h with h; simp only [Prod.mk.injEq] at h; obtain ⟨rfl, rfl, rfl⟩ := h
          exact wpIn_region_any F.mixed (any_in hn _ _ _ _ (draw_any F (fun fu' _ => (sound_all F fu').2.2.1) h1 ho hT he hf fun ι' a' w' g1 g2 g3 => ⟨rfl, rfl, ι', g1, g2, g3⟩))
        · cases h
      | false =>
      simp only [cond_false] at h
      split at h
      · rename_i T1 s1 h1
        injection h with h; simp only [Prod.mk.injEq] at h; obtain ⟨rfl, rfl, rfl⟩ := h
        exact wpIn_region_list (list_in _ _ _ hn ((sound_all F fu).2.1 nt ops ops.toList T s T1 s1 h1 ho ι D a w _ hT he hf fun ι' a' w' g1 g2 g3 => ⟨rfl, rfl, ι', g1, g2, g3⟩))
      · cases h
    all_goals cases h
end
end Ev
end Go.Proofs.YtldlnclkdgfahaaGreat
