/- The runner against the model: what it says holds in every world. -/
import Derived.Test.YtldlnclkdgfahaaGreatEvP
import Derived.LoopN
import Derived.Scope
namespace Go.Proofs.YtldlnclkdgfahaaGreat
open Go.RowKit
namespace Ev
section
variable {P : Program} {ext : FuncId → Option Ext}

def PostC (P : Program) (ι : Ren) (s : St) (w : World) (nt : Nat) (D : List Deferred) (e : Ex) (T' : Tr Value) (s' : St) (ex : Exit) (a' : Act) (w' : World) : Prop :=
  ex = e.out ∧ ∃ ι', Step P ι s.h.get w ι' s'.h.get w' ∧ Dom ι ι' s.n s'.n ∧ TR ι' nt D T' a'
/-- Two steps. -/
theorem Step.two {ι ι1 ι2 : Ren} {s s1 s2 : St} {w w1 w2 : World} (a : Step P ι s.h.get w ι1 s1.h.get w1 ∧ Dom ι ι1 s.n s1.n) (b : Step P ι1 s1.h.get w1 ι2 s2.h.get w2 ∧ Dom ι1 ι2 s1.n s2.n) (h1 : s.n ≤ s1.n) (h2 : s1.n ≤ s2.n) :
    Step P ι s.h.get w ι2 s2.h.get w2 ∧ Dom ι ι2 s.n s2.n := ⟨a.1.trans b.1, a.2.trans b.2 h1 h2⟩
theorem isCall_spec {o : Oper} {c : Call} (h : isCall o = some c) : o.op = .call c ∧ True := by
  unfold isCall at h
  split at h
  · rename_i c' ho
    split at h
    · rename_i f hf
      injection h with h; subst h
      exact ⟨ho, trivial⟩
    · injection h with h; subst h
      exact ⟨ho, trivial⟩
    · cases h
  · cases h
theorem append_VRs {ι : Ren} {a a' b b' : Array Value} (h : VRs ι a a') (k : VRs ι b b') : VRs ι (a ++ b) (a' ++ b') := by
  refine ⟨by simp [h.1, k.1], fun i x y hx hy => ?_⟩
  by_cases hi : i < a.size
  · rw [Array.getElem?_append_left hi] at hx
    rw [Array.getElem?_append_left (by rw [← h.1]; exact hi)] at hy
    exact h.2 i x y hx hy
  · rw [Array.getElem?_append_right (by omega)] at hx
    rw [Array.getElem?_append_right (by rw [← h.1]; omega), ← h.1] at hy
    exact k.2 _ x y hx hy
/-- A call's function and arguments. -/
theorem callee_sound {ι : Ren} {ρ ρ' : Operand → Value} {o : Oper} {c : Call} {f : FuncId} {args : Array Value} (hρ : ∀ x, VR ι (ρ x) (ρ' x)) (ho : o.op = .call c) (h : callee ρ c = some (f, args)) (w : World) :
    ∃ args', (execOp ρ' o).run P w = (callFunc f args').run P w ∧ VRs ι args args' := by
  unfold callee at h
  split at h
  · rename_i x hx
    split at h
    · rename_i g a b hg
      injection h with h; injection h with h1 h2; subst h1 h2
      have hv := hg ▸ hρ x
      have : ∃ a' b', ρ' x = .func (.func g) a' b' ∧ VRs ι a a' ∧ VRs ι b b' := by
        generalize ρ' x = x' at hv
        cases hv with
        | atom h =>
          simp [Ev.atom] at h
          obtain ⟨rfl, rfl⟩ := h
          exact ⟨_, _, rfl, ⟨rfl, fun i x y hx => by simp at hx⟩, ⟨rfl, fun i x y hx => by simp at hx⟩⟩
        | func hs ht h1 h2 => exact ⟨_, _, rfl, ⟨hs, h1⟩, ⟨ht, h2⟩⟩
      obtain ⟨a', b', hx', ha, hb⟩ := this
      refine ⟨a' ++ c.args.map ρ' ++ b', ?_, append_VRs (append_VRs ha (map_VRs hρ c.args)) hb⟩
      simp [execOp, ho, resolve, hx, hx', Deferred.ofValue, invoke, Result.andThen, Sem.run]
    · cases h
  · cases h
theorem calleeI_sound {ι : Ren} {ρ ρ' : Operand → Value} {o : Oper} {c : Call} {f : FuncId} {args : Array Value} (hρ : ∀ x, VR ι (ρ x) (ρ' x)) (ho : o.op = .call c) (h : calleeI P ρ c = some (f, args)) (w : World) :
    ∃ args', (execOp ρ' o).run P w = (callFunc f args').run P w ∧ VRs ι args args' := by
  unfold calleeI at h
  split at h
  · rename_i r name hc
    split at h
    · rename_i t v hv
      obtain ⟨_, h⟩ := bif_some h
      split at h
      · rename_i g x hm
        obtain ⟨hx, h⟩ := bif_some h
        injection h with h
        injection h with h1 h2
        subst h1 h2
        have hr : ρ' r = .iface t v := by
          have hv' := hv ▸ hρ r
          generalize ρ' r = x' at hv'
          cases hv' with
          | atom h => rfl
        refine ⟨#[x] ++ c.args.map ρ', ?_, append_VRs ⟨rfl, fun i y z hy hz => by
          rw [hy] at hz
          injection hz with hz
          subst hz
          rcases i with _ | i
          · simp at hy; subst hy; exact VR.of_free1 hx
          · simp at hy⟩ (map_VRs hρ c.args)⟩
        have hm' := prun_run w hm
        have e0 : (#[Value.iface t v] ++ Array.map ρ' c.args)[0]? = some (Value.iface t v) := by
          rw [Array.getElem?_append_left (by simp)]; rfl
        have e2 : (#[Value.iface t v] ++ Array.map ρ' c.args).extract 1 (#[Value.iface t v] ++ Array.map ρ' c.args).size = Array.map ρ' c.args := by
          apply Array.ext'
          simp [Array.toList_extract]
          rw [List.take_of_length_le (by simp)]
        simp only [execOp, ho, resolve, hc, hr, Sem.run_bind, Sem.run_pure, Result.andThen_ok, invoke, e0, callMethod, program, Sem.run, hm', e2]
      · cases h
    · cases h
  · exact callee_sound hρ ho h w
theorem wp_of_res {ι : Ren} {s s' : St} {w : World} {v : Value} {o : Oper} {a : Act} {K : Act → World → Prop} {Q : Exit → Act → World → Prop} (h : Res P ((execOp a.eval o).run P w) s ι w v s')
    (hK : ∀ v' w' ι', Step P ι s.h.get w ι' s'.h.get w' → Dom ι ι' s.n s'.n → VR ι' v v' → K (a.put o.dst v') w') : o.wp P a w K Q := by
  obtain ⟨nx, w', ι', v', hr, hv, h1, h2, h3⟩ := h
  unfold Oper.wp
  rw [hr]
  rcases hv with rfl | ⟨rfl, rfl⟩
  · exact hK v' w' ι' h1 h2 h3
  · exact hK undef w' ι' h1 h2 h3
theorem args_TR {ι : Ren} {nt : Nat} {args args' : Array Value} (h : VRs ι args args') (hs : args.size ≤ nt) : TR ι nt [] (argsT 0 args.toList .nil) { tmps := args' ++ Array.replicate (nt - args'.size) undef, defers := [] } := by
  have key : ∀ (l : List Value) (i : Nat) (T : Tr Value) (t : Nat), (argsT i l T).get t = if i ≤ t ∧ t < i + l.length then l[t - i]? else T.get t := by
    intro l
    induction l with
    | nil => intro i T t; simp only [argsT]; rw [if_neg (by rintro ⟨h1, h2⟩; simp only [List.length_nil] at h2; omega)]
    | cons v l ih =>
      intro i T t
      simp only [argsT]
      rw [ih, Tr.get_set]
      by_cases h1 : t = i
      · subst h1
        rw [if_neg (by omega), upd_same, if_pos (by simp)]
        simp
      · rw [upd_other h1]
        by_cases h2 : i + 1 ≤ t ∧ t < i + 1 + l.length
        · rw [if_pos h2, if_pos (by simp; omega)]
          have : t - i = (t - (i + 1)) + 1 := by omega
          rw [this, List.getElem?_cons_succ]
        · rw [if_neg h2, if_neg (by simp; omega)]
  refine ⟨by simp [← h.1, hs], rfl, fun t => ?_⟩
  rw [key]
  by_cases ht : t < args.size
  · have ht' : t < args'.size := by rw [← h.1]; exact ht
    rw [if_pos (by simp [ht])]
    have e1 : args.toList[t - 0]? = some args[t] := by simp [ht]
    rw [e1, Array.getD_eq_getD_getElem?, Array.getElem?_append_left ht', Array.getElem?_eq_getElem ht']
    exact h.2 t _ _ (Array.getElem?_eq_getElem ht) (Array.getElem?_eq_getElem ht')
  · rw [if_neg (by simp; omega)]
    have ht' : args'.size ≤ t := by rw [← h.1]; omega
    rw [Array.getD_eq_getD_getElem?, Array.getElem?_append_right ht']
    have : (Array.replicate (nt - args'.size) undef)[t - args'.size]?.getD undef = undef := by
      rw [Array.getElem?_replicate]
      split <;> rfl
    rw [this]
    exact VR.undef'

theorem rounds_mono {c : Code} {Q Q' : Exit → Act → World → Prop} (hq : ∀ e a w, Q e a w → Q' e a w) : ∀ (n : Nat) (a : Act) (w : World), Code.rounds P c Q n a w → Code.rounds P c Q' n a w
  | 0, _, _, h => h
  | n + 1, a, w, h => by
    rw [rounds_succ] at h ⊢
    refine wp_mono h ?_
    intro e a1 w1 h1
    cases e with
    | normal => exact rounds_mono hq n a1 w1 h1
    | _ => exact hq _ _ _ h1
theorem Step.below {ι : Ren} {h : AH} {w w' : World} (e : Emb P ι h w) (hb : Below w.heap.size w w') : Step P ι h w ι h w' :=
  ⟨fun _ _ h => h, ⟨fun k c t hk => by
      obtain ⟨b, C, q1, q2, q3⟩ := e.obj k c t hk
      exact ⟨b, C, q1, (hb.block b.1 (e.lt k b q1)).trans q2, q3⟩, fun k O hk => by
      obtain ⟨b, q1, q2⟩ := e.ro k O hk
      exact ⟨b, q1, q2.on (hb.block b.1 (e.lt k b q1))⟩, e.inj, fun k b hk => Nat.lt_of_lt_of_le (e.lt k b hk) hb.size⟩,
    hb.os, hb.tape, hb.output, hb.size, fun b hlt _ => hb.block b hlt, fun k b h1 h2 => (by rw [h1] at h2; cases h2), fun _ h1 _ => h1, fun _ h1 _ => h1⟩
theorem sound_all (F : Fit P ext) : ∀ fu : Nat,
    (∀ nt c T s e T' s', evCode P ext nt fu c T s = some (e, T', s') → (∀ p ∈ s'.ob, p.1 = p.2) → ∀ ι D a w, TR ι nt D T a → Emb P ι s.h.get w → Fresh ι s.n s'.n → c.wp P (PostC P ι s w nt D e T' s') a w) ∧
    (∀ nt ops l T s T' s', evOps P ext nt fu ops l T s = some (T', s') → (∀ p ∈ s'.ob, p.1 = p.2) → ∀ ι D a w (Q : Exit → Act → World → Prop), TR ι nt D T a → Emb P ι s.h.get w → Fresh ι s.n s'.n →
      (∀ ι' a' w', Step P ι s.h.get w ι' s'.h.get w' → Dom ι ι' s.n s'.n → TR ι' nt D T' a' → Q .normal a' w') → wpList P ops Q l a w) ∧
    SOp P ext fu ∧
    (∀ f args s v s', evCall P ext fu f args s = some (v, s') → (∀ p ∈ s'.ob, p.1 = p.2) → ∀ ι w args', VRs ι args args' → Emb P ι s.h.get w → Fresh ι s.n s'.n → Calls P f args' w (PostV P ι s w v s')) ∧
    (∀ nt c T s e T' s', evCode P ext nt fu (.loop c) T s = some (e, T', s') → (∀ p ∈ s'.ob, p.1 = p.2) → ∀ ι D a w, TR ι nt D T a → Emb P ι s.h.get w → Fresh ι s.n s'.n → Code.rounds P c (PostC P ι s w nt D e T' s') fu a w) := by
  intro fu
  induction fu using Nat.strongRecOn with
  | _ fu ihs =>
  cases fu with
  | zero => exact ⟨fun _ _ _ _ _ _ _ h => by simp [evCode] at h, fun _ _ _ _ _ _ _ h => by simp [evOps, St.keep_eq] at h, fun _ _ _ _ _ _ h => by simp [evOp] at h, fun _ _ _ _ _ h => by simp [evCall] at h, fun _ _ _ _ _ _ _ h => by simp [evCode] at h⟩
  | succ fu =>
    obtain ⟨ihC, ihO, ihP, ihF, ihL⟩ := ihs fu (Nat.lt_succ_self _)
    obtain ⟨upC, upO, upP, upF, upD, upE⟩ := up_all (P := P) (ext := ext) (fun f g hg => (F.hp f g hg).up) fu
    have loops : ∀ nt c T s e T' s', evCode P ext nt (fu + 1) (.loop c) T s = some (e, T', s') → (∀ p ∈ s'.ob, p.1 = p.2) → ∀ ι D a w, TR ι nt D T a → Emb P ι s.h.get w → Fresh ι s.n s'.n → Code.rounds P c (PostC P ι s w nt D e T' s') (fu + 1) a w := by
      intro nt x T s e T' s' h ho ι D a w hT he hf
      simp only [evCode] at h
      rw [rounds_succ]
      split at h
      · rename_i T1 s1 h1
        have u1 := upC _ _ _ _ _ _ _ h1
        have u2 := upC _ _ _ _ _ _ _ h
        refine wp_mono (ihC nt x T s .normal T1 s1 h1 (suffix_ob u2.ob ho) ι D a w hT he (hf.mono (Nat.le_refl _) u2.n)) ?_
        rintro ex a1 w1 ⟨rfl, ι1, g1, g2, g3⟩
        refine rounds_mono ?_ fu a1 w1 (ihL nt x T1 s1 e T' s' h ho ι1 D a1 w1 g3 g1.emb (hf.after g2 u1.n))
        rintro ex2 a2 w2 ⟨rfl, ι2, k1, k2, k3⟩
        exact ⟨rfl, ι2, g1.trans k1, g2.trans k2 u1.n u2.n, k3⟩
      · rename_i i T1 s1 h1
        injection h with h; simp only [Prod.mk.injEq] at h; obtain ⟨rfl, rfl, rfl⟩ := h
        refine wp_mono (ihC nt x T s _ _ _ h1 ho ι D a w hT he hf) ?_
        rintro ex a1 w1 ⟨rfl, hq⟩
        exact ⟨rfl, hq⟩
      · rename_i T1 s1 h1
        injection h with h; simp only [Prod.mk.injEq] at h; obtain ⟨rfl, rfl, rfl⟩ := h
        refine wp_mono (ihC nt x T s _ _ _ h1 ho ι D a w hT he hf) ?_
        rintro ex a1 w1 ⟨rfl, hq⟩
        exact ⟨rfl, hq⟩
      · cases h
    refine ⟨fun nt c T s e T' s' h ho ι D a w hT he hf => ?_, fun nt ops l T s T' s' h ho ι D a w Q hT he hf hQ => ?_, fun ρ ρ' o s v s' h ho ι w hρ he hf a K Q hex hK => ?_, fun f args s v s' h ho ι w args' ha he hf => ?_, loops⟩
    · have base : PostC P ι s w nt D .normal T s .normal a w ∧ PostC P ι s w nt D .ret T s .ret a w ∧ ∀ i, PostC P ι s w nt D (.exit i) T s (.exit i) a w :=
        ⟨⟨rfl, ι, Step.refl he, Dom.refl, hT⟩, ⟨rfl, ι, Step.refl he, Dom.refl, hT⟩, fun i => ⟨rfl, ι, Step.refl he, Dom.refl, hT⟩⟩
      -- one part, then the other
      have chain : ∀ {s1 : St} {T1 : Tr Value} {c2 : Code} {a1 : Act} {w1 : World} {ι1 : Ren}, Up s s1 → Up s1 s' → Step P ι s.h.get w ι1 s1.h.get w1 → Dom ι ι1 s.n s1.n → TR ι1 nt D T1 a1 → evCode P ext nt fu c2 T1 s1 = some (e, T', s') →
          c2.wp P (PostC P ι s w nt D e T' s') a1 w1 := fun {s1 T1 c2 a1 w1 ι1} u1 u2 h1 h2 h3 h4 => by
        refine wp_mono (ihC nt c2 T1 s1 e T' s' h4 ho ι1 D a1 w1 h3 h1.emb ((hf.mono (Nat.le_refl _) (Nat.le_refl _)).after h2 u1.n)) ?_
        rintro ex a2 w2 ⟨rfl, ι2, g1, g2, g3⟩
        exact ⟨rfl, ι2, (Step.two ⟨h1, h2⟩ ⟨g1, g2⟩ u1.n u2.n).1, (Step.two ⟨h1, h2⟩ ⟨g1, g2⟩ u1.n u2.n).2, g3⟩
      have h0 := h
      cases c <;> simp only [evCode] at h
      case skip => injection h with h; simp only [Prod.mk.injEq] at h; obtain ⟨rfl, rfl, rfl⟩ := h; exact wp_skip base.1
      case label l => injection h with h; simp only [Prod.mk.injEq] at h; obtain ⟨rfl, rfl, rfl⟩ := h; exact wp_label base.1
      case scope c =>
        refine wp_scope_straight (wp_mono (ihC nt c T s e T' s' h ho ι D a w hT he hf) ?_)
        rintro ex a1 w1 ⟨rfl, hq⟩
        cases e <;> exact ⟨rfl, hq⟩
      case ret => injection h with h; simp only [Prod.mk.injEq] at h; obtain ⟨rfl, rfl, rfl⟩ := h; exact wp_ret base.2.1
      case exit id => injection h with h; simp only [Prod.mk.injEq] at h; obtain ⟨rfl, rfl, rfl⟩ := h; exact wp_exit (base.2.2 id)
      case seq x y =>
        split at h
        · rename_i T1 s1 h1
          have u1 := upC _ _ _ _ _ _ _ h1
          have u2 := upC _ _ _ _ _ _ _ h
          refine wp_seq (wp_mono (ihC nt x T s .normal T1 s1 h1 (suffix_ob u2.ob ho) ι D a w hT he (hf.mono (Nat.le_refl _) u2.n)) ?_)
          rintro ex a1 w1 ⟨rfl, ι1, g1, g2, g3⟩
          exact chain u1 u2 g1 g2 g3 h
        · rename_i i T1 s1 h1
          injection h with h; simp only [Prod.mk.injEq] at h; obtain ⟨rfl, rfl, rfl⟩ := h
          refine wp_seq (wp_mono (ihC nt x T s _ _ _ h1 ho ι D a w hT he hf) ?_)
          rintro ex a1 w1 ⟨rfl, hq⟩
          exact ⟨rfl, hq⟩
        · rename_i T1 s1 h1
          injection h with h; simp only [Prod.mk.injEq] at h; obtain ⟨rfl, rfl, rfl⟩ := h
          refine wp_seq (wp_mono (ihC nt x T s _ _ _ h1 ho ι D a w hT he hf) ?_)
          rintro ex a1 w1 ⟨rfl, hq⟩
          exact ⟨rfl, hq⟩
        · cases h
      case cond x y z =>
        split at h
        · rename_i t ht
          have hx : a.eval x = .bool t := evalG_bool ((ht ▸ hT.opnd x : VR ι (.bool t) (evalG a x)).bool_inv)
          split at h
          · exact wp_cond_true hx (ihC nt y T s e T' s' h ho ι D a w hT he hf)
          · exact wp_cond_false hx (ihC nt z T s e T' s' h ho ι D a w hT he hf)
        · cases h
      case block id x =>
        split at h
        · rename_i i T1 s1 h1
          cases hb : Nat.beq i id with
          | true =>
            rw [hb] at h
            injection h with h; simp only [Prod.mk.injEq] at h; obtain ⟨rfl, rfl, rfl⟩ := h
            refine wp_block (wp_mono (ihC nt x T s _ _ _ h1 ho ι D a w hT he hf) ?_)
            rintro ex a1 w1 ⟨rfl, hq⟩
            show if i = id then _ else _
            rw [if_pos (Nat.eq_of_beq_eq_true hb)]
            exact ⟨rfl, hq⟩
          | false =>
            rw [hb] at h
            injection h with h; simp only [Prod.mk.injEq] at h; obtain ⟨rfl, rfl, rfl⟩ := h
            refine wp_block (wp_mono (ihC nt x T s _ _ _ h1 ho ι D a w hT he hf) ?_)
            rintro ex a1 w1 ⟨rfl, hq⟩
            show if i = id then _ else _
            rw [if_neg (fun e => by rw [beqT e] at hb; cases hb)]
            exact ⟨rfl, hq⟩
        · rename_i T1 s1 h1
          injection h with h; simp only [Prod.mk.injEq] at h; obtain ⟨rfl, rfl, rfl⟩ := h
          refine wp_block (wp_mono (ihC nt x T s _ _ _ h1 ho ι D a w hT he hf) ?_)
          rintro ex a1 w1 ⟨rfl, hq⟩
          exact ⟨rfl, hq⟩
        · rename_i T1 s1 h1
          injection h with h; simp only [Prod.mk.injEq] at h; obtain ⟨rfl, rfl, rfl⟩ := h
          refine wp_block (wp_mono (ihC nt x T s _ _ _ h1 ho ι D a w hT he hf) ?_)
          rintro ex a1 w1 ⟨rfl, hq⟩
          exact ⟨rfl, hq⟩
        · cases h
      case loop x =>
        exact wp_loop_rounds (fu + 1) (loops nt x T s e T' s' h0 ho ι D a w hT he hf)
      case region id ops draw =>
        cases draw with
        | true =>
          simp only [cond_true] at h
          split at h
          · rename_i es T1 s1 h1
            injection h with h; simp only [Prod.mk.injEq] at h; obtain ⟨rfl, rfl, rfl⟩ := h
            exact draw_sound F (fun fu' hfu => (ihs fu' (by omega)).2.2.1) h1 ho hT he hf fun ι' a' w' g1 g2 g3 => ⟨rfl, ι', g1, g2, g3⟩
          · cases h
        | false =>
        simp only [cond_false] at h
        split at h
        · rename_i T1 s1 h1
          injection h with h; simp only [Prod.mk.injEq] at h; obtain ⟨rfl, rfl, rfl⟩ := h
          refine wp_region_list (ihO nt ops ops.toList T s T1 s1 h1 ho ι D a w _ hT he hf fun ι' a' w' g1 g2 g3 => ⟨rfl, ι', g1, g2, g3⟩)
        · cases h
      all_goals cases h
    · cases l with
      | nil =>
        simp only [evOps, St.keep_eq] at h
        injection h with h; simp only [Prod.mk.injEq] at h; obtain ⟨rfl, rfl⟩ := h
        exact hQ ι a w (Step.refl he) Dom.refl hT
      | cons o l =>
        simp only [evOps, St.keep_eq] at h
        obtain ⟨hg, h⟩ := bif_some h
        simp only [Bool.and_eq_true] at hg
        unfold wpList
        split at h
        · rename_i s1 hw
          split at h
          · rename_i v s2 hv
            have u1 := up_wanted hw
            have u2 := upP _ _ _ _ _ hv
            have u3 := upO _ _ _ _ _ _ _ h
            obtain ⟨hwant, e2, e3⟩ := wanted_sound (fun t _ => hT.2.2 t) hw
            rw [if_pos hwant]
            refine .inl (ihP (opnd T) (evalG a) o s1 v s2 hv (suffix_ob u3.ob ho) ι w hT.opnd (e2 ▸ he) (e3 ▸ (hf.mono (Nat.le_refl _) u3.n)) a _ Q (exec_good (evOp_sel hv) hg.2).symm fun v' w' ι' g1 g2 g3 => ?_)
            rw [e2] at g1
            rw [e3] at g2
            have hle : s.n ≤ s2.n := by rw [← e3]; exact u2.n
            exact ihO nt ops l (putT T o.dst v) s2 T' s' h ho ι' D _ w' Q ((hT.on g1.ext).put hg.1 g3) g1.emb (hf.after g2 hle) fun ι2 a2 w2 k1 k2 k3 =>
              hQ ι2 a2 w2 (g1.trans k1) (g2.trans k2 hle u3.n) k3
          · cases h
        · rename_i s1 hw
          have u1 := up_wanted hw
          have u3 := upO _ _ _ _ _ _ _ h
          obtain ⟨hwant, e2, e3⟩ := wanted_sound (fun t _ => hT.2.2 t) hw
          rw [if_neg (by rw [hwant]; simp)]
          refine ihO nt ops l (putT T o.dst undef) s1 T' s' h ho ι D _ w Q (hT.put hg.1 VR.undef') (e2 ▸ he) (e3 ▸ hf) fun ι2 a2 w2 k1 k2 k3 => hQ ι2 a2 w2 (e2 ▸ k1) (e3 ▸ k2) k3
        · cases h
    · simp only [evOp] at h
      split at h
      · rename_i c hc
        obtain ⟨hop, _⟩ := isCall_spec hc
        split at h
        · rename_i f args hcal
          obtain ⟨args', hrun, hargs⟩ := calleeI_sound (P := P) hρ hop hcal w
          rw [← hex] at hrun
          split at h
          · rename_i kk e hx
            split at h
            · rename_i z c1 s1 hw
              obtain ⟨e1, e2, _⟩ := nextW_eq hw
              obtain ⟨s2, s3, h4, e3, e4, e5, e6, ho3⟩ := atomicT_eq ho h rfl
              exact wp_of_res (((hrun ▸ atomic_sound F hx hargs (s := s2) (by rw [e3, e1]; exact he) ho3 h4).heap (e3.trans e1).symm (e4.trans e2).symm).behind e5 e6) hK
            · cases h
            · rename_i s1 hw
              obtain ⟨e1, e2, _⟩ := nextW_eq hw
              exact wp_of_res ((hrun ▸ atomic_sound F hx hargs (s := s1) (e1 ▸ he) ho h).heap e1.symm e2.symm) hK
          · rename_i n hx
            exact wp_of_res (hrun ▸ mark_sound F hx hargs he h) hK
          · rename_i g hx
            have hd := F.hp f g hx
            obtain ⟨fn, c', hfn, hb⟩ := hd.body
            unfold Oper.wp
            rw [hrun, callFunc_enter hfn (F.go f fn hfn) hb, Oper.upon_enter]
            refine (hd.does args s v s' h ho ι w args' hargs he hf).mono ?_
            rintro e2 w2 ⟨v', ι', rfl, g1, g2, g3⟩
            exact hK v' w2 ι' g1 g2 g3
          · rename_i S hx
            split at h
            · rename_i pre u post dn s1 hw
              obtain ⟨e1, e2, _⟩ := nextW_eq hw
              obtain ⟨⟨fn, c', hfn, hb⟩, hS⟩ := F.tc f S hx
              unfold Oper.wp
              rw [hrun, callFunc_enter hfn (F.go f fn hfn) hb, Oper.upon_enter]
              refine (evTC_sound hS h ho hargs (e1 ▸ he) (e2 ▸ hf)).mono ?_
              rintro e2' w2 ⟨v', ι', rfl, g1, g2, g3⟩
              exact hK v' w2 ι' (e1 ▸ g1) (e2 ▸ g2) g3
            · cases h
          · rename_i g hx
            unfold evFn at h
            obtain ⟨hfree, h⟩ := bif_some h
            split at h
            · rename_i v1 hg
              obtain ⟨hfv, h⟩ := bif_some h
              injection h with h; injection h with q1 q2; subst q1 q2
              have hae : args' = args := eq_of_pw hargs.1 fun i x y hx1 hy1 => (hargs.2 i x y hx1 hy1).eq_of_free (allB_get hfree i x hx1)
              subst hae
              obtain ⟨⟨fn, c', hfn, hb⟩, hcall⟩ := F.fn f g hx
              unfold Oper.wp
              rw [hrun, callFunc_enter hfn (F.go f fn hfn) hb, Oper.upon_enter]
              refine (hcall args' v1 hfree hg w).mono ?_
              rintro e2 w2 ⟨rfl, hbel⟩
              exact hK v1 w2 ι (Step.below he hbel) Dom.refl (VR.of_free hfv)
            · cases h
          · have hcalls := ihF f args s v s' h ho ι w args' hargs he hf
            cases fu with
            | zero => simp [evCall] at h
            | succ fu' =>
              have h' := h
              simp only [evCall] at h'
              split at h'
              · rename_i fn hfn
                split at h'
                · rename_i c' hb
                  unfold Oper.wp
                  rw [hrun, callFunc_enter hfn (F.go f fn hfn) hb, Oper.upon_enter]
                  refine hcalls.mono ?_
                  rintro e2 w2 ⟨v', ι', rfl, g1, g2, g3⟩
                  exact hK v' w2 ι' g1 g2 g3
                · cases h'
              · cases h'
        · cases h
      · split at h
        · rename_i v1 s1 h1
          injection h with h
          obtain ⟨e1, e2, e3⟩ := fixB_eq h ho
          subst e1
          rw [e2, e3] at hK
          rw [e3] at hf
          have := ev1_sound hρ he hf (suffix_ob (up_fixB h).ob ho) h1
          rw [← hex] at this
          exact wp_of_res this hK
        · cases h
    · simp only [evCall] at h
      split at h
      · rename_i fn hfn
        split at h
        · rename_i c hb
          obtain ⟨hsz, h⟩ := bif_some h
          have hle : args.size ≤ fn.ntmps := Nat.le_of_ble_eq_true hsz
          split at h
          · cases h
          · rename_i ex T1 s1 hne h1
            have hs : s' = s1 ∧ (match resultsT P T1 s1 fn.results.toList with | some [v] => some v | some vs => some (.tuple vs.toArray) | none => none) = some v := by
              split at h
              · rename_i hr; injection h with h; injection h with q1 q2; subst q1 q2; exact ⟨rfl, by rw [hr]⟩
              · rename_i vs hn hr; injection h with h; injection h with q1 q2; subst q1 q2
                refine ⟨rfl, ?_⟩
                rw [hr]
                rcases vs with _ | ⟨x, _ | ⟨y, vs⟩⟩
                · rfl
                · exact absurd rfl (hn x)
                · rfl
              · cases h
            obtain ⟨rfl, hres⟩ := hs
            refine calls_of_wp hfn hb (wp_mono (ihC fn.ntmps c _ s ex T1 s' h1 ho ι [] _ w (args_TR ha hle) he hf) ?_)
            rintro e2 a2 w2 ⟨rfl, ι2, g1, g2, g3⟩
            obtain ⟨v', hrun, hv⟩ := results_run g3 g1.emb hres
            cases ex with
            | normal => exact ⟨g3.2.1, v', hrun, v', ι2, rfl, g1, g2, hv⟩
            | ret => exact ⟨g3.2.1, v', hrun, v', ι2, rfl, g1, g2, hv⟩
            | exit i => exact (hne i rfl).elim
          · cases h
        · cases h
      · cases h

theorem VRl_nil {ι : Ren} : VRs ι ([] : List Value).toArray ([] : List Value).toArray := ⟨rfl, fun i x y hx => by simp at hx⟩
theorem VRl_cons {ι : Ren} {x y : Value} {l l' : List Value} (h : VR ι x y) (t : VRs ι l.toArray l'.toArray) : VRs ι (x :: l).toArray (y :: l').toArray := by
  refine ⟨by simpa using t.1, fun i u v hu hv => ?_⟩
  cases i with
  | zero => simp at hu hv; subst hu hv; exact h
  | succ i => exact t.2 i u v (by simpa using hu) (by simpa using hv)
theorem VR.aggl {ι : Ren} {a a' : Array Value} (h : VRs ι a a') : VR ι (.agg a) (.agg a') := .agg h.1 h.2
/-- WHAT THE RUNNER SAYS OF A CALL HOLDS IN EVERY WORLD: what it does not look into may be anything. -/
theorem ev_rel (F : Fit P ext) {fu : Nat} {f : FuncId} {args args' : Array Value} {v : Value} {s' : St} {orc : Orc} (h : evCall P ext fu f args ⟨.nil, 0, [], orc, []⟩ = some (v, s')) (ho : ∀ p ∈ s'.ob, p.1 = p.2) (ha : VRs (fun _ => none) args args') (hv : free v = true) (hn : s'.n ≤ far) (w : World) :
    Calls P f args' w fun e w' => e = .returned v ∧ Below w.heap.size w w' := by
  have hF := (sound_all (P := P) F fu).2.2.2.1 f args _ v s' h ho (fun _ => none) w args' ha
    ⟨fun k c t hk => by simp [Tr.get_nil] at hk, fun k O hk => by simp [Tr.get_nil] at hk, fun k k' b b' hk => by simp [Tr.get_nil, isC] at hk, fun k b hk => by cases hk⟩ ⟨hn, fun _ _ _ => rfl⟩
  refine hF.mono ?_
  rintro e w' ⟨v', ι', rfl, g1, g2, g3⟩
  have := g3.eq_of_free hv
  subst this
  exact ⟨rfl, g1.os, g1.tape, g1.output, g1.size, fun k hk => g1.frame k hk fun j c hj => by simp [Tr.get_nil, isC] at hj⟩
theorem VRs.of_free {ι : Ren} {args : Array Value} (ha : allB free args.toList = true) : VRs ι args args := ⟨rfl, fun i x y hx hy => by rw [hx] at hy; injection hy with hy; subst hy; exact VR.of_free (allB_get ha i x hx)⟩
end
end Ev
end Go.Proofs.YtldlnclkdgfahaaGreat
