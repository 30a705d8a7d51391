/- Part 3. -/
import Derived.Test.YtkhbehgikhamdaaZab
import Derived.SizedLaws
import Derived.Deep.Slices
import Derived.Deep.Fields
import Derived.Carry
import Derived.RangeFuncLeaves
import Derived.OrdersIn
import Derived.LoopNIn
import Derived.TacticsIn
import Derived.RangeFuncRecord
/- The frame of every law, over any program: from 'called with whatever can be read, it hands back true and leaves what was there alone' to the row's own step. And how arguments are opened. -/
namespace Go.Proofs.Ytkhbehgikhamdaa
open Go.ChangeShapes Go.WideShapes Go.ChangeAt Go.RowKit

section
variable {H : Type} {enc : TypeId × Value → H} {P : Program}

theorem Zgw (hl : laidOutB P = true) {W W' : World} (hb : Below W.heap.size W W') : ∀ {ts : List TypeId} {vs : List Value} {ds : List (DataW H)} {ps : List MemPlace},
  (ts.all fun t => P.readableRec t && decide (t < P.types.size)) = true → DataW.TrodAll enc P W 0 (fun _ => true) true ts vs ds ps → (∀ x ∈ ps, x.block < W.heap.size) →
  DataW.TrodAll enc P W' 0 (fun b => decide (b < W.heap.size)) true ts vs ds ps
 | [], vs, ds, ps, _, h, _ => by
  obtain ⟨rfl, rfl, rfl⟩ := trodAll_nil h
  exact trodAll_mk0
 | t :: ts, vs, ds, ps, ha, h, hlt => by
  obtain ⟨v, vs', d, ds', p, q, rfl, rfl, rfl, h0, r0⟩ := trodAll_cons h
  simp only [List.all_cons, Bool.and_eq_true, decide_eq_true_eq] at ha
  exact trodAll_cons_mk (Below.trod hl ha.1.1 ha.1.2 h0 hb fun x hx => hlt x (List.mem_append_left _ hx))
   (Zgw hl hb (by simpa using ha.2) r0 fun x hx => hlt x (List.mem_append_right _ hx))

theorem ZkI {C : Checked} {os : Os} {F : FuncId} {fn : Func} {s : ChangeSpec} {tb : TypeId}
  (own : ownKnob C.prog.godebug = none) (started : os.Started) (noInit : C.prog.inits.idxOf? F = none) (hfn : C.prog.funcs[F]? = some fn)
  (hv : s.vars = []) (hrt : fn.resultTypes = #[tb]) (hub : C.prog.underlying tb = some .bool)
  (hspec : ∀ ds : List (DataW H), ds.length = fn.params.size → s.fn H ds = { results := [.lit (.bool true)], args := ds })
  (hl : laidOutB C.prog = true) (hr : (fn.params.toList.all fun t => C.prog.readableRec t && decide (t < C.prog.types.size)) = true)
  (witness : ∃ (w : World) (tape : Tape) (i : Input), w.os = os ∧ (w.forCall tape i).Shaped C.prog ∧ i.vars = [] ∧ Input.okWide C.prog (w.forCall tape i) .any w.heap.size F i ∧
   s.pre6 enc C.prog fn [] false (w.forCall tape i).memory i.args ∧ ({} : Assume).holds C.prog (lone (Frame.enter C.prog F i.args .normal) [] (w.forCall tape i)))
  (walk : ∀ (W : World) (base : Nat) (args : Array Value) (ds : List (DataW H)) (p : List MemPlace),
   (∀ (j : Nat) t v, fn.params[j]? = some t → args[j]? = some v → Value.okWide C.prog W .any base t v) →
   DataW.TrodAll enc C.prog W 0 (fun _ => true) true fn.params.toList args.toList ds p → (∀ x ∈ p, x.block < W.heap.size) →
   (DataW.weightsEach C.prog fn.params.toList ds).all (· ≤ reachBytes) = true →
   Calls C.prog F args W (Ret (.bool true) W)) :
  ReturnsInHanded {} C os F .any (s.pre6 enc C.prog fn [] false) (s.post enc C.prog fn false true false false) := by
 refine returnsInHanded_of_change_sized own started noInit hfn witness ?_
 intro W base args ds gs before hval hW _ hsz _
 have hlt : ∀ x ∈ before, x.block < W.heap.size := fun x hx => hW.lt x hx
 obtain ⟨p, q, hA, hV, hps, hfz, hnd⟩ := id hW
 rw [hv] at hV
 obtain ⟨rfl, rfl⟩ := trodVars_none hV
 rw [List.append_nil] at hps
 subst hps
 have hvt : s.plain.varTypes C.prog = [] := by simp [ChangeSpec.plain, DataSpec.varTypes, hv]
 rw [hvt, List.append_nil, List.append_nil] at hsz
 refine (walk W base args ds before hval hA hlt hsz).mono fun e W' ⟨he, hb⟩ => ⟨_, he, ?_⟩
 have hlen : ds.length = fn.params.size := by
  have : ∀ {ts : List TypeId} {vs : List Value} {ds : List (DataW H)} {ps : List MemPlace}, DataW.TrodAll enc C.prog W 0 (fun _ => true) true ts vs ds ps → ds.length = ts.length := by
   intro ts
   induction ts with
   | nil => intro vs ds ps h; obtain ⟨_, rfl, _⟩ := trodAll_nil h; rfl
   | cons t ts ih => intro vs ds ps h; obtain ⟨_, _, _, _, _, _, _, rfl, _, _, r⟩ := trodAll_cons h; simp [ih r]
  simpa using this hA
 have hs := hspec (ds ++ []) (by simpa using hlen)
 refine ⟨ds, [], before, [], before, [], by simpa [hv] using hW, ?_, ?_, ?_, World.keptBut_mono (fun x hx => ⟨hx, .inr (.inl hx)⟩) (hb.frame (· ∈ before)), fun h => by cases h⟩
 ·rw [hs, hrt]
  exact trodAll_mk1 (shut_bool hub true)
 ·rw [hs]
  simpa using Zgw hl hb hr hA hlt
 ·rw [hs, hv]
  rfl
end
end Go.Proofs.Ytkhbehgikhamdaa
/- A round's frame: what the runner says of code holds there too. -/
namespace Go.Proofs.Ytkhbehgikhamdaa
open Go.RowKit
namespace Ev
def ZdI (o : Oper) : Bool := match o.op with | .defer _ => false | _ => true
def ZbC : Code → Bool
 | .seq a b => ZbC a && ZbC b
 | .cond _ a b => ZbC a && ZbC b
 | .block _ a => ZbC a
 | .loop a => ZbC a
 | .region _ ops _ => Zv ZdI ops.toList
 | .scope _ => false
 | _ => true
abbrev Fr (r : Option Nat) : Fence := { Fence.wide with round := r }
theorem ZdY {o : Oper} (h : ZdI o = true) : ∀ c, o.op ≠ .defer c := fun c e => by unfold ZdI at h; rw [e] at h; cases h
section
variable {P : Program} {ext : FuncId → Option Ext} {r : Option Nat}
theorem ZlC {n : Nat} {row : String} {args : Array Value} {w : World} {R : Value → World → Prop} (h : Rows P row args w R) : RowsIn (Fr r) n P row args w R := fun c cs _ => by
 obtain ⟨v, w', q, s⟩ := h c cs
 exact ⟨v, w', q, stepsIn_wide.2 s⟩
theorem Zlk {n f : Nat} {args : Array Value} {w : World} {R : Ending → World → Prop} (h : Calls P f args w R) : CallsIn (Fr r) n P f args w R := (callsIn_wide (n := n)).2 h
theorem ZhB {o : Oper} {a : Act} {w : World} {K : Act → World → Prop} {Q0 Q : Exit → Act → World → Prop} (hq : ∀ e a w, e ≠ .normal → ¬ Q0 e a w) (hnd : ∀ c, o.op ≠ .defer c) (h : o.wp P a w K Q0) : o.wpIn (Fr r) 0 P a w K Q := by
 refine ⟨fun _ _ => trivial, ?_⟩
 rw [Oper.semAt_eq _ _ _ hnd]
 unfold Oper.wp at h
 generalize (execOp a.eval o).run P w = x at h ⊢
 have no : ∀ (e : Exit) (a : Act) (w : World), e ≠ .normal → Q0 e a w → False := fun e a w he hx => hq e a w he hx
 cases x with
 | ok nx w' =>
  cases nx with
  | value v => exact h
  | skip => exact h
  | defer d => exact h
  | enter f args =>
   refine ⟨fun e => (by cases e), Zlk (Calls.mono h ?_)⟩
   intro e w2 h2
   cases e with
   | returned v => exact h2
   | panicked chain => exact (no _ _ _ (by simp) h2).elim
   | outgrown => obtain ⟨a0, w0, h0⟩ := h2; exact (no _ _ _ (by simp) h0).elim
  | row row args => exact ⟨fun e => (by cases e), ZlC h⟩
  | _ => exact h.elim
 | halt x w' =>
  cases x with
  | panic v => exact (no _ _ _ (by simp) h).elim
  | _ => exact h.elim
def Zko (Q : Exit → Act → World → Prop) : Exit → Act → World → Prop := fun e a w => e = .normal ∧ Q .normal a w
theorem ZiR {Q : Exit → Act → World → Prop} : ∀ e a w, e ≠ .normal → ¬ Zko Q e a w := fun e a w he h => he h.1
theorem ZhC {ops : Array Oper} {Q : Exit → Act → World → Prop} : ∀ (l : List Oper) (a : Act) (w : World), Zv ZdI l = true → wpList P ops (Zko Q) l a w → wpListIn (Fr r) 0 P ops Q l a w
 | [], a, w, _, h => h.2
 | o :: l, a, w, hn, h => by
  have ho := ZdY (ZM hn o (List.mem_cons_self ..))
  have hl : Zv ZdI l = true := Zh7 fun x hx => ZM hn x (List.mem_cons_of_mem _ hx)
  unfold wpList at h
  unfold wpListIn
  split
  ·rename_i hw
   rw [if_pos hw] at h
   rcases h with h | ⟨_, a0, w0, h0⟩
   ·exact ZhB ZiR ho (Oper.wp_mono (fun a w => ZhC l a w hl) h)
   ·cases h0.1
  ·rename_i hw
   rw [if_neg hw] at h
   exact ⟨fun _ _ => trivial, ZhC l _ w hl h⟩
theorem Zht {ops : Array Oper} {Q : Exit → Act → World → Prop} {md : Region.Mode} (hn : Zv ZdI ops.toList = true) : ∀ (fuel : Nat) (listed : Array Bool) (a : Act) (w : World), wpAny P md ops (Zko Q) fuel listed a w → wpAnyIn (Fr r) 0 P md ops Q fuel listed a w
 | 0, listed, a, w, h => ⟨h.1, h.2.2⟩
 | fuel + 1, listed, a, w, h => by
  refine ⟨fun e => (h.1 e).2, fun i hi => ?_⟩
  have hi := h.2 i hi
  unfold wpOp at hi
  unfold wpOpIn
  split
  ·rename_i ho
   rw [ho] at hi
   exact Zht hn fuel _ a w hi
  ·rename_i o ho
   rw [ho] at hi
   simp only at hi
   have hd := ZdY (ZM hn o (by simpa using Array.mem_of_getElem? ho))
   split
   ·rename_i hw
    rw [if_pos hw] at hi
    rcases hi with hi | ⟨_, a0, w0, h0⟩
    ·exact ZhB ZiR hd (Oper.wp_mono (fun a w => Zht hn fuel _ a w) hi)
    ·cases h0.1
   ·rename_i hw
    rw [if_neg hw] at hi
    exact ⟨fun _ _ => trivial, Zht hn fuel _ _ w hi⟩
theorem Zdo {c : Code} {Q Q' : Exit → Act → World → Prop} (hq : ∀ e a w, Q e a w → Q' e a w) : ∀ (n : Nat) (a : Act) (w : World), Code.roundsIn (Fr r) 0 P c Q n a w → Code.roundsIn (Fr r) 0 P c Q' n a w
 | 0, _, _, h => h
 | n + 1, a, w, h => by
  rw [roundsIn_succ] at h ⊢
  refine wpIn_mono h ?_
  intro e a1 w1 h1
  cases e with
  | normal => exact Zdo hq n a1 w1 h1
  | _ => exact hq _ _ _ h1
theorem ZiS (F : Fit P ext) : ∀ fu : Nat,
  (∀ nt c T s e T' s', ZJ P ext nt fu c T s = some (e, T', s') → ZbC c = true → (∀ p ∈ s'.ob, p.1 = p.2) → ∀ ι D a w, TR ι nt D T a → Emb P ι s.h.get w → Fresh ι s.n s'.n → c.wpIn (Fr r) 0 P (ZbU P ι s w nt D e T' s') a w) ∧
  (∀ nt c T s e T' s', ZJ P ext nt fu (.loop c) T s = some (e, T', s') → ZbC c = true → (∀ p ∈ s'.ob, p.1 = p.2) → ∀ ι D a w, TR ι nt D T a → Emb P ι s.h.get w → Fresh ι s.n s'.n → Code.roundsIn (Fr r) 0 P c (ZbU P ι s w nt D e T' s') fu a w) := by
 intro fu
 induction fu with
 | zero => exact ⟨fun _ _ _ _ _ _ _ h => by simp [ZJ] at h, fun _ _ _ _ _ _ _ h => by simp [ZJ] at h⟩
 | succ fu ih =>
  obtain ⟨ihC, ihL⟩ := ih
  obtain ⟨upC, upO, upP, upF, upD, upE⟩ := Zbv (P := P) (ext := ext) (fun f g hg => (F.hp f g hg).up) fu
  have loops : ∀ nt c T s e T' s', ZJ P ext nt (fu + 1) (.loop c) T s = some (e, T', s') → ZbC c = true → (∀ p ∈ s'.ob, p.1 = p.2) → ∀ ι D a w, TR ι nt D T a → Emb P ι s.h.get w → Fresh ι s.n s'.n → Code.roundsIn (Fr r) 0 P c (ZbU P ι s w nt D e T' s') (fu + 1) a w := by
   intro nt x T s e T' s' h hn ho ι D a w hT he hf
   simp only [ZJ] at h
   rw [roundsIn_succ]
   split at h
   ·rename_i T1 s1 h1
    have u1 := upC _ _ _ _ _ _ _ h1
    have u2 := upC _ _ _ _ _ _ _ h
    refine wpIn_mono (ihC nt x T s .normal T1 s1 h1 hn (ZS u2.ob ho) ι D a w hT he (hf.mono (Nat.le_refl _) u2.n)) ?_
    rintro ex a1 w1 ⟨rfl, ι1, g1, g2, g3⟩
    refine Zdo ?_ fu a1 w1 (ihL nt x T1 s1 e T' s' h hn ho ι1 D a1 w1 g3 g1.emb (hf.after g2 u1.n))
    rintro ex2 a2 w2 ⟨rfl, ι2, k1, k2, k3⟩
    exact ⟨rfl, ι2, g1.trans k1, g2.trans k2 u1.n u2.n, k3⟩
   ·rename_i i T1 s1 h1
    injection h with h; simp only [Prod.mk.injEq] at h; obtain ⟨rfl, rfl, rfl⟩ := h
    refine wpIn_mono (ihC nt x T s _ _ _ h1 hn ho ι D a w hT he hf) ?_
    rintro ex a1 w1 ⟨rfl, hq⟩
    exact ⟨rfl, hq⟩
   ·rename_i T1 s1 h1
    injection h with h; simp only [Prod.mk.injEq] at h; obtain ⟨rfl, rfl, rfl⟩ := h
    refine wpIn_mono (ihC nt x T s _ _ _ h1 hn ho ι D a w hT he hf) ?_
    rintro ex a1 w1 ⟨rfl, hq⟩
    exact ⟨rfl, hq⟩
   ·cases h
  refine ⟨fun nt c T s e T' s' h hn ho ι D a w hT he hf => ?_, loops⟩
  have base : ZbU P ι s w nt D .normal T s .normal a w ∧ ZbU P ι s w nt D .ret T s .ret a w ∧ ∀ i, ZbU P ι s w nt D (.exit i) T s (.exit i) a w :=
   ⟨⟨rfl, ι, Step.refl he, Dom.refl, hT⟩, ⟨rfl, ι, Step.refl he, Dom.refl, hT⟩, fun i => ⟨rfl, ι, Step.refl he, Dom.refl, hT⟩⟩
  have chain : ∀ {s1 : St} {T1 : Tr Value} {c2 : Code} {a1 : Act} {w1 : World} {ι1 : Ren}, ZbC c2 = true → Up s s1 → Up s1 s' → Step P ι s.h.get w ι1 s1.h.get w1 → Dom ι ι1 s.n s1.n → TR ι1 nt D T1 a1 → ZJ P ext nt fu c2 T1 s1 = some (e, T', s') →
    c2.wpIn (Fr r) 0 P (ZbU P ι s w nt D e T' s') a1 w1 := fun {s1 T1 c2 a1 w1 ι1} n2 u1 u2 h1 h2 h3 h4 => by
   refine wpIn_mono (ihC nt c2 T1 s1 e T' s' h4 n2 ho ι1 D a1 w1 h3 h1.emb ((hf.mono (Nat.le_refl _) (Nat.le_refl _)).after h2 u1.n)) ?_
   rintro ex a2 w2 ⟨rfl, ι2, g1, g2, g3⟩
   exact ⟨rfl, ι2, (Step.two ⟨h1, h2⟩ ⟨g1, g2⟩ u1.n u2.n).1, (Step.two ⟨h1, h2⟩ ⟨g1, g2⟩ u1.n u2.n).2, g3⟩
  have h0 := h
  cases c <;> simp only [ZJ] at h
  case skip => injection h with h; simp only [Prod.mk.injEq] at h; obtain ⟨rfl, rfl, rfl⟩ := h; exact wpIn_skip base.1
  case label l => injection h with h; simp only [Prod.mk.injEq] at h; obtain ⟨rfl, rfl, rfl⟩ := h; exact wpIn_label base.1
  case scope c => cases hn
  case ret => injection h with h; simp only [Prod.mk.injEq] at h; obtain ⟨rfl, rfl, rfl⟩ := h; exact wpIn_ret base.2.1
  case exit id => injection h with h; simp only [Prod.mk.injEq] at h; obtain ⟨rfl, rfl, rfl⟩ := h; exact wpIn_exit (base.2.2 id)
  case seq x y =>
   simp only [ZbC, Bool.and_eq_true] at hn
   split at h
   ·rename_i T1 s1 h1
    have u1 := upC _ _ _ _ _ _ _ h1
    have u2 := upC _ _ _ _ _ _ _ h
    refine wpIn_seq (wpIn_mono (ihC nt x T s .normal T1 s1 h1 hn.1 (ZS u2.ob ho) ι D a w hT he (hf.mono (Nat.le_refl _) u2.n)) ?_)
    rintro ex a1 w1 ⟨rfl, ι1, g1, g2, g3⟩
    exact chain hn.2 u1 u2 g1 g2 g3 h
   ·rename_i i T1 s1 h1
    injection h with h; simp only [Prod.mk.injEq] at h; obtain ⟨rfl, rfl, rfl⟩ := h
    refine wpIn_seq (wpIn_mono (ihC nt x T s _ _ _ h1 hn.1 ho ι D a w hT he hf) ?_)
    rintro ex a1 w1 ⟨rfl, hq⟩
    exact ⟨rfl, hq⟩
   ·rename_i T1 s1 h1
    injection h with h; simp only [Prod.mk.injEq] at h; obtain ⟨rfl, rfl, rfl⟩ := h
    refine wpIn_seq (wpIn_mono (ihC nt x T s _ _ _ h1 hn.1 ho ι D a w hT he hf) ?_)
    rintro ex a1 w1 ⟨rfl, hq⟩
    exact ⟨rfl, hq⟩
   ·cases h
  case cond x y z =>
   simp only [ZbC, Bool.and_eq_true] at hn
   split at h
   ·rename_i t ht
    have hx : a.eval x = .bool t := Zcq ((ht ▸ hT.opnd x : VR ι (.bool t) (ZaP a x)).bool_inv)
    split at h
    ·exact wpIn_cond_true hx (ihC nt y T s e T' s' h hn.1 ho ι D a w hT he hf)
    ·exact wpIn_cond_false hx (ihC nt z T s e T' s' h hn.2 ho ι D a w hT he hf)
   ·cases h
  case block id x =>
   simp only [ZbC] at hn
   split at h
   ·rename_i i T1 s1 h1
    cases hb : Nat.beq i id with
    | true =>
     rw [hb] at h
     injection h with h; simp only [Prod.mk.injEq] at h; obtain ⟨rfl, rfl, rfl⟩ := h
     refine wpIn_block (wpIn_mono (ihC nt x T s _ _ _ h1 hn ho ι D a w hT he hf) ?_)
     rintro ex a1 w1 ⟨rfl, hq⟩
     show if i = id then _ else _
     rw [if_pos (Nat.eq_of_beq_eq_true hb)]
     exact ⟨rfl, hq⟩
    | false =>
     rw [hb] at h
     injection h with h; simp only [Prod.mk.injEq] at h; obtain ⟨rfl, rfl, rfl⟩ := h
     refine wpIn_block (wpIn_mono (ihC nt x T s _ _ _ h1 hn ho ι D a w hT he hf) ?_)
     rintro ex a1 w1 ⟨rfl, hq⟩
     show if i = id then _ else _
     rw [if_neg (fun e => by rw [Zdk e] at hb; cases hb)]
     exact ⟨rfl, hq⟩
   ·rename_i T1 s1 h1
    injection h with h; simp only [Prod.mk.injEq] at h; obtain ⟨rfl, rfl, rfl⟩ := h
    refine wpIn_block (wpIn_mono (ihC nt x T s _ _ _ h1 hn ho ι D a w hT he hf) ?_)
    rintro ex a1 w1 ⟨rfl, hq⟩
    exact ⟨rfl, hq⟩
   ·rename_i T1 s1 h1
    injection h with h; simp only [Prod.mk.injEq] at h; obtain ⟨rfl, rfl, rfl⟩ := h
    refine wpIn_block (wpIn_mono (ihC nt x T s _ _ _ h1 hn ho ι D a w hT he hf) ?_)
    rintro ex a1 w1 ⟨rfl, hq⟩
    exact ⟨rfl, hq⟩
   ·cases h
  case loop x =>
   simp only [ZbC] at hn
   exact wpIn_loop_rounds (fu + 1) (loops nt x T s e T' s' h0 hn ho ι D a w hT he hf)
  case region id ops draw =>
   simp only [ZbC] at hn
   cases draw with
   | true =>
    simp only [cond_true] at h
    split at h
    ·rename_i es T1 s1 h1
     injection h with h; simp only [Prod.mk.injEq] at h; obtain ⟨rfl, rfl, rfl⟩ := h
     exact wpIn_region_any F.mixed (Zht hn _ _ _ _ (ZiL F (fun fu' _ => (ZbQ F fu').2.2.1) h1 ho hT he hf fun ι' a' w' g1 g2 g3 => ⟨rfl, rfl, ι', g1, g2, g3⟩))
    ·cases h
   | false =>
   simp only [cond_false] at h
   split at h
   ·rename_i T1 s1 h1
    injection h with h; simp only [Prod.mk.injEq] at h; obtain ⟨rfl, rfl, rfl⟩ := h
    exact wpIn_region_list (ZhC _ _ _ hn ((ZbQ F fu).2.1 nt ops ops.toList T s T1 s1 h1 ho ι D a w _ hT he hf fun ι' a' w' g1 g2 g3 => ⟨rfl, rfl, ι', g1, g2, g3⟩))
   ·cases h
  all_goals cases h
end
end Ev
end Go.Proofs.Ytkhbehgikhamdaa
/- Ranges over functions: the rounds, the iterator, the statement. -/
namespace Go.Proofs.Ytkhbehgikhamdaa
open Go.RowKit
namespace Ev
noncomputable section
structure Cx where
 nt : Nat
 T : Tr Value
 ps : Array Tmp
 asg : Code
 body : Code
def Zll : List Tmp → List Value → Tr Value → Tr Value
 | t :: ts, v :: vs, T => Zll ts vs (T.set t (some v))
 | _, _, T => T
def isN : Ex → Bool
 | .normal => true
 | _ => false
def pend : Ex → Option Ex
 | .normal => none
 | e => some e
def ZeX (P : Program) (ext : FuncId → Option Ext) (cx : Cx) (fu : Nat) (xs : List Value) (s : St) : Option (Ex × St) :=
 bif Nat.beq xs.length cx.ps.toList.length && Zv (fun t => Nat.blt t cx.nt) cx.ps.toList && ZbC cx.asg && ZbC cx.body then
  match ZJ P ext cx.nt fu cx.asg (Zll cx.ps.toList xs cx.T) s with
  | some (.normal, T1, s1) => match ZJ P ext cx.nt fu cx.body T1 s1 with
   | some (e, _, s2) => some (e, s2)
   | none => none
  | _ => none
 else none
def ZjI (ys : List Tmp) (o : Oper) : Option (Array Operand) :=
 match o.op with
 | .call c => match c.callee with
  | .value (.tmp t) => bif ZdT t ys then some c.args else none
  | _ => none
 | _ => none
def Zhu (ys : List Tmp) (o : Oper) : Bool :=
 match o.op with
 | .move (.tmp t) => ZdT t ys
 | _ => false
def Zkp (dst : Option Tmp) (ys : List Tmp) : List Tmp := match dst with | some d => ys.filter (fun t => !Nat.beq t d) | none => ys
def addY (dst : Option Tmp) (ys : List Tmp) : List Tmp := match dst with | some d => d :: ys | none => ys
def Zcx (P : Program) (ext : FuncId → Option Ext) (nt : Nat) (cx : Cx) (fu : Nat) (ops : Array Oper) : List Oper → Tr Value → St → List Tmp → Option Ex → Option (Tr Value × St × List Tmp × Option Ex)
 | [], T, s, ys, pe => some (T, s, ys, pe)
 | o :: l, T, s, ys, pe =>
  bif Zc1 nt o.dst && Zv Zcu o.op.operands.toList && (ZdI o && o.guard.isNone) then
   match ZjI ys o with
   | some xs => match pe with
    | none => match ZeX P ext cx fu (xs.toList.map (opnd T)) s with
     | some (e, s1) => Zcx P ext nt cx fu ops l (ZbF T o.dst (.bool (isN e))) s1 (Zkp o.dst ys) (pend e)
     | none => none
    | some _ => none
   | none => bif Zhu ys o then Zcx P ext nt cx fu ops l (ZbF T o.dst (.chan (some 0))) s (addY o.dst ys) pe
    else match Zc2 P ext fu (opnd T) o s with
     | some (v, s1) => Zcx P ext nt cx fu ops l (ZbF T o.dst v) s1 (Zkp o.dst ys) pe
     | none => none
  else none
def evI (P : Program) (ext : FuncId → Option Ext) (nt : Nat) (cx : Cx) : Nat → Code → Tr Value → St → List Tmp → Option Ex → Option (Ex × Tr Value × St × List Tmp × Option Ex)
 | 0, _, _, _, _, _ => none
 | fu + 1, c, T, s, ys, pe => match c with
  | .skip => some (.normal, T, s, ys, pe)
  | .ret => some (.ret, T, s, ys, pe)
  | .exit id => some (.exit id, T, s, ys, pe)
  | .seq a b => match evI P ext nt cx fu a T s ys pe with
   | some (.normal, T', s', ys', pe') => evI P ext nt cx fu b T' s' ys' pe'
   | some (.exit i, r) => some (.exit i, r)
   | some (.ret, r) => some (.ret, r)
   | none => none
  | .cond x a b => match opnd T x with
   | .bool t => match t with
    | true => evI P ext nt cx fu a T s ys pe
    | false => evI P ext nt cx fu b T s ys pe
   | _ => none
  | .block id a => match evI P ext nt cx fu a T s ys pe with
   | some (.exit i, r) => bif Nat.beq i id then some (.normal, r) else some (.exit i, r)
   | some (.normal, r) => some (.normal, r)
   | some (.ret, r) => some (.ret, r)
   | none => none
  | .loop a => match evI P ext nt cx fu a T s ys pe with
   | some (.normal, T', s', ys', pe') => evI P ext nt cx fu (.loop a) T' s' ys' pe'
   | some (.exit i, r) => some (.exit i, r)
   | some (.ret, r) => some (.ret, r)
   | none => none
  | .region _ ops draw => match draw with
   | true => none
   | false => match Zcx P ext nt cx fu ops ops.toList T s ys pe with
    | some (T', s', ys', pe') => some (.normal, T', s', ys', pe')
    | none => none
  | _ => none
def ZiT (P : Program) (ext : FuncId → Option Ext) (nt fu : Nat) (g : Operand) (ps : Array Tmp) (asg body : Code) (T : Tr Value) (s : St) : Option (Ex × St) :=
 match opnd T g with
 | .func (.func gf) av bv => match P.funcs[gf]? with
  | some fn => match fn.body with
   | some c => bif Zcu g && Nat.ble (av ++ #[Value.chan (some 0)] ++ bv).size fn.ntmps && Nat.beq fn.results.toList.length 0 then
     match evI P ext fn.ntmps ⟨nt, T, ps, asg, body⟩ fu c (Zcn 0 (av ++ #[Value.chan (some 0)] ++ bv).toList .nil) s [av.size] none with
     | some (.exit _, _) => none
     | some (_, _, s', _, none) => some (.normal, s')
     | some (_, _, s', _, some e) => bif isN e then none else some (e, s')
     | none => none
    else none
   | none => none
  | none => none
 | _ => none
def evR (P : Program) (ext : FuncId → Option Ext) (nt : Nat) : Nat → Code → Tr Value → St → Bool → Option (Ex × Tr Value × St × Bool)
 | 0, _, _, _, _ => none
 | fu + 1, c, T, s, m => match c with
  | .seq a b => match evR P ext nt fu a T s m with
   | some (.normal, T', s', m') => evR P ext nt fu b T' s' m'
   | some (.exit i, r) => some (.exit i, r)
   | some (.ret, r) => some (.ret, r)
   | none => none
  | .cond x a b => match opnd T x with
   | .bool t => match t with
    | true => evR P ext nt fu a T s m
    | false => evR P ext nt fu b T s m
   | _ => none
  | .block id a => match evR P ext nt fu a T s m with
   | some (.exit i, r) => bif Nat.beq i id then some (.normal, r) else some (.exit i, r)
   | some (.normal, r) => some (.normal, r)
   | some (.ret, r) => some (.ret, r)
   | none => none
  | .rangeFunc g ps asg body => bif m then none else match ZiT P ext nt fu g ps asg body T s with
   | some (e, s') => some (e, T, s', true)
   | none => none
  | .region i ops draw => match ZJ P ext nt (fu + 1) (.region i ops draw) T s with
   | some (e, T', s') => some (e, T', s', m)
   | none => none
  | .loop a => match ZJ P ext nt (fu + 1) (.loop a) T s with
   | some (e, T', s') => some (e, T', s', m)
   | none => none
  | .skip => some (.normal, T, s, m)
  | .ret => some (.ret, T, s, m)
  | .exit id => some (.exit id, T, s, m)
  | _ => none
def ZcP (P : Program) (ext : FuncId → Option Ext) (fu : Nat) (f : FuncId) (args : Array Value) (s : St) : Out :=
 match P.funcs[f]? with
 | some fn => match fn.body with
  | some c => bif Nat.ble args.size fn.ntmps then match evR P ext fn.ntmps fu c (Zcn 0 args.toList .nil) s false with
   | some (.exit _, _) => none
   | some (_, T, s', _) => match Za8 P T s' fn.results.toList with
    | some [v] => some (v, s')
    | some vs => some (.tuple vs.toArray, s')
    | none => none
   | none => none
   else none
  | none => none
 | none => none
end
section
variable {P : Program} {ext : FuncId → Option Ext}
theorem Step.put {ι0 ι : Ren} {h0 h : AH} {w0 W : World} (st : Step P ι0 h0 w0 ι h W) {l : Nat} (hl : w0.heap.size ≤ l) (hn : ∀ k b, ι k = some b → b.1 ≠ l) (o : Obj) : Step P ι0 h0 w0 ι h (W.putObj l o) where
 ext := st.ext
 emb := ⟨fun k c t hk => by
   obtain ⟨b, C, q1, q2, q3⟩ := st.emb.obj k c t hk
   exact ⟨b, C, q1, (World.putObj_heap_other (hn k b q1)).trans q2, q3⟩,
  fun k O hk => by
   obtain ⟨b, q1, q2⟩ := st.emb.ro k O hk
   exact ⟨b, q1, q2.on (World.putObj_heap_other (hn k b q1))⟩, st.emb.inj, fun k b hk => by
   have := st.emb.lt k b hk
   simpa [World.putObj] using this, fun b base id q hq => by
   obtain ⟨m1, m2, m3⟩ := st.emb.mks b base id q hq
   exact ⟨m1, ⟨m2.1.ext (fun _ _ h => h) (World.putObj_heap_other (by rw [← m1]; exact hn _ q hq)), m2.2⟩, m3⟩⟩
 os := st.os
 tape := st.tape
 output := st.output
 size := by have := st.size; simpa [World.putObj] using this
 frame := fun b hb hc => (World.putObj_heap_other (by omega)).trans (st.frame b hb hc)
 new := st.new
 alive := st.alive
 kind := st.kind
structure IS (P : Program) (ι0 : Ren) (h0 : AH) (w0 : World) (n0 : Nat) (cn : Nat) (cT : Tr Value) (ac : Act) (l K : Nat) (R : Loop) (ι : Ren) (s : St) (W : World) : Prop where
 st : Step P ι0 h0 w0 ι s.h.get W
 dm : Dom ι0 ι n0 s.n
 hn : n0 ≤ s.n
 tr : TR ι cn [] cT { tmps := ac.tmps, defers := [] }
 lo : W.heap[l]? = some (.loop R)
 de : W.heap[K]? = some (.deferred (some []))
 ll : w0.heap.size ≤ l
 lk : K ≠ l
 nl : ∀ k b, ι k = some b → b.1 ≠ l ∧ b.1 ≠ K
theorem ZgY {ι ι1 : Ren} {h h1 : AH} {W W1 : World} (g : Step P ι h W ι1 h1 W1) {l : Nat} (hl : l < W.heap.size) (hn : ∀ k b, ι k = some b → b.1 ≠ l) : (∀ k b, ι1 k = some b → b.1 ≠ l) ∧ W1.heap[l]? = W.heap[l]? := by
 refine ⟨fun k b hk => ?_, g.frame l hl fun k c _ hc => hn k c hc⟩
 cases hi : ι k with
 | some c =>
  have := g.ext k c hi
  rw [hk] at this
  injection this with this
  rw [this]; exact hn k c hi
 | none =>
  rcases g.new k b hi hk with h | ⟨j, c, _, hj, e⟩
  ·omega
  ·rw [← e]; exact hn j c hj
section
variable {ι0 : Ren} {h0 : AH} {w0 : World} {n0 cn : Nat} {cT : Tr Value} {ac : Act} {l K : Nat} {R : Loop}
theorem IS.step {ι ι1 : Ren} {s s1 : St} {W W1 : World} (I : IS P ι0 h0 w0 n0 cn cT ac l K R ι s W) (g1 : Step P ι s.h.get W ι1 s1.h.get W1) (g2 : Dom ι ι1 s.n s1.n) (hle : s.n ≤ s1.n) : IS P ι0 h0 w0 n0 cn cT ac l K R ι1 s1 W1 := by
 have hl : l < W.heap.size := (Array.getElem?_eq_some_iff.1 I.lo).1
 have hk : K < W.heap.size := (Array.getElem?_eq_some_iff.1 I.de).1
 obtain ⟨a1, a2⟩ := ZgY g1 hl fun k b h => (I.nl k b h).1
 obtain ⟨b1, b2⟩ := ZgY g1 hk fun k b h => (I.nl k b h).2
 exact ⟨I.st.trans g1, I.dm.trans g2 I.hn hle, Nat.le_trans I.hn hle, I.tr.on g1.ext, a2.trans I.lo, b2.trans I.de, I.ll, I.lk, fun k b h => ⟨a1 k b h, b1 k b h⟩⟩
theorem IS.put {ι : Ren} {s : St} {W : World} (I : IS P ι0 h0 w0 n0 cn cT ac l K R ι s W) (R' : Loop) : IS P ι0 h0 w0 n0 cn cT ac l K R' ι s (W.putObj l (.loop R')) := by
 have hl : l < W.heap.size := (Array.getElem?_eq_some_iff.1 I.lo).1
 exact ⟨I.st.put I.ll (fun k b h => (I.nl k b h).1) _, I.dm, I.hn, I.tr, World.putObj_heap_same hl, (World.putObj_heap_other I.lk).trans I.de, I.ll, I.lk, I.nl⟩
end
def Zmh : Ex → Code
 | .exit i => .exit i
 | _ => .ret
def Rp (R : Loop) : Option Ex → Loop
 | none => { R with state := .ready, pending := none }
 | some e => { R with state := .done, pending := some (Zmh e) }
theorem ZkJ {ι : Ren} {nt : Nat} : ∀ (ps : List Tmp) (xs xs' : List Value) (T : Tr Value) (t : Array Value), TR ι nt [] T { tmps := t, defers := [] } → xs.length = ps.length → VRs ι xs.toArray xs'.toArray → Zv (fun t => Nat.blt t nt) ps = true →
  TR ι nt [] (Zll ps xs T) { tmps := (ps.zip xs').foldl (fun t p => t.setIfInBounds p.1 p.2) t, defers := [] }
 | [], xs, xs', T, t, hT, hl, hx, hp => by
  cases xs with
  | nil => exact hT
  | cons x xs => simp at hl
 | p :: ps, [], xs', T, t, hT, hl, hx, hp => by simp at hl
 | p :: ps, x :: xs, [], T, t, hT, hl, hx, hp => by have := hx.1; simp at this
 | p :: ps, x :: xs, x' :: xs', T, t, hT, hl, hx, hp => by
  have hp1 : Zc1 nt (some p) = true := ZM hp p (List.mem_cons_self ..)
  have hp2 : Zv (fun t => Nat.blt t nt) ps = true := Zh7 fun y hy => ZM hp y (List.mem_cons_of_mem _ hy)
  have h1 : VR ι x x' := hx.2 0 x x' (by simp) (by simp)
  have h2 : VRs ι xs.toArray xs'.toArray := ⟨by have := hx.1; simpa using this, fun i y y' hy hy' => hx.2 (i + 1) y y' (by simpa using hy) (by simpa using hy')⟩
  exact ZkJ ps xs xs' (T.set p (some x)) (t.setIfInBounds p x') (hT.put (dst := some p) hp1 h1) (by simpa using hl) h2 hp2
section
variable {ι0 : Ren} {h0 : AH} {w0 : World} {n0 : Nat} {ac : Act} {l K : Nat} {R : Loop} {cx : Cx}
theorem Zj3 (F : Fit P ext) {fu : Nat} {xs : List Value} {s s' : St} {e : Ex} (h : ZeX P ext cx fu xs s = some (e, s')) (ho : ∀ p ∈ s'.ob, p.1 = p.2) {ι : Ren} {W : World}
  (hR : R.tmps = ac.tmps ∧ R.params = cx.ps ∧ R.assign = cx.asg ∧ R.body = cx.body) (I : IS P ι0 h0 w0 n0 cx.nt cx.T ac l K (Rp R none) ι s W) (hf : Fresh ι s.n s'.n) {xs' : Array Value} (hx : VRs ι xs.toArray xs') :
  ∃ tm, (Instr.yield l xs').run P W = .ok (.round l R.fn tm cx.asg cx.body) W ∧
   RoundIn (Fr none) 0 P l R.fn tm cx.asg cx.body W fun en W' => en = .returned (.bool (isN e)) ∧ ∃ ι', (∀ k b, ι k = some b → ι' k = some b) ∧ Dom ι ι' s.n s'.n ∧ IS P ι0 h0 w0 n0 cx.nt cx.T ac l K (Rp R (pend e)) ι' s' W' := by
 unfold ZeX at h
 obtain ⟨hg, h⟩ := Zo h
 simp only [Bool.and_eq_true] at hg
 obtain ⟨⟨⟨hl, hps⟩, hna⟩, hnb⟩ := hg
 have hl := Nat.eq_of_beq_eq_true hl
 obtain ⟨upC, _⟩ := Zbv (P := P) (ext := ext) (fun f g hg => (F.hp f g hg).up) fu
 split at h
 ·rename_i T1 s1 h1
  split at h
  ·rename_i e' T2 s2 h2
   injection h with h; injection h with q1 q2; subst q1 q2
   have u1 := upC _ _ _ _ _ _ _ h1
   have u2 := upC _ _ _ _ _ _ _ h2
   have hy := run_yield (P := P) (args := xs') I.lo (by
    show xs'.size = R.params.size
    rw [hR.2.1]
    have a := hx.1
    have b := hl
    simp only [List.size_toArray, Array.length_toList] at a b
    omega)
   have e1 : (Rp R none).tmps = ac.tmps := hR.1
   have e2 : (Rp R none).params = cx.ps := hR.2.1
   have e3 : (Rp R none).assign = cx.asg := hR.2.2.1
   have e4 : (Rp R none).body = cx.body := hR.2.2.2
   have e5 : (Rp R none).fn = R.fn := rfl
   rw [e1, e2, e3, e4, e5] at hy
   refine ⟨_, hy, ?_⟩
   have htr := ZkJ cx.ps.toList xs xs'.toList cx.T ac.tmps I.tr hl (by simpa using hx) hps
   have hfold : (cx.ps.zip xs').foldl (fun (tmps : Array Value) (x : Tmp × Value) => match x with | (t, a) => tmps.setIfInBounds t a) ac.tmps = (cx.ps.toList.zip xs'.toList).foldl (fun t p => t.setIfInBounds p.1 p.2) ac.tmps := by
    rw [← Array.foldl_toList, Array.toList_zip]
   rw [hfold]
   refine roundIn_of_wpIn (F := Fr none) trivial ?_
   refine wpIn_mono (((ZiS (r := some l) F fu).1 cx.nt cx.asg _ s .normal T1 s1 h1 hna (ZS u2.ob ho) ι [] _ W htr I.st.emb (hf.mono (Nat.le_refl _) u2.n)) : Code.wpIn (Fr (some l)) 0 P _ _ _ W) ?_
   rintro ex a1 w1 ⟨rfl, ι1, g1, g2, g3⟩
   have I1 := I.step g1 g2 u1.n
   refine ⟨_, run_beginRound I1.lo rfl, ?_⟩
   have I2 := I1.put { Rp R none with state := .busy }
   refine wpIn_mono (((ZiS (r := some l) F fu).1 cx.nt cx.body T1 s1 e' T2 s2 h2 hnb ho ι1 [] a1 _ g3 I2.st.emb (hf.after g2 u1.n)) : Code.wpIn (Fr (some l)) 0 P _ _ _ _) ?_
   rintro ex a2 w2 ⟨rfl, ι2, k1, k2, k3⟩
   have I3 := I2.step k1 k2 u2.n
   have hext : ∀ k b, ι k = some b → ι2 k = some b := fun k b hk => k1.ext k b (g1.ext k b hk)
   have hdom : Dom ι ι2 s.n s2.n := g2.trans k2 u1.n u2.n
   cases e' with
   | normal => exact ⟨_, _, run_endRound none I3.lo, rfl, ι2, hext, hdom, I3.put _⟩
   | ret => exact ⟨_, _, run_endRound (some .ret) I3.lo, rfl, ι2, hext, hdom, I3.put _⟩
   | exit i => exact ⟨_, _, run_endRound (some (.exit i)) I3.lo, rfl, ι2, hext, hdom, I3.put _⟩
  ·cases h
 ·cases h
end
end
end Ev
end Go.Proofs.Ytkhbehgikhamdaa
/- Ranges over functions: the iterator's code, the statement, the function. -/
namespace Go.Proofs.Ytkhbehgikhamdaa
open Go.RowKit
namespace Ev
section
variable {P : Program} {ext : FuncId → Option Ext}
theorem ZiU (F : Fit P ext) {cx : Cx} {fu : Nat} {xs : List Value} {s s' : St} {e : Ex} (h : ZeX P ext cx fu xs s = some (e, s')) : Up s s' := by
 unfold ZeX at h
 obtain ⟨_, h⟩ := Zo h
 obtain ⟨upC, _⟩ := Zbv (P := P) (ext := ext) (fun f g hg => (F.hp f g hg).up) fu
 split at h
 ·rename_i T1 s1 h1
  split at h
  ·rename_i e' T2 s2 h2
   injection h with h; injection h with q1 q2; subst q1 q2
   exact (upC _ _ _ _ _ _ _ h1).trans (upC _ _ _ _ _ _ _ h2)
  ·cases h
 ·cases h
theorem Zd5 (F : Fit P ext) {nt : Nat} {cx : Cx} {fu : Nat} {ops : Array Oper} : ∀ (l : List Oper) (T : Tr Value) (s : St) (ys : List Tmp) (pe : Option Ex) (T' : Tr Value) (s' : St) (ys' : List Tmp) (pe' : Option Ex), Zcx P ext nt cx fu ops l T s ys pe = some (T', s', ys', pe') → Up s s'
 | [], T, s, ys, pe, T', s', ys', pe', h => by
  simp only [Zcx] at h
  injection h with h; simp only [Prod.mk.injEq] at h; obtain ⟨rfl, rfl, rfl, rfl⟩ := h
  exact Up.refl _
 | o :: l, T, s, ys, pe, T', s', ys', pe', h => by
  simp only [Zcx] at h
  obtain ⟨_, h⟩ := Zo h
  split at h
  ·split at h
   ·split at h
    ·rename_i e s1 h1
     exact (ZiU F h1).trans (Zd5 F l _ _ _ _ _ _ _ _ h)
    ·cases h
   ·cases h
  ·cases hm : Zhu ys o with
   | true => rw [hm] at h; exact Zd5 F l _ _ _ _ _ _ _ _ h
   | false =>
    rw [hm] at h
    simp only [cond_false] at h
    split at h
    ·rename_i v s1 h1
     exact ((Zbv (P := P) (ext := ext) (fun f g hg => (F.hp f g hg).up) fu).2.2.1 _ _ _ _ _ h1).trans (Zd5 F l _ _ _ _ _ _ _ _ h)
    ·cases h
theorem ZbN (F : Fit P ext) {nt : Nat} {cx : Cx} : ∀ (fu : Nat) (c : Code) (T : Tr Value) (s : St) (ys : List Tmp) (pe : Option Ex) (e : Ex) (T' : Tr Value) (s' : St) (ys' : List Tmp) (pe' : Option Ex), evI P ext nt cx fu c T s ys pe = some (e, T', s', ys', pe') → Up s s'
 | 0, _, _, _, _, _, _, _, _, _, _, h => by simp [evI] at h
 | fu + 1, c, T, s, ys, pe, e, T', s', ys', pe', h => by
  cases c <;> simp only [evI] at h
  case skip => injection h with h; simp only [Prod.mk.injEq] at h; obtain ⟨rfl, rfl, rfl, rfl, rfl⟩ := h; exact Up.refl _
  case ret => injection h with h; simp only [Prod.mk.injEq] at h; obtain ⟨rfl, rfl, rfl, rfl, rfl⟩ := h; exact Up.refl _
  case exit id => injection h with h; simp only [Prod.mk.injEq] at h; obtain ⟨rfl, rfl, rfl, rfl, rfl⟩ := h; exact Up.refl _
  case seq x y =>
   split at h
   ·rename_i T1 s1 ys1 pe1 h1; exact (ZbN F fu _ _ _ _ _ _ _ _ _ _ h1).trans (ZbN F fu _ _ _ _ _ _ _ _ _ _ h)
   ·rename_i i r h1; injection h with h; simp only [Prod.mk.injEq] at h; obtain ⟨rfl, rfl⟩ := h; exact ZbN F fu _ _ _ _ _ _ _ _ _ _ h1
   ·rename_i r h1; injection h with h; simp only [Prod.mk.injEq] at h; obtain ⟨rfl, rfl⟩ := h; exact ZbN F fu _ _ _ _ _ _ _ _ _ _ h1
   ·cases h
  case cond x y z =>
   split at h
   ·split at h
    ·exact ZbN F fu _ _ _ _ _ _ _ _ _ _ h
    ·exact ZbN F fu _ _ _ _ _ _ _ _ _ _ h
   ·cases h
  case block id x =>
   split at h
   ·rename_i i r h1
    cases hb : Nat.beq i id with
    | true => rw [hb] at h; injection h with h; simp only [Prod.mk.injEq] at h; obtain ⟨rfl, rfl⟩ := h; exact ZbN F fu _ _ _ _ _ _ _ _ _ _ h1
    | false => rw [hb] at h; injection h with h; simp only [Prod.mk.injEq] at h; obtain ⟨rfl, rfl⟩ := h; exact ZbN F fu _ _ _ _ _ _ _ _ _ _ h1
   ·rename_i r h1; injection h with h; simp only [Prod.mk.injEq] at h; obtain ⟨rfl, rfl⟩ := h; exact ZbN F fu _ _ _ _ _ _ _ _ _ _ h1
   ·rename_i r h1; injection h with h; simp only [Prod.mk.injEq] at h; obtain ⟨rfl, rfl⟩ := h; exact ZbN F fu _ _ _ _ _ _ _ _ _ _ h1
   ·cases h
  case loop x =>
   split at h
   ·rename_i T1 s1 ys1 pe1 h1; exact (ZbN F fu _ _ _ _ _ _ _ _ _ _ h1).trans (ZbN F fu _ _ _ _ _ _ _ _ _ _ h)
   ·rename_i i r h1; injection h with h; simp only [Prod.mk.injEq] at h; obtain ⟨rfl, rfl⟩ := h; exact ZbN F fu _ _ _ _ _ _ _ _ _ _ h1
   ·rename_i r h1; injection h with h; simp only [Prod.mk.injEq] at h; obtain ⟨rfl, rfl⟩ := h; exact ZbN F fu _ _ _ _ _ _ _ _ _ _ h1
   ·cases h
  case region id ops draw =>
   split at h
   ·cases h
   ·split at h
    ·rename_i T1 s1 ys1 pe1 h1
     injection h with h; simp only [Prod.mk.injEq] at h; obtain ⟨rfl, rfl, rfl, rfl, rfl⟩ := h
     exact Zd5 F _ _ _ _ _ _ _ _ _ h1
    ·cases h
  all_goals cases h
def YS (l : Nat) (ys : List Tmp) (a : Act) : Prop := ∀ t ∈ ys, a.tmps.getD t undef = .func (.yield l) #[] #[]
theorem YS.drop {l : Nat} {ys : List Tmp} {a : Act} {nt : Nat} (h : YS l ys a) (hs : a.tmps.size = nt) {dst : Option Tmp} (hd : Zc1 nt dst = true) (v : Value) : YS l (Zkp dst ys) (a.put dst v) := fun t ht => by
 rw [ZgU hs hd]
 cases dst with
 | none => rw [if_neg (by simp)]; exact h t ht
 | some d =>
  have ht : t ∈ ys.filter (fun t => !Nat.beq t d) := ht
  obtain ⟨h1, h2⟩ := List.mem_filter.1 ht
  have : ¬ d = t := fun e => by subst e; simp at h2
  rw [if_neg (by simpa using this)]
  exact h t h1
theorem YS.add {l : Nat} {ys : List Tmp} {a : Act} {nt : Nat} (h : YS l ys a) (hs : a.tmps.size = nt) {dst : Option Tmp} (hd : Zc1 nt dst = true) : YS l (addY dst ys) (a.put dst (.func (.yield l) #[] #[])) := fun t ht => by
 rw [ZgU hs hd]
 split
 ·rfl
 ·rename_i hne
  cases dst with
  | none => exact h t ht
  | some d =>
   rcases List.mem_cons.1 (show t ∈ d :: ys from ht) with rfl | ht
   ·exact absurd rfl hne
   ·exact h t ht
section
variable {ι0 : Ren} {h0 : AH} {w0 : World} {n0 : Nat} {ac : Act} {l0 K : Nat} {R : Loop} {cx : Cx}
theorem Zdw (F : Fit P ext) (hR : R.tmps = ac.tmps ∧ R.params = cx.ps ∧ R.assign = cx.asg ∧ R.body = cx.body) {nt fu : Nat} {ops : Array Oper} : ∀ (l : List Oper) (T : Tr Value) (s : St) (ys : List Tmp) (pe : Option Ex) (T' : Tr Value) (s' : St) (ys' : List Tmp) (pe' : Option Ex), Zcx P ext nt cx fu ops l T s ys pe = some (T', s', ys', pe') → (∀ p ∈ s'.ob, p.1 = p.2) →
  ∀ ι a W (Q : Exit → Act → World → Prop), TR ι nt [] T a → YS l0 ys a → IS P ι0 h0 w0 n0 cx.nt cx.T ac l0 K (Rp R pe) ι s W → Fresh ι s.n s'.n →
   (∀ ι' a' W', TR ι' nt [] T' a' → YS l0 ys' a' → IS P ι0 h0 w0 n0 cx.nt cx.T ac l0 K (Rp R pe') ι' s' W' → Dom ι ι' s.n s'.n → Q .normal a' W') → wpListIn (Fr none) 0 P ops Q l a W
 | [], T, s, ys, pe, T', s', ys', pe', h, ho, ι, a, W, Q, hT, hY, I, hf, hQ => by
  simp only [Zcx] at h
  injection h with h; simp only [Prod.mk.injEq] at h; obtain ⟨rfl, rfl, rfl, rfl⟩ := h
  exact hQ ι a W hT hY I Dom.refl
 | o :: l, T, s, ys, pe, T', s', ys', pe', h, ho, ι, a, W, Q, hT, hY, I, hf, hQ => by
  simp only [Zcx] at h
  obtain ⟨hg, h⟩ := Zo h
  simp only [Bool.and_eq_true] at hg
  obtain ⟨⟨hd, hgo⟩, hnd, hgu⟩ := hg
  have hnd := ZdY hnd
  have hgu : o.guard = none := by simpa using hgu
  have hwant : Region.wanted o (yielded ops a.tmps) = true := (ZbL (ops := ops) (s := s) (s' := s) (b := true) (fun t _ => hT.2.2 t) (by simp [ZbZ, hgu])).1
  unfold wpListIn
  rw [if_pos hwant]
  split at h
  ·rename_i xs hy
   have hy : ∃ c t, o.op = .call c ∧ c.callee = .value (.tmp t) ∧ t ∈ ys ∧ c.args = xs := by
    unfold ZjI at hy
    split at hy
    ·rename_i c hop
     split at hy
     ·rename_i t hc
      obtain ⟨hm, hy⟩ := Zo hy
      injection hy with hy
      exact ⟨c, t, hop, hc, Zc3.1 hm, hy⟩
     ·cases hy
    ·cases hy
   obtain ⟨c, t, hop, hc, ht, rfl⟩ := hy
   split at h
   ·split at h
    ·rename_i e s1 h1
     have u1 := ZiU F h1
     have u2 := Zd5 F _ _ _ _ _ _ _ _ _ h
     have hx : VRs ι (c.args.toList.map (opnd T)).toArray (c.args.map (ZaP a)) := by
      have := Zd1 hT.opnd c.args
      rwa [show (c.args.toList.map (opnd T)).toArray = c.args.map (opnd T) by rw [← Array.toList_map]]
     obtain ⟨tm, hrun, hround⟩ := Zj3 F h1 (ZS u2.ob ho) hR I (hf.mono (Nat.le_refl _) u2.n) hx
     have hex : (execOp a.eval o).run P W = .ok (.round l0 R.fn tm cx.asg cx.body) W := by
      rw [← Zde (fun cs b e => by rw [hop] at e; cases e) hgo, ← hrun]
      have hv : ZaP a (.tmp t) = .func (.yield l0) #[] #[] := hY t ht
      simp [execOp, hop, resolve, hc, hv, Deferred.ofValue, invoke, Result.andThen, Sem.run]
     refine ⟨fun _ _ => trivial, ?_⟩
     rw [show (Fr none).round = none from rfl, Oper.semAt_none, hex, Oper.uponIn_round]
     refine ⟨fun e => (by cases e), hround.mono ?_⟩
     rintro en W' ⟨rfl, ι', hext, hdom, I'⟩
     refine Zdw F hR l _ s1 _ _ T' s' ys' pe' h ho ι' _ W' Q ((hT.on hext).put hd (VR.of_free rfl)) (hY.drop hT.1 hd _) I' (hf.after hdom u1.n) fun ι2 a2 W2 k1 k2 k3 k4 => hQ ι2 a2 W2 k1 k2 k3 (hdom.trans k4 u1.n u2.n)
    ·cases h
   ·cases h
  ·cases hm : Zhu ys o with
   | true =>
    rw [hm] at h
    simp only [cond_true] at h
    have hm : ∃ t, o.op = .move (.tmp t) ∧ t ∈ ys := by
     unfold Zhu at hm
     split at hm
     ·rename_i t hop; exact ⟨t, hop, Zc3.1 hm⟩
     ·cases hm
    obtain ⟨t, hop, ht⟩ := hm
    have hv : a.eval (.tmp t) = .func (.yield l0) #[] #[] := hY t ht
    refine ⟨fun _ _ => trivial, ?_⟩
    rw [show (Fr none).round = none from rfl, Oper.semAt_none]
    have hex : (execOp a.eval o).run P W = .ok (.value (.func (.yield l0) #[] #[])) W := by
     unfold execOp; rw [hop]; simp only; rw [hv]; rfl
    rw [hex, Oper.uponIn_value]
    exact Zdw F hR l _ s _ pe T' s' ys' pe' h ho ι _ W Q (hT.put hd (VR.glob rfl)) (hY.add hT.1 hd) I hf hQ
   | false =>
    rw [hm] at h
    simp only [cond_false] at h
    split at h
    ·rename_i v s1 hv
     have u1 := (Zbv (P := P) (ext := ext) (fun f g hg => (F.hp f g hg).up) fu).2.2.1 _ _ _ _ _ hv
     have u2 := Zd5 F _ _ _ _ _ _ _ _ _ h
     refine ZhB (r := none) (Q0 := fun _ _ _ => False) (fun _ _ _ _ h => h) hnd ((ZbQ F fu).2.2.1 (opnd T) (ZaP a) o s v s1 hv (ZS u2.ob ho) ι W hT.opnd I.st.emb (hf.mono (Nat.le_refl _) u2.n) a _ _ (Zde (Zf3 hv) hgo).symm fun v' w' ι' g1 g2 g3 => ?_)
     exact Zdw F hR l _ s1 _ pe T' s' ys' pe' h ho ι' _ w' Q ((hT.on g1.ext).put hd g3) (hY.drop hT.1 hd _) (I.step g1 g2 u1.n) (hf.after g2 u1.n) fun ι2 a2 W2 k1 k2 k3 k4 => hQ ι2 a2 W2 k1 k2 k3 (g2.trans k4 u1.n u2.n)
    ·cases h
end
end
end Ev
end Go.Proofs.Ytkhbehgikhamdaa
/- Ranges over functions: the iterator, the statement. -/
namespace Go.Proofs.Ytkhbehgikhamdaa
open Go.RowKit
namespace Ev
section
variable {P : Program} {ext : FuncId → Option Ext}
section
variable {ι0 : Ren} {h0 : AH} {w0 : World} {n0 : Nat} {ac : Act} {l0 K : Nat} {R : Loop} {cx : Cx}
def Zhv (P : Program) (ι0 : Ren) (h0 : AH) (w0 : World) (n0 : Nat) (cx : Cx) (ac : Act) (l0 K : Nat) (R : Loop) (nt : Nat) (ι : Ren) (s : St) (e : Ex) (T' : Tr Value) (s' : St) (ys' : List Tmp) (pe' : Option Ex) (ex : Exit) (a' : Act) (W' : World) : Prop :=
 ex = e.out ∧ ∃ ι', TR ι' nt [] T' a' ∧ YS l0 ys' a' ∧ IS P ι0 h0 w0 n0 cx.nt cx.T ac l0 K (Rp R pe') ι' s' W' ∧ Dom ι ι' s.n s'.n
theorem ZlD (F : Fit P ext) (hR : R.tmps = ac.tmps ∧ R.params = cx.ps ∧ R.assign = cx.asg ∧ R.body = cx.body) {nt : Nat} : ∀ fu : Nat,
  (∀ c T s ys pe e T' s' ys' pe', evI P ext nt cx fu c T s ys pe = some (e, T', s', ys', pe') → (∀ p ∈ s'.ob, p.1 = p.2) → ∀ ι a W, TR ι nt [] T a → YS l0 ys a → IS P ι0 h0 w0 n0 cx.nt cx.T ac l0 K (Rp R pe) ι s W → Fresh ι s.n s'.n →
   c.wpIn (Fr none) 0 P (Zhv P ι0 h0 w0 n0 cx ac l0 K R nt ι s e T' s' ys' pe') a W) ∧
  (∀ c T s ys pe e T' s' ys' pe', evI P ext nt cx fu (.loop c) T s ys pe = some (e, T', s', ys', pe') → (∀ p ∈ s'.ob, p.1 = p.2) → ∀ ι a W, TR ι nt [] T a → YS l0 ys a → IS P ι0 h0 w0 n0 cx.nt cx.T ac l0 K (Rp R pe) ι s W → Fresh ι s.n s'.n →
   Code.roundsIn (Fr none) 0 P c (Zhv P ι0 h0 w0 n0 cx ac l0 K R nt ι s e T' s' ys' pe') fu a W) := by
 intro fu
 induction fu with
 | zero => exact ⟨fun _ _ _ _ _ _ _ _ _ _ h => by simp [evI] at h, fun _ _ _ _ _ _ _ _ _ _ h => by simp [evI] at h⟩
 | succ fu ih =>
  obtain ⟨ihC, ihL⟩ := ih
  have two : ∀ {ι ι1 : Ren} {s s1 s' : St} {e : Ex} {T' : Tr Value} {ys' : List Tmp} {pe' : Option Ex}, Dom ι ι1 s.n s1.n → s.n ≤ s1.n → s1.n ≤ s'.n → ∀ ex a W, Zhv P ι0 h0 w0 n0 cx ac l0 K R nt ι1 s1 e T' s' ys' pe' ex a W → Zhv P ι0 h0 w0 n0 cx ac l0 K R nt ι s e T' s' ys' pe' ex a W :=
   fun hd h1 h2 ex a W ⟨hx, ι', k1, k2, k3, k4⟩ => ⟨hx, ι', k1, k2, k3, hd.trans k4 h1 h2⟩
  have loops : ∀ c T s ys pe e T' s' ys' pe', evI P ext nt cx (fu + 1) (.loop c) T s ys pe = some (e, T', s', ys', pe') → (∀ p ∈ s'.ob, p.1 = p.2) → ∀ ι a W, TR ι nt [] T a → YS l0 ys a → IS P ι0 h0 w0 n0 cx.nt cx.T ac l0 K (Rp R pe) ι s W → Fresh ι s.n s'.n →
    Code.roundsIn (Fr none) 0 P c (Zhv P ι0 h0 w0 n0 cx ac l0 K R nt ι s e T' s' ys' pe') (fu + 1) a W := by
   intro x T s ys pe e T' s' ys' pe' h ho ι a W hT hY I hf
   simp only [evI] at h
   rw [roundsIn_succ]
   split at h
   ·rename_i T1 s1 ys1 pe1 h1
    have u1 := ZbN F fu _ _ _ _ _ _ _ _ _ _ h1
    have u2 := ZbN F fu _ _ _ _ _ _ _ _ _ _ h
    refine wpIn_mono (ihC x T s ys pe .normal T1 s1 ys1 pe1 h1 (ZS u2.ob ho) ι a W hT hY I (hf.mono (Nat.le_refl _) u2.n)) ?_
    rintro ex a1 w1 ⟨rfl, ι1, g1, g2, g3, g4⟩
    exact Zdo (two g4 u1.n u2.n) fu a1 w1 (ihL x T1 s1 ys1 pe1 e T' s' ys' pe' h ho ι1 a1 w1 g1 g2 g3 (hf.after g4 u1.n))
   ·rename_i i r h1
    injection h with h; simp only [Prod.mk.injEq] at h; obtain ⟨rfl, rfl⟩ := h
    refine wpIn_mono (ihC x T s ys pe _ _ _ _ _ h1 ho ι a W hT hY I hf) ?_
    rintro ex a1 w1 ⟨rfl, hq⟩
    exact ⟨rfl, hq⟩
   ·rename_i r h1
    injection h with h; simp only [Prod.mk.injEq] at h; obtain ⟨rfl, rfl⟩ := h
    refine wpIn_mono (ihC x T s ys pe _ _ _ _ _ h1 ho ι a W hT hY I hf) ?_
    rintro ex a1 w1 ⟨rfl, hq⟩
    exact ⟨rfl, hq⟩
   ·cases h
  refine ⟨fun c T s ys pe e T' s' ys' pe' h ho ι a W hT hY I hf => ?_, loops⟩
  have h0' := h
  cases c <;> simp only [evI] at h
  case skip => injection h with h; simp only [Prod.mk.injEq] at h; obtain ⟨rfl, rfl, rfl, rfl, rfl⟩ := h; exact wpIn_skip ⟨rfl, ι, hT, hY, I, Dom.refl⟩
  case ret => injection h with h; simp only [Prod.mk.injEq] at h; obtain ⟨rfl, rfl, rfl, rfl, rfl⟩ := h; exact wpIn_ret ⟨rfl, ι, hT, hY, I, Dom.refl⟩
  case exit id => injection h with h; simp only [Prod.mk.injEq] at h; obtain ⟨rfl, rfl, rfl, rfl, rfl⟩ := h; exact wpIn_exit ⟨rfl, ι, hT, hY, I, Dom.refl⟩
  case seq x y =>
   split at h
   ·rename_i T1 s1 ys1 pe1 h1
    have u1 := ZbN F fu _ _ _ _ _ _ _ _ _ _ h1
    have u2 := ZbN F fu _ _ _ _ _ _ _ _ _ _ h
    refine wpIn_seq (wpIn_mono (ihC x T s ys pe .normal T1 s1 ys1 pe1 h1 (ZS u2.ob ho) ι a W hT hY I (hf.mono (Nat.le_refl _) u2.n)) ?_)
    rintro ex a1 w1 ⟨rfl, ι1, g1, g2, g3, g4⟩
    exact wpIn_mono (ihC y T1 s1 ys1 pe1 e T' s' ys' pe' h ho ι1 a1 w1 g1 g2 g3 (hf.after g4 u1.n)) (two g4 u1.n u2.n)
   ·rename_i i r h1
    injection h with h; simp only [Prod.mk.injEq] at h; obtain ⟨rfl, rfl⟩ := h
    refine wpIn_seq (wpIn_mono (ihC x T s ys pe _ _ _ _ _ h1 ho ι a W hT hY I hf) ?_)
    rintro ex a1 w1 ⟨rfl, hq⟩
    exact ⟨rfl, hq⟩
   ·rename_i r h1
    injection h with h; simp only [Prod.mk.injEq] at h; obtain ⟨rfl, rfl⟩ := h
    refine wpIn_seq (wpIn_mono (ihC x T s ys pe _ _ _ _ _ h1 ho ι a W hT hY I hf) ?_)
    rintro ex a1 w1 ⟨rfl, hq⟩
    exact ⟨rfl, hq⟩
   ·cases h
  case cond x y z =>
   split at h
   ·rename_i t ht
    have hx : a.eval x = .bool t := Zcq ((ht ▸ hT.opnd x : VR ι (.bool t) (ZaP a x)).bool_inv)
    split at h
    ·exact wpIn_cond_true hx (ihC y T s ys pe e T' s' ys' pe' h ho ι a W hT hY I hf)
    ·exact wpIn_cond_false hx (ihC z T s ys pe e T' s' ys' pe' h ho ι a W hT hY I hf)
   ·cases h
  case block id x =>
   split at h
   ·rename_i i r h1
    cases hb : Nat.beq i id with
    | true =>
     rw [hb] at h
     injection h with h; simp only [Prod.mk.injEq] at h; obtain ⟨rfl, rfl⟩ := h
     refine wpIn_block (wpIn_mono (ihC x T s ys pe _ _ _ _ _ h1 ho ι a W hT hY I hf) ?_)
     rintro ex a1 w1 ⟨rfl, hq⟩
     show if i = id then _ else _
     rw [if_pos (Nat.eq_of_beq_eq_true hb)]
     exact ⟨rfl, hq⟩
    | false =>
     rw [hb] at h
     injection h with h; simp only [Prod.mk.injEq] at h; obtain ⟨rfl, rfl⟩ := h
     refine wpIn_block (wpIn_mono (ihC x T s ys pe _ _ _ _ _ h1 ho ι a W hT hY I hf) ?_)
     rintro ex a1 w1 ⟨rfl, hq⟩
     show if i = id then _ else _
     rw [if_neg (fun e => by rw [Zdk e] at hb; cases hb)]
     exact ⟨rfl, hq⟩
   ·rename_i r h1
    injection h with h; simp only [Prod.mk.injEq] at h; obtain ⟨rfl, rfl⟩ := h
    refine wpIn_block (wpIn_mono (ihC x T s ys pe _ _ _ _ _ h1 ho ι a W hT hY I hf) ?_)
    rintro ex a1 w1 ⟨rfl, hq⟩
    exact ⟨rfl, hq⟩
   ·rename_i r h1
    injection h with h; simp only [Prod.mk.injEq] at h; obtain ⟨rfl, rfl⟩ := h
    refine wpIn_block (wpIn_mono (ihC x T s ys pe _ _ _ _ _ h1 ho ι a W hT hY I hf) ?_)
    rintro ex a1 w1 ⟨rfl, hq⟩
    exact ⟨rfl, hq⟩
   ·cases h
  case loop x => exact wpIn_loop_rounds (fu + 1) (loops x T s ys pe e T' s' ys' pe' h0' ho ι a W hT hY I hf)
  case region id ops draw =>
   split at h
   ·cases h
   ·split at h
    ·rename_i T1 s1 ys1 pe1 h1
     injection h with h; simp only [Prod.mk.injEq] at h; obtain ⟨rfl, rfl, rfl, rfl, rfl⟩ := h
     exact wpIn_region_list (Zdw F hR ops.toList T s ys pe T1 s1 ys1 pe1 h1 ho ι a W _ hT hY I hf fun ι' a' W' k1 k2 k3 k4 => ⟨rfl, ι', k1, k2, k3, k4⟩)
    ·cases h
  all_goals cases h
end
def Mk (b : Nat) (m : Bool) (D : List Deferred) (ι : Ren) (w : World) : Prop := match m with
 | false => D = []
 | true => ∃ K, b ≤ K ∧ D = [{ target := .collected K, args := #[] }] ∧ w.heap[K]? = some (.deferred (some [])) ∧ ∀ k b, ι k = some b → b.1 ≠ K
theorem Mk.step {b : Nat} {m : Bool} {D : List Deferred} {ι ι1 : Ren} {h h1 : AH} {w w1 : World} (hm : Mk b m D ι w) (g : Step P ι h w ι1 h1 w1) : Mk b m D ι1 w1 := by
 cases m with
 | false => exact hm
 | true =>
  obtain ⟨K, hb, e, hk, hn⟩ := hm
  obtain ⟨a1, a2⟩ := ZgY g (Array.getElem?_eq_some_iff.1 hk).1 hn
  exact ⟨K, hb, e, a2.trans hk, a1⟩
def Zf6 (b : Nat) (P : Program) (ι : Ren) (s : St) (w : World) (nt : Nat) (e : Ex) (T' : Tr Value) (s' : St) (m' : Bool) (ex : Exit) (a' : Act) (w' : World) : Prop :=
 ex = e.out ∧ ∃ ι' D', Step P ι s.h.get w ι' s'.h.get w' ∧ Dom ι ι' s.n s'.n ∧ TR ι' nt D' T' a' ∧ Mk b m' D' ι' w'
theorem up_rf (F : Fit P ext) {nt fu : Nat} {g : Operand} {ps : Array Tmp} {asg body : Code} {T : Tr Value} {s s' : St} {e : Ex} (h : ZiT P ext nt fu g ps asg body T s = some (e, s')) : Up s s' := by
 unfold ZiT at h
 split at h
 ·split at h
  ·split at h
   ·obtain ⟨_, h⟩ := Zo h
    split at h
    ·cases h
    ·rename_i h1; injection h with h; injection h with q1 q2; subst q2; exact ZbN F _ _ _ _ _ _ _ _ _ _ _ h1
    ·rename_i h1; obtain ⟨_, h⟩ := Zf1 h; injection h with h; injection h with q1 q2; subst q2; exact ZbN F _ _ _ _ _ _ _ _ _ _ _ h1
    ·cases h
   ·cases h
  ·cases h
 ·cases h
theorem Zlm (F : Fit P ext) {nt fu : Nat} {g : Operand} {ps : Array Tmp} {asg body : Code} {T : Tr Value} {s s' : St} {e : Ex} (h : ZiT P ext nt fu g ps asg body T s = some (e, s')) (ho : ∀ p ∈ s'.ob, p.1 = p.2) {b : Nat} {ι : Ren} {a : Act} {w : World} (hbw : b ≤ w.heap.size)
  (hT : TR ι nt [] T a) (he : Emb P ι s.h.get w) (hf : Fresh ι s.n s'.n) : (Code.rangeFunc g ps asg body).wpIn (Fr none) 0 P (Zf6 b P ι s w nt e T s' true) a w := by
 unfold ZiT at h
 split at h
 ·rename_i gf av bv hg
  split at h
  ·rename_i fn hfn
   split at h
   ·rename_i c hb
    obtain ⟨hgd, h⟩ := Zo h
    simp only [Bool.and_eq_true] at hgd
    obtain ⟨⟨hgd, hsz⟩, hres⟩ := hgd
    have hsz := Nat.le_of_ble_eq_true hsz
    have hres := Nat.eq_of_beq_eq_true hres
    have key : ∃ e0 T1 ys1 pe, evI P ext fn.ntmps ⟨nt, T, ps, asg, body⟩ fu c (Zcn 0 (av ++ #[Value.chan (some 0)] ++ bv).toList .nil) s [av.size] none = some (e0, T1, s', ys1, pe) ∧ (e0 = .normal ∨ e0 = .ret) ∧ e = (match pe with | none => .normal | some e => e) ∧ (∀ e1, pe = some e1 → isN e1 = false) := by
     split at h
     ·cases h
     ·rename_i e0 T1 s1 ys1 hne h1
      injection h with h; injection h with q1 q2; subst q1 q2
      refine ⟨e0, T1, ys1, none, h1, ?_, rfl, fun e1 he => by cases he⟩
      cases e0 with
      | normal => exact .inl rfl
      | ret => exact .inr rfl
      | exit i => exact (hne i rfl).elim
     ·rename_i e0 T1 s1 ys1 e1 hne h1
      obtain ⟨hn1, h⟩ := Zf1 h
      injection h with h; injection h with q1 q2; subst q1 q2
      refine ⟨e0, T1, ys1, some e1, h1, ?_, rfl, fun e2 he => by injection he with he; rw [← he]; exact hn1⟩
      cases e0 with
      | normal => exact .inl rfl
      | ret => exact .inr rfl
      | exit i => exact (hne i rfl).elim
     ·cases h
    obtain ⟨e0, T1, ys1, pe, h1, he0, hepe, hnn⟩ := key
    have hgv : ∃ av' bv', ZaP a g = .func (.func gf) av' bv' ∧ VRs ι av av' ∧ VRs ι bv bv' := by
     have hv := hg ▸ hT.opnd g
     generalize ZaP a g = x' at hv
     cases hv with
     | atom h =>
      simp [Ev.atom] at h
      obtain ⟨rfl, rfl⟩ := h
      exact ⟨_, _, rfl, ⟨rfl, fun i x y hx => by simp at hx⟩, ⟨rfl, fun i x y hx => by simp at hx⟩⟩
     | func hs ht h1 h2 => exact ⟨_, _, rfl, ⟨hs, h1⟩, ⟨ht, h2⟩⟩
    obtain ⟨av', bv', hgv, hav, hbv⟩ := hgv
    have hgv : a.eval g = .func (.func gf) av' bv' := by
     cases g with
     | const v => simp only [Zcu] at hgd; simpa [ZaP, hgd, Act.eval] using hgv
     | _ => exact hgv
    refine wpIn_rangeFunc ?_
    intro fn0 _
    obtain ⟨R, hRd⟩ : ∃ R : Loop, R = { state := .ready, pending := none, fn := fn0, tmps := a.tmps, params := ps, assign := asg, body, defers := w.heap.size } := ⟨_, rfl⟩
    obtain ⟨W1, hW1⟩ : ∃ W1, (w.alloc (.deferred (some []))).alloc (.loop R) = W1 := ⟨_, rfl⟩
    have hL1 : W1.heap[w.heap.size + 1]? = some (.loop (Rp R none)) := by
     rw [show Rp R none = R by rw [hRd]; rfl]
     rw [← hW1]; have := World.alloc_heap_new (w.alloc (.deferred (some []))) (.loop R); rwa [World.size_alloc] at this
    have hK1 : W1.heap[w.heap.size]? = some (.deferred (some [])) := by
     rw [← hW1]; exact (Below.heap_alloc _ _ _ (by simp)).trans (World.alloc_heap_new w _)
    have hb1 : Below w.heap.size w W1 := by
     rw [← hW1]; exact ((Below.refl _ w).alloc (Nat.le_refl _) _).alloc (by simp) _
    have I1 : IS P ι s.h.get w s.n nt T a (w.heap.size + 1) w.heap.size (Rp R none) ι s W1 :=
     ⟨Step.below he hb1, Dom.refl, Nat.le_refl _, ⟨hT.1, rfl, hT.2.2⟩, hL1, hK1, by omega, by omega, fun k b hk => by have := he.lt k b hk; omega⟩
    have hargs : VRs ι (av ++ #[Value.chan (some 0)] ++ bv) (av' ++ #[Value.func (.yield (w.heap.size + 1)) #[] #[]] ++ bv') :=
     ZbV (ZbV hav ⟨rfl, fun i x y hx hy => by
      cases i with
      | zero => simp at hx hy; rw [← hx, ← hy]; exact .glob rfl
      | succ i => simp at hx⟩) hbv
    refine ⟨w.heap.size + 1, [{ target := .collected w.heap.size, args := #[] }], W1, { target := .fn (.func gf) bv', args := av' ++ #[.func (.yield (w.heap.size + 1)) #[] #[]] }, W1, gf,
     av' ++ #[.func (.yield (w.heap.size + 1)) #[] #[]] ++ bv', W1, ?_, ?_, fun _ _ => trivial, ?_, fun e => (by cases e), ?_⟩
    ·rw [← hW1, hRd]; exact run_enterLoop_outer _ _ _ _ _
    ·simp only [resolve, hgv]
     simp [go_sem, Deferred.ofValue]
    ·simp [invoke, Zb4 hfn (F.go gf fn hfn) hb]
    ·refine callsIn_of_wp_marks hfn hb trivial ?_
     refine wpIn_mono ((ZlD (R := R) (cx := ⟨nt, T, ps, asg, body⟩) (ac := a) F ⟨by rw [hRd], by rw [hRd], by rw [hRd], by rw [hRd]⟩ fu).1 c _ s _ none e0 T1 s' ys1 pe h1 ho ι _ W1 (Zd2 hargs hsz) ?_ I1 hf) ?_
     ·intro t ht
      rw [List.mem_singleton] at ht
      subst ht
      have hs := hav.1
      rw [Array.getD_eq_getD_getElem?, Array.getElem?_append_left (by simp; omega), Array.getElem?_append_left (by simp; omega), Array.getElem?_append_right (by omega)]
      simp [hs]
     ·rintro ex a2 w2 ⟨rfl, ι2, g1, _, I2, g4⟩
      have hr := run_endLoop (P := P) I2.lo (by cases pe <;> simp [Rp])
      have I3 := I2.put { Rp R pe with state := .exhausted }
      have hr2 : ∃ v', (results fn a2.tmps).run P w2 = .ok v' w2 := by
       have hnil : fn.results.toList = [] := List.eq_nil_of_length_eq_zero hres
       obtain ⟨v', q, _⟩ := ZbG (fn := fn) (v := .tuple #[]) g1 I2.st.emb (by rw [hnil]; rfl)
       exact ⟨v', q⟩
      obtain ⟨v', hrun⟩ := hr2
      have fin : LeavesInM (Fr none) (0 - 1) P fn a2.tmps (rangePost (Fr none) 0 P (w.heap.size + 1) (Zf6 b P ι s w nt e T s' true) { a with defers := [{ target := .collected w.heap.size, args := #[] }] ++ a.defers }) a2.defers .returning w2 := by
       rw [g1.2.1]
       refine ⟨v', hrun, _, _, hr, ?_⟩
       have post : Zf6 b P ι s w nt e T s' true e.out { a with defers := [{ target := .collected w.heap.size, args := #[] }] ++ a.defers } (w2.putObj (w.heap.size + 1) (.loop { Rp R pe with state := .exhausted })) := by
        refine ⟨rfl, ι2, _, I3.st, I3.dm, ⟨I3.tr.1, rfl, I3.tr.2.2⟩, w.heap.size, hbw, ?_, I3.de, fun k b hk => (I3.nl k b hk).2⟩
        rw [hT.2.1]; rfl
       cases pe with
       | none => rw [hepe] at post ⊢; exact post
       | some e1 =>
        cases e1 with
        | normal => exact absurd (hnn _ rfl) (by simp [isN])
        | ret => rw [hepe] at post ⊢; exact wpIn_ret post
        | exit i => rw [hepe] at post ⊢; exact wpIn_exit post
      rcases he0 with rfl | rfl
      ·exact fin
      ·exact fin
   ·cases h
  ·cases h
 ·cases h
end
end Ev
end Go.Proofs.Ytkhbehgikhamdaa
/- Functions with a range over a function do what the runner says of them. -/
namespace Go.Proofs.Ytkhbehgikhamdaa
open Go.RowKit
namespace Ev
section
variable {P : Program} {ext : FuncId → Option Ext}
theorem ZcQ (F : Fit P ext) {nt : Nat} : ∀ (fu : Nat) (c : Code) (T : Tr Value) (s : St) (m : Bool) (e : Ex) (T' : Tr Value) (s' : St) (m' : Bool), evR P ext nt fu c T s m = some (e, T', s', m') → Up s s'
 | 0, _, _, _, _, _, _, _, _, h => by simp [evR] at h
 | fu + 1, c, T, s, m, e, T', s', m', h => by
  have upC := (Zbv (P := P) (ext := ext) (fun f g hg => (F.hp f g hg).up) (fu + 1)).1
  cases c <;> simp only [evR] at h
  case skip => injection h with h; simp only [Prod.mk.injEq] at h; obtain ⟨rfl, rfl, rfl, rfl⟩ := h; exact Up.refl _
  case ret => injection h with h; simp only [Prod.mk.injEq] at h; obtain ⟨rfl, rfl, rfl, rfl⟩ := h; exact Up.refl _
  case exit id => injection h with h; simp only [Prod.mk.injEq] at h; obtain ⟨rfl, rfl, rfl, rfl⟩ := h; exact Up.refl _
  case seq x y =>
   split at h
   ·rename_i T1 s1 m1 h1; exact (ZcQ F fu _ _ _ _ _ _ _ _ h1).trans (ZcQ F fu _ _ _ _ _ _ _ _ h)
   ·rename_i i r h1; injection h with h; simp only [Prod.mk.injEq] at h; obtain ⟨rfl, rfl⟩ := h; exact ZcQ F fu _ _ _ _ _ _ _ _ h1
   ·rename_i r h1; injection h with h; simp only [Prod.mk.injEq] at h; obtain ⟨rfl, rfl⟩ := h; exact ZcQ F fu _ _ _ _ _ _ _ _ h1
   ·cases h
  case cond x y z =>
   split at h
   ·split at h
    ·exact ZcQ F fu _ _ _ _ _ _ _ _ h
    ·exact ZcQ F fu _ _ _ _ _ _ _ _ h
   ·cases h
  case block id x =>
   split at h
   ·rename_i i r h1
    cases hb : Nat.beq i id with
    | true => rw [hb] at h; injection h with h; simp only [Prod.mk.injEq] at h; obtain ⟨rfl, rfl⟩ := h; exact ZcQ F fu _ _ _ _ _ _ _ _ h1
    | false => rw [hb] at h; injection h with h; simp only [Prod.mk.injEq] at h; obtain ⟨rfl, rfl⟩ := h; exact ZcQ F fu _ _ _ _ _ _ _ _ h1
   ·rename_i r h1; injection h with h; simp only [Prod.mk.injEq] at h; obtain ⟨rfl, rfl⟩ := h; exact ZcQ F fu _ _ _ _ _ _ _ _ h1
   ·rename_i r h1; injection h with h; simp only [Prod.mk.injEq] at h; obtain ⟨rfl, rfl⟩ := h; exact ZcQ F fu _ _ _ _ _ _ _ _ h1
   ·cases h
  case rangeFunc g ps asg body =>
   obtain ⟨_, h⟩ := Zf1 h
   split at h
   ·rename_i e1 s1 h1
    injection h with h; simp only [Prod.mk.injEq] at h; obtain ⟨rfl, rfl, rfl, rfl⟩ := h
    exact up_rf F h1
   ·cases h
  case region id ops draw =>
   split at h
   ·rename_i e1 T1 s1 h1
    injection h with h; simp only [Prod.mk.injEq] at h; obtain ⟨rfl, rfl, rfl, rfl⟩ := h
    exact upC _ _ _ _ _ _ _ h1
   ·cases h
  case loop x =>
   split at h
   ·rename_i e1 T1 s1 h1
    injection h with h; simp only [Prod.mk.injEq] at h; obtain ⟨rfl, rfl, rfl, rfl⟩ := h
    exact upC _ _ _ _ _ _ _ h1
   ·cases h
  all_goals cases h
theorem ZbO (F : Fit P ext) {nt : Nat} : ∀ (fu : Nat) (c : Code) (T : Tr Value) (s : St) (m : Bool) (e : Ex) (T' : Tr Value) (s' : St) (m' : Bool), evR P ext nt fu c T s m = some (e, T', s', m') → (∀ p ∈ s'.ob, p.1 = p.2) →
  ∀ b ι D a w, b ≤ w.heap.size → TR ι nt D T a → Mk b m D ι w → Emb P ι s.h.get w → Fresh ι s.n s'.n → c.wpIn (Fr none) 0 P (Zf6 b P ι s w nt e T' s' m') a w
 | 0, _, _, _, _, _, _, _, _, h => by simp [evR] at h
 | fu + 1, c, T, s, m, e, T', s', m', h => by
  intro ho b ι D a w hbw hT hM he hf
  have code : ∀ {c : Code} {e1 : Ex} {T1 : Tr Value} {s1 : St}, ZJ P ext nt (fu + 1) c T s = some (e1, T1, s1) → (∀ p ∈ s1.ob, p.1 = p.2) → Fresh ι s.n s1.n → c.wpIn (Fr none) 0 P (Zf6 b P ι s w nt e1 T1 s1 m) a w := fun h1 ho1 hf1 => by
   refine (wpIn_wide (n := 0)).2 (wp_mono ((ZbQ F (fu + 1)).1 nt _ T s _ _ _ h1 ho1 ι D a w hT he hf1) ?_)
   rintro ex a1 w1 ⟨rfl, ι1, g1, g2, g3⟩
   exact ⟨rfl, ι1, D, g1, g2, g3, hM.step g1⟩
  have two : ∀ {ι1 : Ren} {s1 : St} {w1 : World}, Step P ι s.h.get w ι1 s1.h.get w1 → Dom ι ι1 s.n s1.n → s.n ≤ s1.n → s1.n ≤ s'.n → ∀ ex a W, Zf6 b P ι1 s1 w1 nt e T' s' m' ex a W → Zf6 b P ι s w nt e T' s' m' ex a W :=
   fun hS hd h1 h2 ex a W ⟨hx, ι', D', k1, k2, k3, k4⟩ => ⟨hx, ι', D', hS.trans k1, hd.trans k2 h1 h2, k3, k4⟩
  cases c <;> simp only [evR] at h
  case skip => injection h with h; simp only [Prod.mk.injEq] at h; obtain ⟨rfl, rfl, rfl, rfl⟩ := h; exact wpIn_skip ⟨rfl, ι, D, Step.refl he, Dom.refl, hT, hM⟩
  case ret => injection h with h; simp only [Prod.mk.injEq] at h; obtain ⟨rfl, rfl, rfl, rfl⟩ := h; exact wpIn_ret ⟨rfl, ι, D, Step.refl he, Dom.refl, hT, hM⟩
  case exit id => injection h with h; simp only [Prod.mk.injEq] at h; obtain ⟨rfl, rfl, rfl, rfl⟩ := h; exact wpIn_exit ⟨rfl, ι, D, Step.refl he, Dom.refl, hT, hM⟩
  case seq x y =>
   split at h
   ·rename_i T1 s1 m1 h1
    have u1 := ZcQ F fu _ _ _ _ _ _ _ _ h1
    have u2 := ZcQ F fu _ _ _ _ _ _ _ _ h
    refine wpIn_seq (wpIn_mono (ZbO F fu x T s m .normal T1 s1 m1 h1 (ZS u2.ob ho) b ι D a w hbw hT hM he (hf.mono (Nat.le_refl _) u2.n)) ?_)
    rintro ex a1 w1 ⟨rfl, ι1, D1, g1, g2, g3, g4⟩
    exact wpIn_mono (ZbO F fu y T1 s1 m1 e T' s' m' h ho b ι1 D1 a1 w1 (Nat.le_trans hbw g1.size) g3 g4 g1.emb (hf.after g2 u1.n)) (two g1 g2 u1.n u2.n)
   ·rename_i i r h1
    injection h with h; simp only [Prod.mk.injEq] at h; obtain ⟨rfl, rfl⟩ := h
    refine wpIn_seq (wpIn_mono (ZbO F fu x T s m _ _ _ _ h1 ho b ι D a w hbw hT hM he hf) ?_)
    rintro ex a1 w1 ⟨rfl, hq⟩
    exact ⟨rfl, hq⟩
   ·rename_i r h1
    injection h with h; simp only [Prod.mk.injEq] at h; obtain ⟨rfl, rfl⟩ := h
    refine wpIn_seq (wpIn_mono (ZbO F fu x T s m _ _ _ _ h1 ho b ι D a w hbw hT hM he hf) ?_)
    rintro ex a1 w1 ⟨rfl, hq⟩
    exact ⟨rfl, hq⟩
   ·cases h
  case cond x y z =>
   split at h
   ·rename_i t ht
    have hx : a.eval x = .bool t := Zcq ((ht ▸ hT.opnd x : VR ι (.bool t) (ZaP a x)).bool_inv)
    split at h
    ·exact wpIn_cond_true hx (ZbO F fu y T s m e T' s' m' h ho b ι D a w hbw hT hM he hf)
    ·exact wpIn_cond_false hx (ZbO F fu z T s m e T' s' m' h ho b ι D a w hbw hT hM he hf)
   ·cases h
  case block id x =>
   split at h
   ·rename_i i r h1
    cases hb : Nat.beq i id with
    | true =>
     rw [hb] at h
     injection h with h; simp only [Prod.mk.injEq] at h; obtain ⟨rfl, rfl⟩ := h
     refine wpIn_block (wpIn_mono (ZbO F fu x T s m _ _ _ _ h1 ho b ι D a w hbw hT hM he hf) ?_)
     rintro ex a1 w1 ⟨rfl, hq⟩
     show if i = id then _ else _
     rw [if_pos (Nat.eq_of_beq_eq_true hb)]
     exact ⟨rfl, hq⟩
    | false =>
     rw [hb] at h
     injection h with h; simp only [Prod.mk.injEq] at h; obtain ⟨rfl, rfl⟩ := h
     refine wpIn_block (wpIn_mono (ZbO F fu x T s m _ _ _ _ h1 ho b ι D a w hbw hT hM he hf) ?_)
     rintro ex a1 w1 ⟨rfl, hq⟩
     show if i = id then _ else _
     rw [if_neg (fun e => by rw [Zdk e] at hb; cases hb)]
     exact ⟨rfl, hq⟩
   ·rename_i r h1
    injection h with h; simp only [Prod.mk.injEq] at h; obtain ⟨rfl, rfl⟩ := h
    refine wpIn_block (wpIn_mono (ZbO F fu x T s m _ _ _ _ h1 ho b ι D a w hbw hT hM he hf) ?_)
    rintro ex a1 w1 ⟨rfl, hq⟩
    exact ⟨rfl, hq⟩
   ·rename_i r h1
    injection h with h; simp only [Prod.mk.injEq] at h; obtain ⟨rfl, rfl⟩ := h
    refine wpIn_block (wpIn_mono (ZbO F fu x T s m _ _ _ _ h1 ho b ι D a w hbw hT hM he hf) ?_)
    rintro ex a1 w1 ⟨rfl, hq⟩
    exact ⟨rfl, hq⟩
   ·cases h
  case rangeFunc g ps asg body =>
   obtain ⟨hm, h⟩ := Zf1 h
   split at h
   ·rename_i e1 s1 h1
    injection h with h; simp only [Prod.mk.injEq] at h; obtain ⟨rfl, rfl, rfl, rfl⟩ := h
    subst hm
    obtain rfl : D = [] := hM
    exact Zlm F h1 ho hbw hT he hf
   ·cases h
  case region id ops draw =>
   split at h
   ·rename_i e1 T1 s1 h1
    injection h with h; simp only [Prod.mk.injEq] at h; obtain ⟨rfl, rfl, rfl, rfl⟩ := h
    exact code h1 ho hf
   ·cases h
  case loop x =>
   split at h
   ·rename_i e1 T1 s1 h1
    injection h with h; simp only [Prod.mk.injEq] at h; obtain ⟨rfl, rfl, rfl, rfl⟩ := h
    exact code h1 ho hf
   ·cases h
  all_goals cases h
theorem Zdx (F : Fit P ext) {fu : Nat} {f : FuncId} {fn : Func} {c : Code} (hfn : P.funcs[f]? = some fn) (hb : fn.body = some c) : Zh5 P f (ZcP P ext fu f) := by
 refine ⟨⟨fn, c, hfn, hb⟩, fun args s v s' h => ?_, fun args s v s' h ho ι w args' ha he hf => ?_⟩
 ·unfold ZcP at h
  rw [hfn] at h
  simp only [hb] at h
  replace h := (Zo h).2
  split at h
  ·cases h
  ·rename_i h1
   have u := ZcQ F fu _ _ _ _ _ _ _ _ h1
   split at h
   ·injection h with h; injection h with q1 q2; subst q2; exact u
   ·injection h with h; injection h with q1 q2; subst q2; exact u
   ·cases h
  ·cases h
 ·unfold ZcP at h
  rw [hfn] at h
  simp only [hb] at h
  obtain ⟨hsz, h⟩ := Zo h
  have hle : args.size ≤ fn.ntmps := Nat.le_of_ble_eq_true hsz
  split at h
  ·cases h
  ·rename_i ex T1 s1 m1 hne h1
   have hs : s' = s1 ∧ (match Za8 P T1 s1 fn.results.toList with | some [v] => some v | some vs => some (.tuple vs.toArray) | none => none) = some v := by
    split at h
    ·rename_i hr; injection h with h; injection h with q1 q2; subst q1 q2; exact ⟨rfl, by first | rw [hr] | rfl⟩
    ·rename_i vs hn hr; injection h with h; injection h with q1 q2; subst q1 q2
     refine ⟨rfl, ?_⟩
     try rw [hr]
     rcases vs with _ | ⟨x, _ | ⟨y, vs⟩⟩
     ·rfl
     ·exact absurd rfl (hn x)
     ·rfl
    ·cases h
   obtain ⟨rfl, hres⟩ := hs
   refine (callsIn_wide (n := 0)).1 (callsIn_of_wp_marks hfn hb trivial (wpIn_mono (ZbO F fu c _ s false ex T1 s' m1 h1 ho w.heap.size ι [] _ w (Nat.le_refl _) (Zd2 ha hle) rfl he hf) ?_))
   rintro e2 a2 w2 ⟨rfl, ι2, D2, g1, g2, g3, g4⟩
   have fin : LeavesInM (Fr none) 0 P fn a2.tmps (Zg5 P ι s w v s') a2.defers .returning w2 := by
    rw [g3.2.1]
    cases m1 with
    | false =>
     obtain rfl : D2 = [] := g4
     obtain ⟨v', hrun, hv⟩ := ZbG g3 g1.emb hres
     exact ⟨v', hrun, v', ι2, rfl, g1, g2, hv⟩
    | true =>
     obtain ⟨K, hKw, rfl, hk, hn⟩ := g4
     have g1' := g1.put hKw hn (.deferred none)
     obtain ⟨v', hrun, hv⟩ := ZbG g3 g1'.emb hres
     exact ⟨by simp, .inl ⟨K, _, rfl, run_takeDeferred hk, v', hrun, v', ι2, rfl, g1', g2, hv⟩⟩
   cases ex with
   | normal => exact fin
   | ret => exact fin
   | exit i => exact (hne i rfl).elim
  ·cases h
end
end Ev
end Go.Proofs.Ytkhbehgikhamdaa
/- The runner over this program. -/
namespace Go.Proofs.Ytkhbehgikhamdaa
open Go.RowKit
namespace Ev

def Zkq : FuncId → Option Ext := fun f =>
   none

theorem noGo : (Try.prog.funcs.toList.all fun fn => !(fn.name == "runtime.NumGoroutine")) = true := by kernel_rfl
theorem mixed : Try.prog.follows .mixedOrders = true := by kernel_rfl
def ZhD (sp : FuncId → Option (List Value → Option Value)) (hp : FuncId → Option (Array Value → St → Out)) : FuncId → Option Ext := fun f => match Zkq f with
  | some e => some e
  | none => match sp f with
    | some g => some (.fn g)
    | none => match hp f with
      | some g => some (.hp g)
      | none => none
def noHp : FuncId → Option (Array Value → St → Out) := fun _ => none
def extW (sp : FuncId → Option (List Value → Option Value)) : FuncId → Option Ext := ZhD sp noHp
def Zhw (sp : FuncId → Option (List Value → Option Value)) : Prop := ∀ (f : Nat) (g : List Value → Option Value), sp f = some g → (∃ (fn : Func) (c : Code), Try.prog.funcs[f]? = some fn ∧ fn.body = some c) ∧
  ∀ (args : Array Value) (v : Value), Zv Zbx args.toList = true → g args.toList = some v → ∀ w, Calls Try.prog f args w fun e w' => e = .returned v ∧ Below w.heap.size w w'
def Zhx (hp : FuncId → Option (Array Value → St → Out)) : Prop := ∀ (f : Nat) (g : Array Value → St → Out), hp f = some g → Zh5 Try.prog f g
theorem Zln : Zhx noHp := fun f g h => by cases h
theorem Za3 {b : Bool} {x e : Ext} {y : Option Ext} (h : (bif b then some x else y) = some e) : (b = true ∧ x = e) ∨ y = some e := by
  cases b with
  | true => exact .inl ⟨rfl, by simpa using h⟩
  | false => exact .inr (by simpa using h)
theorem ZeY {f : Nat} {e : Ext} (he : Zkq f = some e) : (∀ (kk : IntKind) (c : Nat), e = .at kk c → ∃ fn : Func, Try.prog.funcs[f]? = some fn ∧ fn.body.isNone = true ∧ Extern.findNext fn = none ∧
    (c = 0 ∧ Extern.find fn = some (Extern.Atomic.loadT (.int kk)) ∨ c = 1 ∧ Extern.find fn = some Extern.Atomic.storeT ∨
     c = 2 ∧ Extern.find fn = some (Extern.Atomic.update (Op.intArith .add) kk true) ∨ c = 3 ∧ Extern.find fn = some (Extern.Atomic.casT (.int kk)))) ∧
    (∀ n : Nat, e = .mark n → ∃ fn : Func, Try.prog.funcs[f]? = some fn ∧ fn.body.isNone = true ∧ Extern.findNext fn = none ∧
    (n = 0 ∧ (∃ m : Mark, Extern.find fn = some (fun _ => do mark m; pure Extern.Race.none_)) ∨ n = 1 ∧ ∃ m : Addr → Mark, Extern.find fn = some (Extern.Race.marked m))) ∧ (∀ g, e ≠ .fn g) ∧ (∀ g, e ≠ .hp g) ∧ (∀ S, e ≠ .tc S) := by
  unfold Zkq at he
  cases he
theorem ZcG {sp : FuncId → Option (List Value → Option Value)} {hp : FuncId → Option (Array Value → St → Out)} {f : Nat} {e : Ext} (h : ZhD sp hp f = some e) : Zkq f = some e ∨ (∃ g, sp f = some g ∧ e = .fn g) ∨ ∃ g, hp f = some g ∧ e = .hp g := by
  unfold ZhD at h
  split at h
  · rename_i e' he'
    injection h with h; subst h
    exact .inl he'
  · split at h
    · rename_i g hg
      injection h with h; subst h
      exact .inr (.inl ⟨g, hg, rfl⟩)
    · split at h
      · rename_i g hg
        injection h with h; subst h
        exact .inr (.inr ⟨g, hg, rfl⟩)
      · cases h
theorem Zlo {sp : FuncId → Option (List Value → Option Value)} {hp : FuncId → Option (Array Value → St → Out)} (hsp : Zhw sp) (hhp : Zhx hp) : Fit Try.prog (ZhD sp hp) := by
  refine ⟨mixed, fun f fn hf => ?_, fun f g hg => ?_, fun f g hg => ?_, fun f S hS => ?_, fun f n hn => ?_, fun f kk e he => ?_⟩
  · have := List.all_eq_true.1 noGo fn (by
      obtain ⟨h, rfl⟩ := Array.getElem?_eq_some_iff.1 hf
      simp)
    simpa using this
  · rcases ZcG hg with h | ⟨g', h, hx⟩ | ⟨g', h, hx⟩
    · exact ((ZeY h).2.2.1 g rfl).elim
    · injection hx with hx; subst hx; exact hsp f g h
    · cases hx
  · rcases ZcG hg with h | ⟨g', h, hx⟩ | ⟨g', h, hx⟩
    · exact ((ZeY h).2.2.2.1 g rfl).elim
    · cases hx
    · injection hx with hx; subst hx; exact hhp f g h
  · rcases ZcG hS with h | ⟨g', h, hx⟩ | ⟨g', h, hx⟩
    · exact ((ZeY h).2.2.2.2 S rfl).elim
    · cases hx
    · cases hx
  · rcases ZcG hn with h | ⟨g', h, hx⟩ | ⟨g', h, hx⟩
    · exact (ZeY h).2.1 n rfl
    · cases hx
    · cases hx
  · rcases ZcG he with h | ⟨g', h, hx⟩ | ⟨g', h, hx⟩
    · exact (ZeY h).1 kk e rfl
    · cases hx
    · cases hx
theorem fitW {sp : FuncId → Option (List Value → Option Value)} (hsp : Zhw sp) : Fit Try.prog (extW sp) := Zlo hsp Zln
def Zkr : FuncId → Option (List Value → Option Value) := fun _ => none
theorem ZhE : Zhw Zkr := fun f g h => by cases h
def ext1 : FuncId → Option Ext := extW Zkr
theorem fit1 : Fit Try.prog ext1 := fitW ZhE
noncomputable def hp0 : FuncId → Option (Array Value → St → Out) := fun f =>
   none
theorem ZkK : Zhx hp0 := by
  intro f g h
  unfold hp0 at h
  cases h
noncomputable def ZiV : FuncId → Option Ext := ZhD Zkr hp0
theorem Zks : Fit Try.prog ZiV := Zlo ZhE ZkK
noncomputable def hp1 : FuncId → Option (Array Value → St → Out) := fun f =>
   hp0 f
theorem Zio {β : Type} {b : Bool} {x e : β} {y : Option β} (h : (bif b then some x else y) = some e) : (b = true ∧ x = e) ∨ y = some e := by
  cases b with
  | true => injection h with h; exact .inl ⟨rfl, h⟩
  | false => exact .inr h
theorem Zmi : Zhx hp1 := by
  intro f g h
  unfold hp1 at h
  exact ZkK f g h
noncomputable def Zlp (sp : FuncId → Option (List Value → Option Value)) : FuncId → Option Ext := ZhD sp hp1
theorem fitS {sp : FuncId → Option (List Value → Option Value)} (hsp : Zhw sp) : Fit Try.prog (Zlp sp) := Zlo hsp Zmi
noncomputable def ext : FuncId → Option Ext := Zlp Zkr
theorem fit : Fit Try.prog ext := fitS ZhE
def Zkt (e : FuncId → Option Ext) (tc : FuncId → Bool) : FuncId → Option Ext := fun f => bif tc f then some (.tc (ZdH Try.prog f)) else e f
theorem fitT {e : FuncId → Option Ext} {tc : FuncId → Bool} (F : Fit Try.prog e) (hb : ∀ f, tc f = true → ∃ (fn : Func) (c : Code), Try.prog.funcs[f]? = some fn ∧ fn.body = some c) : Fit Try.prog (Zkt e tc) := by
  have cs : ∀ {f : Nat} {x : Ext}, Zkt e tc f = some x → (tc f = true ∧ x = .tc (ZdH Try.prog f)) ∨ e f = some x := fun {f x} h => by
    unfold Zkt at h
    cases ht : tc f with
    | true => rw [ht] at h; injection h with h; exact .inl ⟨rfl, h.symm⟩
    | false => rw [ht] at h; exact .inr h
  refine ⟨F.mixed, F.go, fun f g hg => ?_, fun f g hg => ?_, fun f S hS => ?_, fun f n hn => ?_, fun f kk x hx => ?_⟩
  · rcases cs hg with ⟨_, h⟩ | h
    · cases h
    · exact F.fn f g h
  · rcases cs hg with ⟨_, h⟩ | h
    · cases h
    · exact F.hp f g h
  · rcases cs hS with ⟨ht, h⟩ | h
    · injection h with h; subst h; exact ⟨hb f ht, fun _ _ _ _ _ _ h => h⟩
    · exact F.tc f S h
  · rcases cs hn with ⟨_, h⟩ | h
    · cases h
    · exact F.mark f n h
  · rcases cs hx with ⟨_, h⟩ | h
    · cases h
    · exact F.ext f kk x h
def out (r : Out) : Option Value := match r with
  | some (v, s) => match s.ob with
    | [] => bif Zbx v && Nat.ble s.n 1000000000 then some v else none
    | _ => none
  | none => none
theorem Zmj (fu : Nat) {f : FuncId} {args : Array Value} {v : Value} (w : World) (h : out (Zb6 Try.prog ext fu f args ⟨.nil, 0, [], ⟨[], [], [], [], []⟩, []⟩) = some v) (ha : Zv Zbx args.toList = true) : Calls Try.prog f args w (Ret v w) := by
  unfold out at h
  split at h
  · rename_i u s hr
    split at h
    · rename_i ho
      obtain ⟨hf, h⟩ := Zo h
      injection h with h
      subst h
      exact (Zme fit hr (by rw [ho]; simp) (VRs.of_free ha) (Bool.and_eq_true_iff.1 hf).1 (Nat.le_of_ble_eq_true (Bool.and_eq_true_iff.1 hf).2) w).mono fun e w' ⟨h1, h2⟩ => ⟨h1, h2⟩
    · cases h
  · cases h
end Ev
end Go.Proofs.Ytkhbehgikhamdaa
/- Arguments that hold no address: which cells they have. -/
namespace Go.Proofs.Ytkhbehgikhamdaa
open Go.ChangeShapes Go.WideShapes Go.ChangeAt Go.RowKit
namespace Ev
section
variable {P : Program} {w : World} {r : Reach} {base : Nat}
theorem Zf7 {u : TypeId} {k : IntKind} {c : Value} (hu : P.underlying u = some (.int k)) (h : Cell.okWide P w r base u c) : ∃ n, c = .int k n ∧ k.has n := by
 unfold Cell.okWide Cell.ok at h
 rw [hu] at h
 cases c <;> simp at h
 obtain ⟨rfl, h⟩ := h
 exact ⟨_, rfl, h⟩
theorem Zf8 {t : TypeId} {v : Value} (hu : (match P.underlying t with | some (.struct _) | some (.array _ _) => true | _ => false) = false) (h : Value.okWide P w r base t v) : Cell.okWide P w r base t v := by
 unfold Value.okWide at h
 split at h
 ·rename_i h1; rw [h1] at hu; cases hu
 ·rename_i h1; rw [h1] at hu; cases hu
 ·exact h
def Zlx : Nat → List (Nat × Bool) → List (Option Bool)
 | _, [] => []
 | n, (i, b) :: l => List.replicate (i - n) none ++ (some b :: Zlx (i + 1) l)
def Zly : Nat → List (Nat × Int) → List (Option Int)
 | _, [] => []
 | n, (i, b) :: l => List.replicate (i - n) none ++ (some b :: Zly (i + 1) l)
def Zip {α : Type} : Nat → List (Nat × α) → List (Option α)
 | _, [] => []
 | n, (i, b) :: l => List.replicate (i - n) none ++ (some b :: Zip (i + 1) l)
def ZO (b : List (Nat × Bool)) (v : List (Nat × Int)) (x : List (Nat × Nat)) (l : List (Nat × List Cell)) (w : List (Nat × Zh0)) : Orc := ⟨Zlx 0 b, Zly 0 v, Zip 0 x, Zip 0 l, Zip 0 w⟩
theorem Za0 : ∀ p ∈ ([] : List (Bool × Bool)), p.1 = p.2 := by simp
theorem Zi {a b : Bool} {l : List (Bool × Bool)} (h : a = b) (hl : ∀ q ∈ l, q.1 = q.2) : ∀ q ∈ (a, b) :: l, q.1 = q.2 := by
 intro q hq
 rcases List.mem_cons.1 hq with rfl | hq
 ·exact h
 ·exact hl q hq
theorem Zmk {x : Int} (h : -9223372036854775808 ≤ x ∧ x < 9223372036854775808) : IntKind.i64.wrap x = x := by
 rw [IntKind.wrap_i64]
 omega
theorem Zml {b : Int} (h : 0 ≤ b) : b = Int.ofNat b.toNat := (Int.toNat_of_nonneg h).symm
theorem Zmm {n m : Nat} (h : n < m) : Nat.blt n m = true := Nat.ble_eq_true_of_le h
end
end Ev
end Go.Proofs.Ytkhbehgikhamdaa
/- How runs of functions with loops are written: what is looked at of a stop, and rows of numbers. -/
namespace Go.Proofs.Ytkhbehgikhamdaa
open Go.RowKit
namespace Ev
/-! ### Where a loop stands -/
def ZcH : List Nat → Code → List Zbz → Code × List Zbz
  | [], .loop a, K => (a, K)
  | 0 :: p, .seq a b, K => ZcH p a (.seq b :: K)
  | 1 :: p, .seq _ b, K => ZcH p b K
  | 2 :: p, .scope a, K => ZcH p a (.scp :: K)
  | 3 :: p, .block i a, K => ZcH p a (.blk i :: K)
  | 4 :: p, .cond _ a _, K => ZcH p a K
  | 5 :: p, .cond _ _ b, K => ZcH p b K
  | (n + 6) :: p, .loop a, K => ZcH p a (.rnd n :: K)
  | _, _, K => (.skip, K)
def Zhy (fn : Func) : Code := match fn.body with | some c => c | none => .skip
noncomputable section
end
def Zg9 (ρ : Nat → Nat) : AObj → AObj → Prop
  | .ro O, .ro O' => O = O'
  | .ro O true, .ro O' true => O = O'
  | .cells c t, .cells c' t' => t = t' ∧ (∃ r, c.map (Za2 ρ 1) = c' ++ r) ∧ Zv (ZR 1) c = true
  | _, _ => False
def ZbW (ρ : Nat → Nat) : List (Option AObj) → List (Option AObj) → Prop
  | _, [] => True
  | some o :: bl, some p :: l => Zg9 ρ o p ∧ ZbW ρ bl l
  | _ :: bl, none :: l => ZbW ρ bl l
  | _, _ => False
def Zd6 (ρ : Nat → Nat) : List (Option Value) → List (Nat × Value) → Prop
  | _, [] => True
  | some u :: tv, x :: l => (x.2 = Za2 ρ 3 u ∧ ZR 3 u = true) ∧ Zd6 ρ tv l
  | _, _ => False
theorem ZdR {ρ : Nat → Nat} {h : AH} : ∀ {live : List Nat} {l : List (Option AObj)}, ZbW ρ (live.map h) l → ∀ j o, lkO l j = some o → ∃ k, live[j]? = some k ∧ match o with
      | .ro O m => h k = some (.ro O m)
      | .cells c t => ∃ c' r, h k = some (.cells c' t) ∧ c'.map (Za2 ρ 1) = c ++ r ∧ Zv (ZR 1) c' = true
  | live, [], _, j, o, hj => by simp [lkO] at hj
  | [], x :: l, hb, j, o, hj => by cases x <;> exact hb.elim
  | k :: live, none :: l, hb, j, o, hj => by
    have hb' : ZbW ρ (live.map h) l := by
      simp only [List.map_cons] at hb
      cases hk : h k <;> rw [hk] at hb <;> exact hb
    cases j with
    | zero => simp [lkO] at hj
    | succ j => obtain ⟨k', q1, q2⟩ := ZdR hb' j o (by simpa [lkO] using hj); exact ⟨k', by simpa using q1, q2⟩
  | k :: live, some p :: l, hb, j, o, hj => by
    simp only [List.map_cons] at hb
    cases hk : h k with
    | none => rw [hk] at hb; exact hb.elim
    | some o1 =>
      rw [hk] at hb
      cases j with
      | zero =>
        have : p = o := by simpa [lkO] using hj
        subst this
        refine ⟨k, rfl, ?_⟩
        have h1 := hb.1
        cases o1 with
        | cells c1 t1 =>
          cases p with
          | cells c2 t2 => simp only [Zg9] at h1; obtain ⟨rfl, ⟨r, hr⟩, hs⟩ := h1; exact ⟨_, r, hk, hr, hs⟩
          | ro O2 m2 => cases m2 <;> exact h1.elim
        | ro O1 m1 =>
          cases p with
          | cells c2 t2 => cases m1 <;> exact h1.elim
          | ro O2 m2 =>
            cases m1 <;> cases m2
            · obtain rfl : O1 = O2 := h1; exact hk
            · exact h1.elim
            · exact h1.elim
            · obtain rfl : O1 = O2 := h1; exact hk
      | succ j => obtain ⟨k', q1, q2⟩ := ZdR hb.2 j o (by simpa [lkO] using hj); exact ⟨k', by simpa using q1, q2⟩
theorem ZiW {ρ : Nat → Nat} {T : Tr Value} : ∀ {l : List (Nat × Value)}, Zd6 ρ ((l.map (·.1)).map T.get) l → ∀ t v, Za7 t l = some v → v = Za2 ρ 3 ((T.get t).getD undef) ∧ ZR 3 ((T.get t).getD undef) = true
  | [], _, t, v, h => by cases h
  | x :: l, ht, t, v, h => by
    simp only [List.map_cons] at ht
    cases hx : T.get x.1 with
    | none => rw [hx] at ht; exact ht.elim
    | some u =>
      rw [hx] at ht
      unfold Za7 at h
      cases hb : Nat.beq x.1 t with
      | true =>
        rw [hb] at h
        injection h with h
        obtain rfl := Nat.eq_of_beq_eq_true hb
        subst h
        rw [hx]
        exact ht.1
      | false => rw [hb] at h; exact ZiW ht.2 t v h
section
variable {P : Program} {ext : FuncId → Option Ext}
end
/-! ### Rows of numbers -/
theorem Zt {a b : Int} (h : 0 ≤ a) : Int.tmod a b = a % b := Int.tmod_eq_emod_of_nonneg h
theorem ZE {a b : Int} (h : 0 ≤ a) : Int.tdiv a b = a / b := Int.tdiv_eq_ediv_of_nonneg h
theorem wrap_i64 {x : Int} (h : -9223372036854775808 ≤ x ∧ x ≤ 9223372036854775807) : IntKind.i64.wrap x = x := Zmk (by omega)
theorem ZF {k o o' n n' c c' : Nat} (h1 : o = o') (h2 : n = n') (h3 : c = c') : Value.slice (some ⟨k, o, none⟩) n c = .slice (some ⟨k, o', none⟩) n' c' := by rw [h1, h2, h3]
theorem Za {α : Type} {a b : α} {l r : List α} (h : a = b) (t : l = r) : a :: l = b :: r := by rw [h, t]
/-! ### Rows of bools -/
/-! ### Rows of the caller's -/
end Ev
end Go.Proofs.Ytkhbehgikhamdaa
/- Calls that are told, from what is known of a function. -/
namespace Go.Proofs.Ytkhbehgikhamdaa
open Go.RowKit
namespace Ev
section
variable {P : Program} {ext : FuncId → Option Ext}
end
end Ev
end Go.Proofs.Ytkhbehgikhamdaa
/- Functions of many loops: one behind the other, one in another. -/
namespace Go.Proofs.Ytkhbehgikhamdaa
open Go.RowKit
namespace Ev
section
variable {P : Program} {ext : FuncId → Option Ext}
variable {fn : Func} {pre : List AObj} {v : Value} {po : List (Option AObj)} {X : Type} {m i : Nat} {L : X → List (Nat × Value)} {H : X → List AObj} {μ : X → Nat} {bd : X → List Nat} {Gb : List Nat → Ren → World → (Nat → Act → World → Prop) → Prop} {x : X} {c : Code} {K : List Zbz} {T0 : Tr Value} {fu : Nat} {orc : Orc} {live : List Nat} {bl : List (Option AObj)} {ob : List (Bool × Bool)}
end
/-! ### A law -/
mutual
inductive Dec (w : World) : Nat → Nat → Nat → Prop
 | mk {b base id : Nat} {c : List Cell} {C : Array Value} {t : TypeId} {fr : Nat × Nat} (h1 : ZfW id = some c) (h2 : w.heap[b]? = some (.cells C t fr)) (h3 : 0 < c.length → base + c.length ≤ C.size) (h4 : ∀ (i : Nat) (x : Cell) (y : Value), c[i]? = some x → C[base + i]? = some y → DecC w x y) : Dec w b base id
inductive DecC (w : World) : Cell → Value → Prop
 | i {n : Int} : DecC w (.i n) (.int .i64 n)
 | k {q : IntKind} {n : Int} : DecC w (.k q n) (.int q n)
 | b {q : Bool} : DecC w (.b q) (.bool q)
 | s {x : ByteArray} : DecC w (.s x) (.string x)
 | m0 {id o : Nat} {a : Option Addr} : DecC w (.m id o 0 0) (.slice a 0 0)
 | m {b base id o n c c' : Nat} (h : Dec w b base id) (hn : n ≤ c) (hc : c ≤ c') : DecC w (.m id o n c) (.slice (some ⟨b, base + o, none⟩) n c')
end
noncomputable def ιMk (w : World) : Ren := fun k => @dite _ (∃ b base id, k = ZN b base id ∧ Dec w b base id) (Classical.propDecidable _) (fun h => some (h.choose, 0)) (fun _ => none)
theorem ιMk_of {w : World} {b base id : Nat} (h : Dec w b base id) : ιMk w (ZN b base id) = some (b, 0) := by
 have hex : ∃ b' base' id', ZN b base id = ZN b' base' id' ∧ Dec w b' base' id' := ⟨b, base, id, rfl, h⟩
 unfold ιMk
 rw [dif_pos hex]
 obtain ⟨base', id', h1, _⟩ := hex.choose_spec
 rw [← (Zis h1).1]
theorem ιMk_inv {w : World} {k : Nat} {q : Nat × Nat} (h : ιMk w k = some q) : ∃ b base id, k = ZN b base id ∧ q = (b, 0) ∧ Dec w b base id := by
 unfold ιMk at h
 by_cases hex : ∃ b' base' id', k = ZN b' base' id' ∧ Dec w b' base' id'
 ·rw [dif_pos hex] at h
  injection h with h
  obtain ⟨base', id', h1, h2⟩ := hex.choose_spec
  exact ⟨_, base', id', h1, h.symm, h2⟩
 ·rw [dif_neg hex] at h; cases h
theorem DecC.vr {w : World} {x : Cell} {y : Value} (h : DecC w x y) : VR (ιMk w) (ZbI x) y := by
 cases h with
 | i => exact .atom rfl
 | k => exact .atom rfl
 | b => exact .atom rfl
 | s => exact .atom rfl
 | m0 => exact .slice0 fun _ => rfl
 | m h hn hc => exact .mslice (ιMk_of h) hn hc
theorem Zmn (P : Program) (w : World) : Emb P (ιMk w) (lk []) w := by
 refine ⟨fun k c t hk => by simp [lk] at hk, fun k O hk => by simp [lk] at hk, fun k k' b1 b2 h1 => by simp [lk, isC] at h1, fun k b1 hk => ?_, fun b base id q hq => ?_⟩
 ·obtain ⟨b, base, id, rfl, rfl, h⟩ := ιMk_inv hk
  cases h with
  | mk _ h2 _ _ => exact (Array.getElem?_eq_some_iff.1 h2).1
 ·obtain ⟨b', base', id', h1, rfl, h⟩ := ιMk_inv hq
  obtain ⟨rfl, rfl, rfl⟩ := Zis h1
  cases h with
  | mk h1 h2 h3 h4 =>
   rename_i c C t fr
   refine ⟨rfl, ⟨⟨c, C, t, fr, h1, h2, h3, fun i x y hx hy => ?_⟩, fun o c' hc => ιMk_of ?_⟩, fun k d hk => by simp [lk, isC] at hk⟩
   ·unfold ZD at hx
    rw [List.getElem?_map] at hx
    cases hb : c[i]? with
    | none => rw [hb] at hx; cases hx
    | some z =>
     rw [hb] at hx
     injection hx with hx
     subst hx
     exact (h4 i z y hb hy).vr
   ·unfold Zct at hc
    rw [h1] at hc
    obtain ⟨e, hl⟩ := Zco hc
    have hl' : c'.length ≤ c.length - o := by simpa using hl
    refine .mk (Zjg c') h2 (fun h0 => by have := h3 (by omega); omega) fun i x y hx hy => ?_
    have hi : i < c'.length := (List.getElem?_eq_some_iff.1 hx).1
    refine h4 (o + i) x y ?_ (by rw [← Nat.add_assoc]; exact hy)
    rw [e, List.getElem?_take_of_lt hi, List.getElem?_drop] at hx
    exact hx
theorem Zmo {P : Program} {f : FuncId} {A : Array Value} {post : List (Option AObj)} {v : Value} (h : LSpec P f A [] v post) {w : World} {args' : Array Value} (ha : VRs (ιMk w) A args') (hv : Zbx v = true) : Calls P f args' w (Ret v w) := by
 refine (h (ιMk w) w args' (fun k hk => ?_) ha (Zmn P w)).mono ?_
 ·cases hq : ιMk w k with
  | none => exact absurd hq hk
  | some q =>
   obtain ⟨b, base, id, rfl, _⟩ := ιMk_inv hq
   exact .inr (ZjG b base id)
 ·rintro e w' ⟨v', ι', rfl, hS, _, hvr⟩
  have := hvr.eq_of_free hv
  subst this
  exact ⟨rfl, hS.os, hS.tape, hS.output, hS.size, fun b hb => hS.frame b hb fun k c hk => by simp [lk, isC] at hk⟩
end Ev
end Go.Proofs.Ytkhbehgikhamdaa
/- Arguments that are slices of structs of ints, opened, over any program. -/
namespace Go.Proofs.Ytkhbehgikhamdaa
open Go.ChangeShapes Go.WideShapes Go.ChangeAt Go.RowKit Go.Deep
section
variable {H : Type} {enc : TypeId × Value → H} {P : Program} {w : World}

end
end Go.Proofs.Ytkhbehgikhamdaa
/- Arguments that are rows of numbers: blocks of the caller's, that are read alone. -/
namespace Go.Proofs.Ytkhbehgikhamdaa
open Go.ChangeShapes Go.WideShapes Go.ChangeAt Go.RowKit
namespace Ev
section
variable {P : Program} {w : World}
end
end Ev
end Go.Proofs.Ytkhbehgikhamdaa
/- The runner, with places to stop at: where a way on of a given depth begins, so many of them left out. -/
namespace Go.Proofs.Ytkhbehgikhamdaa
open Go.RowKit
namespace Ev
inductive StopC where
 | fin (v : Value) (s : St)
 | head (a : Code) (K : List Zbz) (T : Tr Value) (s : St)
 | next (i : Nat) (T : Tr Value) (s : St)
 | cut (b : Code) (K : List Zbz) (T : Tr Value) (s : St)
noncomputable section
def StopC.s : StopC → St
 | .fin _ s => s
 | .head _ _ _ s => s
 | .next _ _ s => s
 | .cut _ _ _ s => s
def ZiX (s : St) : Option Value → Option StopC
 | some v => some (.fin v s)
 | none => none
def ZkL (P : Program) (fn : Func) (e : Ex) (T : Tr Value) (s : St) : Option StopC :=
 match e with
 | .exit _ => none
 | .normal => ZiX s (Zkm P fn T s)
 | .ret => ZiX s (Zkm P fn T s)
mutual
def ZbD (P : Program) (ext : FuncId → Option Ext) (fn : Func) (nt : Nat) (cd : Nat) : Nat → Nat → Code → List Zbz → Tr Value → St → Option StopC
 | 0, _, _, _, _, _ => none
 | fu + 1, cm, c, K, T, s => match c with
  | .seq a b => ZbD P ext fn nt cd fu cm a (.seq b :: K) T s
  | .scope a => ZbD P ext fn nt cd fu cm a (.scp :: K) T s
  | .block id a => ZbD P ext fn nt cd fu cm a (.blk id :: K) T s
  | .cond x a b => match opnd T x with
   | .bool t => match t with
    | true => ZbD P ext fn nt cd fu cm a K T s
    | false => ZbD P ext fn nt cd fu cm b K T s
   | _ => none
  | .loop a => some (.head a K T s)
  | c => match ZJ P ext nt fu c T s with
   | some (e, T', s') => ZaQ P ext fn nt cd fu cm K e T' s'
   | none => none
termination_by structural fu _ _ _ _ _ => fu
def ZaQ (P : Program) (ext : FuncId → Option Ext) (fn : Func) (nt : Nat) (cd : Nat) : Nat → Nat → List Zbz → Ex → Tr Value → St → Option StopC
 | 0, _, _, _, _, _ => none
 | fu + 1, cm, K, e, T, s => match K with
  | [] => ZkL P fn e T s
  | .seq b :: K => match e with
   | .normal => match Nat.beq K.length cd with
    | false => ZbD P ext fn nt cd fu cm b K T s
    | true => match cm with
     | 0 => some (.cut b K T s)
     | m + 1 => ZbD P ext fn nt cd fu m b K T s
   | .exit i => ZaQ P ext fn nt cd fu cm K (.exit i) T s
   | .ret => ZaQ P ext fn nt cd fu cm K .ret T s
  | .blk id :: K => match e with
   | .exit i => bif Nat.beq i id then ZaQ P ext fn nt cd fu cm K .normal T s else ZaQ P ext fn nt cd fu cm K (.exit i) T s
   | .normal => ZaQ P ext fn nt cd fu cm K .normal T s
   | .ret => ZaQ P ext fn nt cd fu cm K .ret T s
  | .scp :: K => ZaQ P ext fn nt cd fu cm K e T s
  | .rnd i :: K => match e with
   | .normal => some (.next i T s)
   | .exit j => ZaQ P ext fn nt cd fu cm K (.exit j) T s
   | .ret => ZaQ P ext fn nt cd fu cm K .ret T s
termination_by structural fu _ _ _ _ _ => fu
end
end
section
variable {P : Program} {ext : FuncId → Option Ext}
theorem ZiY {s : St} {o : Option Value} {st : StopC} (h : ZiX s o = some st) : ∃ v, st = .fin v s ∧ o = some v := by
 cases o with
 | none => cases h
 | some v => injection h with h; exact ⟨v, h.symm, rfl⟩
theorem ZiZ {fn : Func} {e : Ex} {T : Tr Value} {s : St} {st : StopC} (h : ZkL P fn e T s = some st) : ∃ v, st = .fin v s ∧ (match e with | .exit _ => False | _ => True) ∧ (match Za8 P T s fn.results.toList with | some [v] => some v | some vs => some (.tuple vs.toArray) | none => none) = some v := by
 cases e with
 | exit i => cases h
 | normal => obtain ⟨v, h1, h2⟩ := ZiY h; exact ⟨v, h1, trivial, h2⟩
 | ret => obtain ⟨v, h1, h2⟩ := ZiY h; exact ⟨v, h1, trivial, h2⟩
theorem Zmp (F : Fit P ext) {fn : Func} {nt cd : Nat} : ∀ fu : Nat, (∀ cm c K T s st, ZbD P ext fn nt cd fu cm c K T s = some st → Up s st.s) ∧ (∀ cm K e T s st, ZaQ P ext fn nt cd fu cm K e T s = some st → Up s st.s) := by
 intro fu
 induction fu with
 | zero => exact ⟨fun _ _ _ _ _ _ h => by simp [ZbD] at h, fun _ _ _ _ _ _ h => by simp [ZaQ] at h⟩
 | succ fu ih =>
  obtain ⟨ihT, ihB⟩ := ih
  have other : ∀ cm c K T s st, (match ZJ P ext nt fu c T s with | some (e, T', s') => ZaQ P ext fn nt cd fu cm K e T' s' | none => none) = some st → Up s st.s := fun cm c K T s st h => by
   split at h
   ·exact ((Zbv (P := P) (ext := ext) (fun f g hg => (F.hp f g hg).up) fu).1 _ _ _ _ _ _ _ (by assumption)).trans (ihB _ _ _ _ _ _ h)
   ·cases h
  refine ⟨fun cm c K T s st h => ?_, fun cm K e T s st h => ?_⟩
  ·cases c <;> simp only [ZbD] at h
   case seq a b => exact ihT _ _ _ _ _ _ h
   case scope a => exact ihT _ _ _ _ _ _ h
   case block id a => exact ihT _ _ _ _ _ _ h
   case cond x a b =>
    split at h
    ·split at h
     ·exact ihT _ _ _ _ _ _ h
     ·exact ihT _ _ _ _ _ _ h
    ·cases h
   case loop a => injection h with h; subst h; exact Up.refl _
   all_goals exact other _ _ _ _ _ _ h
  ·cases K with
   | nil => simp only [ZaQ] at h; obtain ⟨v, rfl, _⟩ := ZiZ h; exact Up.refl _
   | cons k K =>
    cases k <;> simp only [ZaQ] at h
    ·cases e <;> simp only at h
     ·split at h
      ·exact ihT _ _ _ _ _ _ h
      ·split at h
       ·injection h with h; subst h; exact Up.refl _
       ·exact ihT _ _ _ _ _ _ h
     ·exact ihB _ _ _ _ _ _ h
     ·exact ihB _ _ _ _ _ _ h
    ·cases e <;> simp only at h
     ·exact ihB _ _ _ _ _ _ h
     ·rename_i id i
      cases hb : Nat.beq i id <;> rw [hb] at h <;> exact ihB _ _ _ _ _ _ h
     ·exact ihB _ _ _ _ _ _ h
    ·exact ihB _ _ _ _ _ _ h
    ·cases e <;> simp only at h
     ·injection h with h; subst h; exact Up.refl _
     ·exact ihB _ _ _ _ _ _ h
     ·exact ihB _ _ _ _ _ _ h
def Zgx (P : Program) (fn : Func) (R : Ending → World → Prop) (Nx : Nat → Act → World → Prop) (nt : Nat) (ι : Ren) (a : Act) (w : World) : StopC → Prop
 | .fin v _ => ∀ v', VR ι v v' → R (.returned v') w
 | .head b K T _ => TR ι nt [] T a → (Code.loop b).wp P (post P fn R Nx K) a w
 | .next i T _ => TR ι nt [] T a → Nx i a w
 | .cut b K T _ => TR ι nt [] T a → b.wp P (post P fn R Nx K) a w
theorem ZhV (F : Fit P ext) {fn : Func} {nt cd : Nat} {R : Ending → World → Prop} {Nx : Nat → Act → World → Prop} : ∀ fu : Nat,
  (∀ cm c K T s st, ZbD P ext fn nt cd fu cm c K T s = some st → (∀ p ∈ st.s.ob, p.1 = p.2) → ∀ ι a w, TR ι nt [] T a → Emb P ι s.h.get w → Fresh ι s.n st.s.n →
   (∀ ι' a' w', Step P ι s.h.get w ι' st.s.h.get w' → Dom ι ι' s.n st.s.n → Zgx P fn R Nx nt ι' a' w' st) → c.wp P (post P fn R Nx K) a w) ∧
  (∀ cm K e T s st, ZaQ P ext fn nt cd fu cm K e T s = some st → (∀ p ∈ st.s.ob, p.1 = p.2) → ∀ ι a w, TR ι nt [] T a → Emb P ι s.h.get w → Fresh ι s.n st.s.n →
   (∀ ι' a' w', Step P ι s.h.get w ι' st.s.h.get w' → Dom ι ι' s.n st.s.n → Zgx P fn R Nx nt ι' a' w' st) → post P fn R Nx K e.out a w) := by
 intro fu
 induction fu with
 | zero => exact ⟨fun _ _ _ _ _ _ h => by simp [ZbD] at h, fun _ _ _ _ _ _ h => by simp [ZaQ] at h⟩
 | succ fu ih =>
  obtain ⟨ihT, ihB⟩ := ih
  have other : ∀ cm c K T s st, (match ZJ P ext nt fu c T s with | some (e, T', s') => ZaQ P ext fn nt cd fu cm K e T' s' | none => none) = some st → (∀ p ∈ st.s.ob, p.1 = p.2) → ∀ ι a w, TR ι nt [] T a → Emb P ι s.h.get w → Fresh ι s.n st.s.n →
   (∀ ι' a' w', Step P ι s.h.get w ι' st.s.h.get w' → Dom ι ι' s.n st.s.n → Zgx P fn R Nx nt ι' a' w' st) → c.wp P (post P fn R Nx K) a w := fun cm c K T s st h ho ι a w hT he hf hQ => by
   split at h
   ·rename_i e T1 s1 h1
    have u1 := (Zbv (P := P) (ext := ext) (fun f g hg => (F.hp f g hg).up) fu).1 _ _ _ _ _ _ _ h1
    have u2 := (Zmp F (fn := fn) (nt := nt) fu).2 _ _ _ _ _ _ h
    refine wp_mono (ev_wp F h1 (ZS u2.ob ho) hT he (hf.mono (Nat.le_refl _) u2.n)) ?_
    rintro ex a1 w1 ⟨rfl, ι1, g1, g2, g3⟩
    exact ihB _ K e T1 s1 st h ho ι1 a1 w1 g3 g1.emb (hf.after g2 u1.n) fun ι' a' w' k1 k2 => hQ ι' a' w' (g1.trans k1) (g2.trans k2 u1.n u2.n)
   ·cases h
  refine ⟨fun cm c K T s st h ho ι a w hT he hf hQ => ?_, fun cm K e T s st h ho ι a w hT he hf hQ => ?_⟩
  ·have h0 := h
   cases c <;> simp only [ZbD] at h
   case seq x y => exact wp_seq (ihT _ x (.seq y :: K) T s st h ho ι a w hT he hf hQ)
   case scope x => exact wp_scope_straight (ihT _ x (.scp :: K) T s st h ho ι a w hT he hf hQ)
   case block id x => exact wp_block (ihT _ x (.blk id :: K) T s st h ho ι a w hT he hf hQ)
   case cond x y z =>
    split at h
    ·rename_i t ht
     have hx : a.eval x = .bool t := Zcq ((ht ▸ hT.opnd x : VR ι (.bool t) (ZaP a x)).bool_inv)
     split at h
     ·exact wp_cond_true hx (ihT _ y K T s st h ho ι a w hT he hf hQ)
     ·exact wp_cond_false hx (ihT _ z K T s st h ho ι a w hT he hf hQ)
    ·cases h
   case loop x =>
    injection h with h
    subst h
    exact hQ ι a w (Step.refl he) Dom.refl hT
   all_goals exact other _ _ K T s st h ho ι a w hT he hf hQ
  ·cases K with
   | nil =>
    simp only [ZaQ] at h
    obtain ⟨v, rfl, hne, hr⟩ := ZiZ h
    obtain ⟨v', hrun, hv⟩ := ZbG hT he hr
    have := hQ ι a w (Step.refl he) Dom.refl v' hv
    cases e with
    | normal => exact ⟨hT.2.1, v', hrun, this⟩
    | ret => exact ⟨hT.2.1, v', hrun, this⟩
    | exit i => exact hne.elim
   | cons k K =>
    cases k with
    | seq b =>
     simp only [ZaQ] at h
     cases e with
     | normal =>
      simp only at h
      split at h
      ·exact ihT _ b K T s st h ho ι a w hT he hf hQ
      ·split at h
       ·injection h with h
        subst h
        exact hQ ι a w (Step.refl he) Dom.refl hT
       ·exact ihT _ b K T s st h ho ι a w hT he hf hQ
     | exit i => exact ihB _ K (.exit i) T s st h ho ι a w hT he hf hQ
     | ret => exact ihB _ K .ret T s st h ho ι a w hT he hf hQ
    | blk id =>
     simp only [ZaQ] at h
     cases e with
     | normal => exact ihB _ K .normal T s st h ho ι a w hT he hf hQ
     | ret => exact ihB _ K .ret T s st h ho ι a w hT he hf hQ
     | exit i =>
      simp only at h
      show if i = id then _ else _
      cases hb : Nat.beq i id with
      | true =>
       rw [hb] at h
       rw [if_pos (Nat.eq_of_beq_eq_true hb)]
       exact ihB _ K .normal T s st h ho ι a w hT he hf hQ
      | false =>
       rw [hb] at h
       rw [if_neg (fun e => by rw [Zdk e] at hb; cases hb)]
       exact ihB _ K (.exit i) T s st h ho ι a w hT he hf hQ
    | scp =>
     simp only [ZaQ] at h
     have := ihB _ K e T s st h ho ι a w hT he hf hQ
     cases e <;> exact this
    | rnd i =>
     simp only [ZaQ] at h
     cases e with
     | normal =>
      injection h with h
      subst h
      exact hQ ι a w (Step.refl he) Dom.refl hT
     | exit j => exact ihB _ K (.exit j) T s st h ho ι a w hT he hf hQ
     | ret => exact ihB _ K .ret T s st h ho ι a w hT he hf hQ
end
noncomputable section
def ZhF (live : List Nat) (r : Option StopC) : Option (Value × List (Option AObj) × List (Bool × Bool)) :=
 match r with
 | some (.fin u s) => bif Nat.ble s.n 1000000000 then some (u, live.map s.h.get, s.ob) else none
 | _ => none
def ZgZ (i : Nat) (live temps : List Nat) (r : Option StopC) : Option (List (Option Value) × List (Option AObj) × List (Bool × Bool)) :=
 match r with
 | some (.next j T s) => bif Nat.beq j i && Nat.ble s.n 1000000000 then some (temps.map T.get, live.map s.h.get, s.ob) else none
 | _ => none
def Zf9 (live temps : List Nat) (r : Option StopC) : Option ((Code × List Zbz) × List (Option Value) × List (Option AObj) × List (Bool × Bool)) :=
 match r with
 | some (.head b K T s) => bif Nat.ble s.n 1000000000 then some ((b, K), temps.map T.get, live.map s.h.get, s.ob) else none
 | _ => none
end
theorem Zja {live : List Nat} {r : Option StopC} {u : Value} {bl : List (Option AObj)} {ob : List (Bool × Bool)} (h : ZhF live r = some (u, bl, ob)) : ∃ s, r = some (.fin u s) ∧ live.map s.h.get = bl ∧ s.ob = ob ∧ s.n ≤ far := by
 unfold ZhF at h
 split at h
 ·rename_i u' s
  obtain ⟨hn, h⟩ := Zo h
  injection h with h
  simp only [Prod.mk.injEq] at h
  obtain ⟨rfl, rfl, rfl⟩ := h
  exact ⟨s, rfl, rfl, rfl, Nat.le_of_ble_eq_true hn⟩
 ·cases h
theorem Zif {i : Nat} {live temps : List Nat} {r : Option StopC} {tv : List (Option Value)} {bl : List (Option AObj)} {ob : List (Bool × Bool)} (h : ZgZ i live temps r = some (tv, bl, ob)) : ∃ T s, r = some (.next i T s) ∧ temps.map T.get = tv ∧ live.map s.h.get = bl ∧ s.ob = ob ∧ s.n ≤ far := by
 unfold ZgZ at h
 split at h
 ·rename_i j T s
  obtain ⟨hn, h⟩ := Zo h
  simp only [Bool.and_eq_true] at hn
  injection h with h
  simp only [Prod.mk.injEq] at h
  obtain ⟨rfl, rfl, rfl⟩ := h
  exact ⟨T, s, by rw [Nat.eq_of_beq_eq_true hn.1], rfl, rfl, rfl, Nat.le_of_ble_eq_true hn.2⟩
 ·cases h
theorem ZfL {live temps : List Nat} {r : Option StopC} {bK : Code × List Zbz} {tv : List (Option Value)} {bl : List (Option AObj)} {ob : List (Bool × Bool)} (h : Zf9 live temps r = some (bK, tv, bl, ob)) : ∃ T s, r = some (.head bK.1 bK.2 T s) ∧ temps.map T.get = tv ∧ live.map s.h.get = bl ∧ s.ob = ob ∧ s.n ≤ far := by
 unfold Zf9 at h
 split at h
 ·rename_i b K T s
  obtain ⟨hn, h⟩ := Zo h
  injection h with h
  simp only [Prod.mk.injEq] at h
  obtain ⟨rfl, rfl, rfl, rfl⟩ := h
  exact ⟨T, s, rfl, rfl, rfl, rfl, Nat.le_of_ble_eq_true hn⟩
 ·cases h
section
variable {P : Program} {ext : FuncId → Option Ext}
theorem ZkM (F : Fit P ext) {f : FuncId} {fn : Func} {c : Code} (hfn : P.funcs[f]? = some fn) (hb : fn.body = some c) {A : Array Value} {pre : List AObj} {v : Value} {post : List (Option AObj)} (hA : Nat.ble A.size fn.ntmps = true) {fu : Nat} {orc : Orc} {cd cm : Nat} {st : StopC}
  (hev : ZbD P ext fn fn.ntmps cd fu cm c [] (Zcn 0 A.toList .nil) ⟨ZdQ 0 pre, pre.length, [], orc, []⟩ = some st) (ho : ∀ p ∈ st.s.ob, p.1 = p.2) (hn : st.s.n ≤ far)
  (hto : ∀ ι0 w0, (∀ k, ι0 k ≠ none → k < pre.length ∨ Zdn k) → ∀ ι' a' w', Step P ι0 (lk pre) w0 ι' st.s.h.get w' → Zgx P fn (Fin P ι0 pre w0 v post) (fun _ _ _ => False) fn.ntmps ι' a' w' st) : LSpec P f A pre v post := by
 intro ι w args' hd ha he
 refine calls_of_wp hfn hb ?_
 have := (ZhV F (R := Fin P ι pre w v post) (Nx := fun _ _ _ => False) fu).1 cm c [] _ _ st hev ho ι _ w (Zd2 ha (Nat.le_of_ble_eq_true hA)) (by show Emb P ι (ZdQ 0 pre).get w; rw [ZiP]; exact he)
  ⟨hn, fun k h1 h2 => by
   cases hk : ι k with
   | none => rfl
   | some b => exact absurd (hd k (by rw [hk]; simp)) (by have h3 : pre.length ≤ k := h1; have h4 : st.s.n ≤ 1000000000 := hn; have h5 : k < st.s.n := h2; unfold Zdn; omega)⟩
  (fun ι' a' w' g1 _ => hto ι w hd ι' a' w' (by have := g1; simp only [ZiP] at this; exact this))
 exact this
end
end Ev
end Go.Proofs.Ytkhbehgikhamdaa
/- Functions of loops as machines: states at loops' heads, and a step from each to the next one. -/
namespace Go.Proofs.Ytkhbehgikhamdaa
open Go.RowKit
namespace Ev
def Zl : List Zbz → List Nat
 | [] => []
 | .rnd i :: K => i :: Zl K
 | .seq _ :: K => Zl K
 | .blk _ :: K => Zl K
 | .scp :: K => Zl K
def Z2 {X R : Type} (step : X → Option (X ⊕ R)) : Nat → X → Option R
 | 0, _ => none
 | n + 1, x => match step x with
  | none => none
  | some (.inl y) => Z2 step n y
  | some (.inr r) => some r
def goM {X R : Type} (step : X → Option (X ⊕ R)) (n : Nat) (o : Option (X ⊕ R)) : Option R :=
 match o with
 | none => none
 | some (.inl y) => Z2 step n y
 | some (.inr r) => some r
theorem ZkN (n : Nat) (h : Nat.ble n 1000000000 = true) : n ≤ far := Nat.le_of_ble_eq_true h
theorem ZhW {P : Program} {c : Code} {Q : Exit → Act → World → Prop} : ∀ (n m : Nat), n ≤ m → ∀ a w, Code.rounds P c Q n a w → Code.rounds P c Q m a w
 | 0, _, _, _, _, h => h.elim
 | n + 1, 0, hm, _, _, _ => by omega
 | n + 1, m + 1, hm, a, w, h => by
  rw [rounds_succ] at h ⊢
  refine wp_mono h ?_
  intro e a' w' h'
  cases e with
  | normal => exact ZhW n m (by omega) a' w' h'
  | exit i => exact h'
  | goto l => exact h'
  | ret => exact h'
  | panic ch => exact h'
  | outgrown => exact h'
theorem Zcy {P : Program} {fn : Func} {R : Ending → World → Prop} {Nx Nx' : Nat → Act → World → Prop} : ∀ {K : List Zbz}, (∀ j ∈ Zl K, Nx' j = Nx j) → post P fn R Nx' K = post P fn R Nx K
 | [], _ => rfl
 | .seq b :: K, h => by simp only [post]; rw [Zcy (K := K) h]
 | .blk id :: K, h => by simp only [post]; rw [Zcy (K := K) h]
 | .scp :: K, h => by simp only [post]; rw [Zcy (K := K) h]
 | .rnd j :: K, h => by
  simp only [post]
  rw [Zcy (K := K) fun j hj => h j (List.mem_cons_of_mem _ hj), h j (List.mem_cons_self ..)]
noncomputable def ZcS : Nat → List (Option AObj) → Tr AObj
 | _, [] => .nil
 | i, none :: l => ZcS (i + 1) l
 | i, some o :: l => (ZcS (i + 1) l).set i (some o)
theorem Zgy : ∀ (l : List (Option AObj)) (i k : Nat), (ZcS i l).get k = if i ≤ k then (l[k - i]?).join else none
 | [], i, k => by
  show (Tr.nil : Tr AObj).get k = _
  rw [Tr.get_nil]
  split <;> simp
 | none :: l, i, k => by
  show (ZcS (i + 1) l).get k = _
  rw [Zgy l (i + 1) k]
  by_cases h : i + 1 ≤ k
  ·rw [if_pos h, if_pos (by omega)]
   have : k - i = (k - (i + 1)) + 1 := by omega
   rw [this, List.getElem?_cons_succ]
  ·rw [if_neg h]
   by_cases hk : i ≤ k
   ·rw [if_pos hk, show k - i = 0 by omega]; rfl
   ·rw [if_neg hk]
 | some o :: l, i, k => by
  show ((ZcS (i + 1) l).set i (some o)).get k = _
  rw [Tr.get_set]
  by_cases hk : k = i
  ·subst hk; rw [Zs, if_pos (Nat.le_refl _)]; simp
  ·rw [Zm hk, Zgy l (i + 1) k]
   by_cases h : i + 1 ≤ k
   ·rw [if_pos h, if_pos (by omega)]
    have : k - i = (k - (i + 1)) + 1 := by omega
    rw [this, List.getElem?_cons_succ]
   ·rw [if_neg h, if_neg (by omega)]
theorem Zlq (l : List (Option AObj)) : (ZcS 0 l).get = lkO l := funext fun k => by rw [Zgy]; simp [lkO]
theorem Zha {nt m : Nat} {lt : List (Nat × Value)} {H : List (Option AObj)} {T : Tr Value} {s : St} {live : List Nat} (hl : live.length = m) (hn : live.Nodup) (ht : Zd6 (rho live far) ((lt.map (·.1)).map T.get) lt) (hb : ZbW (rho live far) (live.map s.h.get) H) : Zlj nt m (fun t => Za7 t lt) (ZcS 0 H) T s live := by
 refine ⟨hl, hn, fun t v _ h => ZiW ht t v h, fun j o ho => ?_⟩
 rw [Zlq] at ho
 exact ZdR hb j o ho
structure Mach where
 fn : Func
 pre : List AObj
 X : Type
 R : Type
 step : X → Option (X ⊕ R)
 hd : X → Nat
 code : Nat → Code × List Zbz
 isL : Nat → Bool
 L : X → List (Nat × Value)
 H : X → List (Option AObj)
 V : R → Value
 Po : R → List (Option AObj)
namespace Mach
def after (M : Mach) (n : Nat) : M.X ⊕ M.R → Option M.R
 | .inl y => Z2 M.step n y
 | .inr r => some r
def KK (M : Mach) (i : Nat) : List Zbz := match M.isL i with | true => .rnd i :: (M.code i).2 | false => (M.code i).2
def IntoM (M : Mach) (y : M.X) (T : Tr Value) (s : St) : Prop :=
 ∃ live, ZcF M.pre.length live = true ∧ Zlj M.fn.ntmps (M.H y).length (fun t => Za7 t (M.L y)) (ZcS 0 (M.H y)) T s live
def To (M : Mach) (K0 : List Zbz) : StopC → M.X ⊕ M.R → Prop
 | .fin u s, .inr r => ∃ live, Zlw M.pre.length (M.V r) (M.Po r) u s live
 | .next j T s, .inl y => j = M.hd y ∧ M.isL j = true ∧ j ∈ Zl K0 ∧ M.IntoM y T s
 | .head b K T s, .inl y => M.isL (M.hd y) = true ∧ (b, K) = M.code (M.hd y) ∧ (∀ j ∈ Zl K, j ∈ Zl K0) ∧ M.IntoM y T s
 | .cut b K T s, .inl y => M.isL (M.hd y) = false ∧ (b, K) = M.code (M.hd y) ∧ (∀ j ∈ Zl K, j ∈ Zl K0) ∧ M.IntoM y T s
 | _, _ => False
noncomputable def Start (M : Mach) (x : M.X) (gv : Nat → Value) (P : Program) (ext : FuncId → Option Ext) (cd cm fu : Nat) (orc : Orc) : Option StopC :=
 ZbD P ext M.fn M.fn.ntmps cd fu cm (M.code (M.hd x)).1 (M.KK (M.hd x)) (tmps M.fn.ntmps (fun t => Za7 t (M.L x)) gv) ⟨ZcS 0 (M.H x), (M.H x).length, [], orc, []⟩
noncomputable def Ok (M : Mach) (P : Program) (ext : FuncId → Option Ext) (x : M.X) (o : Option (M.X ⊕ M.R)) : Prop :=
 ∀ y, o = some y → ∀ gv, ∃ cd cm fu orc st, M.Start x gv P ext cd cm fu orc = some st ∧ (∀ p ∈ st.s.ob, p.1 = p.2) ∧ st.s.n ≤ far ∧ M.To (M.KK (M.hd x)) st y
def AtM (M : Mach) (P : Program) (ι0 : Ren) (w0 : World) (y : M.X) (gv : Nat → Value) (a : Act) (w : World) : Prop :=
 At P M.fn.ntmps (tmps M.fn.ntmps (fun t => Za7 t (M.L y)) gv) (ZcS 0 (M.H y)).get (M.H y).length far ι0 (lk M.pre) w0 a w
section
variable {P : Program} {ext : FuncId → Option Ext}
def Good (M : Mach) (P : Program) (r : M.R) (ι0 : Ren) (w0 : World) (n : Nat) (x : M.X) (Nx : Nat → Act → World → Prop) (a : Act) (w : World) : Prop :=
 match M.isL (M.hd x) with
 | true => Code.rounds P (M.code (M.hd x)).1 (post P M.fn (Fin P ι0 M.pre w0 (M.V r) (M.Po r)) Nx (M.code (M.hd x)).2) n a w
 | false => (M.code (M.hd x)).1.wp P (post P M.fn (Fin P ι0 M.pre w0 (M.V r) (M.Po r)) Nx (M.code (M.hd x)).2) a w
def Outer (M : Mach) (P : Program) (r : M.R) (ι0 : Ren) (w0 : World) (n : Nat) (js : List Nat) (Nx : Nat → Act → World → Prop) : Prop :=
 ∀ m z, m < n → Z2 M.step m z = some r → M.isL (M.hd z) = true → M.hd z ∈ js → ∀ gv a w, M.AtM P ι0 w0 z gv a w → Nx (M.hd z) a w
theorem run1 (M : Mach) (hH : ∀ x, (M.H x).length ≤ far) (hPo : ∀ r, (M.Po r).length ≤ far) (r : M.R) {ι0 : Ren} {w0 : World} (hd0 : ∀ k, ι0 k ≠ none → k < M.pre.length ∨ Zdn k) (n : Nat)
  (ih : ∀ m, m ≤ n → ∀ x, Z2 M.step m x = some r → ∀ Nx, M.Outer P r ι0 w0 m (Zl (M.code (M.hd x)).2) Nx → ∀ gv a w, M.AtM P ι0 w0 x gv a w → M.Good P r ι0 w0 m x Nx a w)
  {K0 : List Zbz} {Nx : Nat → Act → World → Prop} (hNx : M.Outer P r ι0 w0 (n + 1) (Zl K0) Nx) {st : StopC} {y : M.X ⊕ M.R} (hto : M.To K0 st y) (hy : M.after n y = some r)
  {ι : Ren} {a : Act} {w : World} (hS : Step P ι0 (lk M.pre) w0 ι st.s.h.get w) : Zgx P M.fn (Fin P ι0 M.pre w0 (M.V r) (M.Po r)) Nx M.fn.ntmps ι a w st := by
 have sub : ∀ {K : List Zbz}, (∀ j ∈ Zl K, j ∈ Zl K0) → M.Outer P r ι0 w0 n (Zl K) Nx := fun {K} hs m z hm hz hl hj gv a w hat => hNx m z (by omega) hz hl (hs _ hj) gv a w hat
 cases st with
 | fin u s =>
  cases y with
  | inl y => exact hto.elim
  | inr r' =>
   obtain ⟨live, hto⟩ := hto
   obtain rfl : r' = r := Option.some.inj hy
   exact fun v' hv => Zmf (hPo r') hd0 hto hS hv
 | next j T s =>
  cases y with
  | inr r' => exact hto.elim
  | inl y =>
   obtain ⟨rfl, hl, hj, live, hk, hi⟩ := hto
   intro hT
   obtain ⟨gv, hat⟩ := ZhA (hH y) hi hk hd0 hT hS
   exact hNx n y (by omega) hy hl hj gv a w hat
 | head b K T s =>
  cases y with
  | inr r' => exact hto.elim
  | inl y =>
   obtain ⟨hl, hc, hsub, live, hk, hi⟩ := hto
   intro hT
   obtain ⟨gv, hat⟩ := ZhA (hH y) hi hk hd0 hT hS
   have e1 : b = (M.code (M.hd y)).1 := congrArg Prod.fst hc
   have e2 : K = (M.code (M.hd y)).2 := congrArg Prod.snd hc
   subst e1 e2
   have := ih n (Nat.le_refl _) y hy Nx (sub hsub) gv a w hat
   unfold Good at this
   rw [hl] at this
   exact wp_loop_rounds n this
 | cut b K T s =>
  cases y with
  | inr r' => exact hto.elim
  | inl y =>
   obtain ⟨hl, hc, hsub, live, hk, hi⟩ := hto
   intro hT
   obtain ⟨gv, hat⟩ := ZhA (hH y) hi hk hd0 hT hS
   have e1 : b = (M.code (M.hd y)).1 := congrArg Prod.fst hc
   have e2 : K = (M.code (M.hd y)).2 := congrArg Prod.snd hc
   subst e1 e2
   have := ih n (Nat.le_refl _) y hy Nx (sub hsub) gv a w hat
   unfold Good at this
   rw [hl] at this
   exact this
theorem rounds (F : Fit P ext) (M : Mach) (hH : ∀ x, (M.H x).length ≤ far) (hPo : ∀ r, (M.Po r).length ≤ far) (hK : ∀ x, M.isL (M.hd x) = true → M.hd x ∉ Zl (M.code (M.hd x)).2) (ok : ∀ x, M.Ok P ext x (M.step x)) (r : M.R) {ι0 : Ren} {w0 : World} (hd0 : ∀ k, ι0 k ≠ none → k < M.pre.length ∨ Zdn k) :
  ∀ (n : Nat) (x : M.X), Z2 M.step n x = some r → ∀ Nx, M.Outer P r ι0 w0 n (Zl (M.code (M.hd x)).2) Nx → ∀ gv a w, M.AtM P ι0 w0 x gv a w → M.Good P r ι0 w0 n x Nx a w := by
 intro n
 induction n using Nat.strongRecOn with
 | ind n ih =>
  intro x hx Nx hNx gv a w hat
  cases n with
  | zero => cases hx
  | succ n =>
   have hat0 := hat
   obtain ⟨ι, hT, hS, hfr⟩ := hat
   cases hy : M.step x with
   | none => simp only [Z2, hy] at hx; cases hx
   | some y =>
    obtain ⟨cd, cm, fu, orc, st, hev, ho, hn, hto⟩ := ok x y hy gv
    have hyr : M.after n y = some r := by
     cases y <;> (simp only [Z2, hy] at hx; exact hx)
    have fresh : Fresh ι (M.H x).length st.s.n := ⟨hn, fun k h1 h2 => hfr k h1 (Nat.lt_of_lt_of_le h2 hn)⟩
    have ih' : ∀ m, m ≤ n → ∀ x, Z2 M.step m x = some r → ∀ Nx, M.Outer P r ι0 w0 m (Zl (M.code (M.hd x)).2) Nx → ∀ gv a w, M.AtM P ι0 w0 x gv a w → M.Good P r ι0 w0 m x Nx a w := fun m hm => ih m (by omega)
    have go : ∀ Nx', M.Outer P r ι0 w0 (n + 1) (Zl (M.KK (M.hd x))) Nx' → (M.code (M.hd x)).1.wp P (post P M.fn (Fin P ι0 M.pre w0 (M.V r) (M.Po r)) Nx' (M.KK (M.hd x))) a w := fun Nx' hNx' =>
     (ZhV F (R := Fin P ι0 M.pre w0 (M.V r) (M.Po r)) (Nx := Nx') fu).1 cm _ _ _ _ st hev ho ι a w hT hS.emb fresh fun ι' a' w' g1 _ => run1 M hH hPo r hd0 n ih' hNx' hto hyr (hS.trans g1)
    unfold Good
    cases hl : M.isL (M.hd x) with
    | false =>
     have e : M.KK (M.hd x) = (M.code (M.hd x)).2 := by unfold KK; rw [hl]
     rw [e] at go
     exact go Nx hNx
    | true =>
     have e : M.KK (M.hd x) = .rnd (M.hd x) :: (M.code (M.hd x)).2 := by unfold KK; rw [hl]
     rw [e] at go
     show Code.rounds P _ _ (n + 1) a w
     rw [rounds_succ]
     let Nx' : Nat → Act → World → Prop := fun j => if j = M.hd x then Code.rounds P (M.code (M.hd x)).1 (post P M.fn (Fin P ι0 M.pre w0 (M.V r) (M.Po r)) Nx (M.code (M.hd x)).2) n else Nx j
     have n1 : Nx' (M.hd x) = Code.rounds P (M.code (M.hd x)).1 (post P M.fn (Fin P ι0 M.pre w0 (M.V r) (M.Po r)) Nx (M.code (M.hd x)).2) n := if_pos rfl
     have n2 : ∀ j, j ≠ M.hd x → Nx' j = Nx j := fun j hj => if_neg hj
     have hp : post P M.fn (Fin P ι0 M.pre w0 (M.V r) (M.Po r)) Nx' (M.code (M.hd x)).2 = post P M.fn (Fin P ι0 M.pre w0 (M.V r) (M.Po r)) Nx (M.code (M.hd x)).2 := Zcy fun j hj => n2 j fun e => by subst e; exact hK x hl hj
     have := go Nx' fun m z hm hz hlz hj gv a w hat => by
      by_cases hzx : M.hd z = M.hd x
      ·rw [hzx, n1]
       have := ih m (by omega) z hz Nx (fun m' z' h1 h2 h3 h4 => hNx m' z' (by omega) h2 h3 (by rw [hzx] at h4; exact h4)) gv a w hat
       unfold Good at this
       rw [hlz] at this
       rw [hzx] at this
       exact ZhW m n (by omega) a w this
      ·rw [n2 _ hzx]
       rcases List.mem_cons.1 hj with h | h
       ·exact absurd h hzx
       ·exact hNx m z (by omega) hz hlz h gv a w hat
     simp only [post, hp, n1] at this
     exact this
noncomputable def Enter (M : Mach) (P : Program) (ext : FuncId → Option Ext) (A : Array Value) (o : Option (M.X ⊕ M.R)) : Prop :=
 ∀ y, o = some y → ∃ cd cm fu orc st, ZbD P ext M.fn M.fn.ntmps cd fu cm (Zhy M.fn) [] (Zcn 0 A.toList .nil) ⟨ZdQ 0 M.pre, M.pre.length, [], orc, []⟩ = some st ∧ (∀ p ∈ st.s.ob, p.1 = p.2) ∧ st.s.n ≤ far ∧ M.To [] st y
theorem spec (F : Fit P ext) (M : Mach) {f : FuncId} (hfn : P.funcs[f]? = some M.fn) (hb : M.fn.body = some (Zhy M.fn)) {A : Array Value} (hA : Nat.ble A.size M.fn.ntmps = true) (hH : ∀ x, (M.H x).length ≤ far) (hPo : ∀ r, (M.Po r).length ≤ far) (hK : ∀ x, M.isL (M.hd x) = true → M.hd x ∉ Zl (M.code (M.hd x)).2)
  (ok : ∀ x, M.Ok P ext x (M.step x)) {o : Option (M.X ⊕ M.R)} (en : M.Enter P ext A o) {n : Nat} {r : M.R} (h : goM M.step n o = some r) : LSpec P f A M.pre (M.V r) (M.Po r) := by
 cases o with
 | none => cases h
 | some y =>
  obtain ⟨cd, cm, fu, orc, st, hev, ho, hn, hto⟩ := en y rfl
  refine ZkM F hfn hb hA hev ho hn fun ι0 w0 hd ι' a' w' hS => ?_
  exact run1 M hH hPo r hd n (fun m _ => rounds F M hH hPo hK ok r hd m) (K0 := []) (fun m z _ _ _ hj => by cases hj) hto (by cases y <;> exact h) hS
end
/-! ### How leaves are written -/
section
variable {P : Program} {ext : FuncId → Option Ext} {M : Mach} {x : M.X} {cd cm fu : Nat} {orc : Orc} {live : List Nat} {bl : List (Option AObj)} {ob : List (Bool × Bool)}
theorem ok_none : M.Ok P ext x none := fun _ h => by cases h
theorem ok_ite {c : Prop} [Decidable c] {A B : Option (M.X ⊕ M.R)} (h1 : c → M.Ok P ext x A) (h2 : ¬ c → M.Ok P ext x B) : M.Ok P ext x (if c then A else B) := by
 by_cases h : c
 ·rw [if_pos h]; exact h1 h
 ·rw [if_neg h]; exact h2 h
theorem ok_fin {r : M.R} {u : Value} (hev : ∀ gv, ZhF live (M.Start x gv P ext cd cm fu orc) = some (u, bl, ob)) (ho : ∀ p ∈ ob, p.1 = p.2) (hl : live.length = (M.Po r).length) (hn : live.Nodup) (hk : ZcF M.pre.length live = true) (hv : M.V r = Za2 (rho live far) 3 u ∧ ZR 3 u = true) (hbl : ZbW (rho live far) bl (M.Po r)) : M.Ok P ext x (some (.inr r)) := by
 intro y hy gv
 obtain rfl := Option.some.inj hy
 obtain ⟨s, h1, rfl, rfl, h4⟩ := Zja (hev gv)
 exact ⟨cd, cm, fu, orc, _, h1, ho, h4, live, hl, hn, hk, hv, ZdR hbl⟩
theorem ok_next {y : M.X} {tv : (Nat → Value) → List (Option Value)} (hL : M.isL (M.hd y) = true) (hr : M.hd y ∈ Zl (M.KK (M.hd x))) (hev : ∀ gv, ZgZ (M.hd y) live ((M.L y).map (·.1)) (M.Start x gv P ext cd cm fu orc) = some (tv gv, bl, ob)) (ho : ∀ p ∈ ob, p.1 = p.2) (hl : live.length = (M.H y).length) (hn : live.Nodup) (hk : ZcF M.pre.length live = true) (ht : ∀ gv, Zd6 (rho live far) (tv gv) (M.L y)) (hbl : ZbW (rho live far) bl (M.H y)) : M.Ok P ext x (some (.inl y)) := by
 intro y' hy gv
 obtain rfl := Option.some.inj hy
 obtain ⟨T, s, h1, h2, rfl, rfl, h4⟩ := Zif (hev gv)
 exact ⟨cd, cm, fu, orc, _, h1, ho, h4, rfl, hL, hr, live, hk, Zha hl hn (h2 ▸ ht gv) hbl⟩
theorem ok_head {y : M.X} {tv : (Nat → Value) → List (Option Value)} {bK : Code × List Zbz} (hL : M.isL (M.hd y) = true) (hr : bK = M.code (M.hd y)) (hsub : ∀ j ∈ Zl (M.code (M.hd y)).2, j ∈ Zl (M.KK (M.hd x))) (hev : ∀ gv, Zf9 live ((M.L y).map (·.1)) (M.Start x gv P ext cd cm fu orc) = some (bK, tv gv, bl, ob)) (ho : ∀ p ∈ ob, p.1 = p.2) (hl : live.length = (M.H y).length) (hn : live.Nodup) (hk : ZcF M.pre.length live = true) (ht : ∀ gv, Zd6 (rho live far) (tv gv) (M.L y)) (hbl : ZbW (rho live far) bl (M.H y)) : M.Ok P ext x (some (.inl y)) := by
 intro y' hy gv
 obtain rfl := Option.some.inj hy
 obtain ⟨T, s, h1, h2, rfl, rfl, h4⟩ := ZfL (hev gv)
 exact ⟨cd, cm, fu, orc, _, h1, ho, h4, hL, hr, by rw [hr]; exact hsub, live, hk, Zha hl hn (h2 ▸ ht gv) hbl⟩
variable {A : Array Value}
noncomputable def startE (M : Mach) (P : Program) (ext : FuncId → Option Ext) (A : Array Value) (cd cm fu : Nat) (orc : Orc) : Option StopC :=
 ZbD P ext M.fn M.fn.ntmps cd fu cm (Zhy M.fn) [] (Zcn 0 A.toList .nil) ⟨ZdQ 0 M.pre, M.pre.length, [], orc, []⟩
theorem en_none : M.Enter P ext A none := fun _ h => by cases h
theorem en_ite {c : Prop} [Decidable c] {B C : Option (M.X ⊕ M.R)} (h1 : c → M.Enter P ext A B) (h2 : ¬ c → M.Enter P ext A C) : M.Enter P ext A (if c then B else C) := by
 by_cases h : c
 ·rw [if_pos h]; exact h1 h
 ·rw [if_neg h]; exact h2 h
theorem en_head {y : M.X} {tv : List (Option Value)} {bK : Code × List Zbz} (hL : M.isL (M.hd y) = true) (hr : bK = M.code (M.hd y)) (hsub : Zl (M.code (M.hd y)).2 = []) (hev : Zf9 live ((M.L y).map (·.1)) (M.startE P ext A cd cm fu orc) = some (bK, tv, bl, ob)) (ho : ∀ p ∈ ob, p.1 = p.2) (hl : live.length = (M.H y).length) (hn : live.Nodup) (hk : ZcF M.pre.length live = true) (ht : Zd6 (rho live far) tv (M.L y)) (hbl : ZbW (rho live far) bl (M.H y)) : M.Enter P ext A (some (.inl y)) := by
 intro y' hy
 obtain rfl := Option.some.inj hy
 obtain ⟨T, s, h1, rfl, rfl, rfl, h4⟩ := ZfL hev
 exact ⟨cd, cm, fu, orc, _, h1, ho, h4, hL, hr, (fun j hj => by rw [show bK.2 = (M.code (M.hd y)).2 from congrArg Prod.snd hr, hsub] at hj; cases hj), live, hk, Zha hl hn ht hbl⟩
end
end Mach
/-! ### Functions without loops -/
section
variable {P : Program} {ext : FuncId → Option Ext} {fn : Func} {pre : List AObj} {A : Array Value} {R : Type} {V : R → Value} {Po : R → List (Option AObj)} {live : List Nat} {bl : List (Option AObj)} {ob : List (Bool × Bool)} {fu : Nat} {orc : Orc}
end
end Ev
end Go.Proofs.Ytkhbehgikhamdaa
/- Rows of elements of any kind: each element so many cells. -/
namespace Go.Proofs.Ytkhbehgikhamdaa
open Go.RowKit
namespace Ev
def Zdy : List Cell → Bool
 | [] => true
 | .any :: _ => false
 | .i _ :: l => Zdy l
 | .b _ :: l => Zdy l
 | .k _ _ :: l => Zdy l
 | .s _ :: l => Zdy l
 | .m _ _ _ _ :: l => Zdy l
structure Enc (α : Type) where
 cel : α → List Cell
 w : Nat
 dflt : α
 clen : ∀ a, (cel a).length = w
 sure : ∀ a, Zdy (cel a) = true
def Enc.enc {α : Type} (E : Enc α) (a : α) : List Value := ZD (E.cel a)
theorem Enc.len {α : Type} (E : Enc α) (a : α) : (E.enc a).length = E.w := by unfold Enc.enc ZD; rw [List.length_map, E.clen]
def ZbX : Value → Bool
 | .pointer (some ⟨_, _, some _⟩) => true
 | .slice (some ⟨_, _, some _⟩) _ _ => true
 | v => atom v
theorem Zhz : ∀ l : List Cell, Zdy l = true → Zv ZbX (ZD l) = true
 | [], _ => rfl
 | c :: l, h => by
  show (ZbX (ZbI c) && Zv ZbX (ZD l)) = true
  cases c with
  | any => cases h
  | _ => rw [Zhz l h]; rfl
theorem Enc.atoms {α : Type} (E : Enc α) (a : α) : Zv ZbX (E.enc a) = true := Zhz _ (E.sure a)
def Zr {α : Type} (E : Enc α) (L : List α) : List Value := L.flatMap E.enc
def rowC {α : Type} (E : Enc α) (L : List α) : List Cell := L.flatMap E.cel
section
variable {α : Type} {E : Enc α}
theorem ZfA : Zr E [] = [] := rfl
theorem Zc9 (x : α) (L : List α) : Zr E (x :: L) = E.enc x ++ Zr E L := rfl
theorem Zlr (L M : List α) : Zr E (L ++ M) = Zr E L ++ Zr E M := by simp [Zr]
theorem Zjb : ∀ L : List α, (Zr E L).length = L.length * E.w
 | [] => by simp [ZfA]
 | x :: L => by rw [Zc9, List.length_append, Zjb L, E.len, List.length_cons, Nat.add_mul, Nat.one_mul, Nat.add_comm]
theorem ZhX : ∀ (i : Nat) (L : List α), (Zr E L).drop (i * E.w) = Zr E (L.drop i)
 | 0, L => by simp
 | i + 1, [] => by simp [ZfA]
 | i + 1, x :: L => by
  rw [Zc9, List.drop_succ_cons, ← ZhX i L, Nat.add_mul, Nat.one_mul, Nat.add_comm, ← List.drop_drop, ← E.len x, List.drop_left]
theorem ZhY : ∀ (i : Nat) (L : List α), (Zr E L).take (i * E.w) = Zr E (L.take i)
 | 0, L => by simp [ZfA]
 | i + 1, [] => by simp [ZfA]
 | i + 1, x :: L => by
  rw [Zc9, List.take_succ_cons, Zc9, ← ZhY i L, Nat.add_mul, Nat.one_mul, Nat.add_comm, List.take_append, E.len]
  rw [List.take_of_length_le (by rw [E.len]; omega), Nat.add_sub_cancel_left]
theorem ZkO {L : List α} {i : Nat} (h : i < L.length) (d : α) : L.drop i = L.getD i d :: L.drop (i + 1) := by
 rw [List.getD_eq_getElem?_getD, List.getElem?_eq_getElem h, Option.getD_some]
 exact List.drop_eq_getElem_cons h
theorem ZlE {L : List α} {o i q : Nat} (hi : i < L.length) (ho : o = i * E.w + q) (hq : q ≤ E.w) : (Zr E L).drop o = (E.enc (L.getD i E.dflt)).drop q ++ Zr E (L.drop (i + 1)) := by
 subst ho
 rw [← List.drop_drop, ZhX, ZkO hi E.dflt, Zc9, List.drop_append, E.len, Nat.sub_eq_zero_of_le hq, List.drop_zero]
theorem Zjc {β : Type} : ∀ (m : Nat) (l : List β), m ≤ l.length → ZP m l = some (l.take m)
 | 0, l, _ => by simp [ZP]
 | m + 1, [], h => by simp at h
 | m + 1, x :: l, h => by
  simp only [ZP]
  rw [Zjc m l (by simpa using h)]
  rfl
theorem Zls {L : List α} {o i q m : Nat} (hi : i < L.length) (ho : o = i * E.w + q) (hq : q + m ≤ E.w) : ZP m ((Zr E L).drop o) = some (((E.enc (L.getD i E.dflt)).drop q).take m) := by
 have hl := E.len (L.getD i E.dflt)
 rw [ZlE hi ho (by omega), Zjc _ _ (by simp only [List.length_append, List.length_drop, hl]; omega), List.take_append]
 have : m - ((E.enc (L.getD i E.dflt)).drop q).length = 0 := by simp only [List.length_drop, hl]; omega
 rw [this, List.take_zero, List.append_nil]
theorem ZbH : ∀ {cs : List Cell}, Zdy cs = true → Zbt (ZD cs) cs = true
 | [], _ => rfl
 | c :: l, h => by
  cases c with
  | any => cases h
  | i n => show ((n == n) && Zbt (ZD l) l) = true; rw [ZbH (cs := l) h]; simp
  | b q => show ((q == q) && Zbt (ZD l) l) = true; rw [ZbH (cs := l) h]; simp
  | s x => show (dP (x = x) && Zbt (ZD l) l) = true; rw [ZbH (cs := l) h]; simp [dP]
  | m id o n c =>
   show (dP (ZbI (.m id o n c) = ZbI (.m id o n c)) && Zbt (ZD l) l) = true
   rw [ZbH (cs := l) h, Zlu rfl]; rfl
  | k kk n =>
   by_cases hk : kk = .i64
   ·subst hk; show ((decide (IntKind.i64 = IntKind.i64) && (n == n)) && Zbt (ZD l) l) = true; rw [ZbH (cs := l) h]; simp
   ·have e : Zbt (.int kk n :: ZD l) (.k kk n :: l) = ((decide (kk = kk) && (n == n)) && Zbt (ZD l) l) := by cases kk <;> rfl
    show Zbt (.int kk n :: ZD l) (.k kk n :: l) = true
    rw [e, ZbH (cs := l) h]; simp
theorem Zdg {L : List α} {o i q m : Nat} {cs : List Cell} (hi : i < L.length) (ho : o = i * E.w + q) (hq : q + m ≤ E.w) (hs : Zdy cs = true) (hc : ((E.enc (L.getD i E.dflt)).drop q).take m = ZD cs) : Zcz (ZP m ((Zr E L).drop o)) cs = true := by
 rw [Zls hi ho hq, hc]
 exact ZbH hs
theorem Zlt {L M R : List α} {n m : Nat} (hm : m = n * E.w) (hn : n ≤ L.length) (hR : L.take n ++ M = R) : m ≤ (Zr E L).length ∧ (Zr E L).take m ++ Zr E M = Zr E R := by
 subst hm hR
 refine ⟨by rw [Zjb]; exact Nat.mul_le_mul_right _ hn, ?_⟩
 rw [ZhY, Zlr]
/-! ### The same, as told cells -/
/-! ### Such a row is a row of atoms -/
theorem Zgz : ∀ L : List α, Zv ZbX (Zr E L) = true
 | [] => rfl
 | x :: L => by
  have app : ∀ (a b : List Value), Zv ZbX a = true → Zv ZbX b = true → Zv ZbX (a ++ b) = true := by
   intro a b ha hb
   induction a with
   | nil => exact hb
   | cons y a ih =>
    simp only [Zv, Bool.and_eq_true] at ha
    show (ZbX y && Zv ZbX (a ++ b)) = true
    rw [ha.1, ih ha.2]; rfl
  rw [Zc9]
  exact app _ _ (E.atoms x) (Zgz L)
theorem Zjd {p q : Value → Bool} (h : ∀ v, p v = true → q v = true) : ∀ {l : List Value}, Zv p l = true → Zv q l = true
 | [], _ => rfl
 | x :: l, hl => by
  simp only [Zv, Bool.and_eq_true] at hl ⊢
  exact ⟨h x hl.1, Zjd h hl.2⟩
theorem ZgL {v : Value} (h : ZbX v = true) : (∃ k o z, v = .pointer (some ⟨k, o, some z⟩)) ∨ (∃ k o z n c, v = .slice (some ⟨k, o, some z⟩) n c) ∨ atom v = true := by
 unfold ZbX at h
 split at h
 ·exact .inl ⟨_, _, _, rfl⟩
 ·exact .inr (.inl ⟨_, _, _, _, _, rfl⟩)
 ·exact .inr (.inr h)
theorem Zje (d : Nat) {v : Value} (h : ZbX v = true) : ZR d v = true := by
 rcases ZgL h with ⟨k, o, z, rfl⟩ | ⟨k, o, z, n, c, rfl⟩ | h
 ·cases d <;> rfl
 ·cases d <;> rfl
 ·cases v with
  | agg => simp [atom] at h
  | tuple => simp [atom] at h
  | func f a b =>
   cases f with
   | func f =>
    simp only [atom, Bool.and_eq_true, Array.isEmpty_iff] at h
    obtain ⟨rfl, rfl⟩ := h
    cases d <;> rfl
   | _ => simp [atom] at h
  | _ => cases d <;> rfl
theorem Zku {ρ : Nat → Nat} (d : Nat) {v : Value} (h : ZbX v = true) : Za2 ρ d v = v := by
 rcases ZgL h with ⟨k, o, z, rfl⟩ | ⟨k, o, z, n, c, rfl⟩ | h
 ·cases d <;> rfl
 ·cases d <;> rfl
 ·exact Zdf d h
theorem ZlF (ρ : Nat → Nat) (d : Nat) (L : List α) : (Zr E L).map (Za2 ρ d) = Zr E L := by
 have : ∀ l : List Value, Zv ZbX l = true → l.map (Za2 ρ d) = l := fun l => by
  induction l with
  | nil => intro _; rfl
  | cons y l ih =>
   intro h
   simp only [Zv, Bool.and_eq_true] at h
   rw [List.map_cons, ih h.2, Zku d h.1]
 exact this _ (Zgz L)
theorem Zj4 (d : Nat) (L : List α) : Zv (ZR d) (Zr E L) = true := Zjd (fun _ => Zje d) (Zgz L)
theorem Zu (ρ : Nat → Nat) (L : List α) (t : TypeId) : Zg9 ρ (.cells (Zr E L) t) (.cells (Zr E L) t) := ⟨rfl, ⟨[], by rw [ZlF, List.append_nil]⟩, Zj4 1 L⟩
theorem ZT (ρ : Nat → Nat) {c : List Value} {L : List α} (t : TypeId) (h : c = Zr E L) : Zg9 ρ (.cells c t) (.cells (Zr E L) t) := h ▸ Zu ρ L t
end
abbrev vi (x : Int) : Value := .int .i64 x
abbrev vs (k o n c : Nat) : Value := .slice (some ⟨k, o, none⟩) n c
abbrev vp (k o : Nat) : Value := .pointer (some ⟨k, o, none⟩)
theorem bT {a b : Int} (h : a = b) : (a == b) = true := beq_iff_eq.2 h
/-! ### Rows that never change -/
noncomputable abbrev ms {α : Type} (E : Enc α) (L : List α) : Value := .slice (some ⟨code (rowC E L), 0, some 0⟩) L.length L.length
noncomputable abbrev mp {α : Type} (E : Enc α) (L : List α) (o : Nat) : Value := .pointer (some ⟨code (rowC E L), o, some 0⟩)
/-! ### Bytes as strings -/
end Ev
end Go.Proofs.Ytkhbehgikhamdaa
/- Arguments that are slices, opened: the block they lie in, and each element as what is read of it. -/
namespace Go.Proofs.Ytkhbehgikhamdaa
open Go.ChangeShapes Go.WideShapes Go.ChangeAt Go.RowKit Go.Deep
namespace Ev
section
variable {H : Type} {enc : TypeId × Value → H} {P : Program} {w : World}
def DecL (w : World) (cs : List Value) (l : List Cell) : Prop := cs.length = l.length ∧ ∀ (i : Nat) x y, l[i]? = some x → cs[i]? = some y → DecC w x y
theorem DecL.vr {w : World} {cs : List Value} {l : List Cell} (h : DecL w cs l) : VRs (ιMk w) (ZD l).toArray cs.toArray :=
 ⟨by simp [ZD, h.1], fun i x y hx hy => by
  have hx' : (ZD l)[i]? = some x := by simpa using hx
  have hy' : cs[i]? = some y := by simpa using hy
  unfold ZD at hx'
  rw [List.getElem?_map] at hx'
  cases hb : l[i]? with
  | none => rw [hb] at hx'; cases hx'
  | some z =>
   rw [hb] at hx'
   injection hx' with hx'
   subst hx'
   exact (h.2 i z y hb hy').vr⟩
/-! ### Parts of a value, by where they lie among its cells -/
end
end Ev
end Go.Proofs.Ytkhbehgikhamdaa
/- Records, and the program's functions as plain ones. -/
namespace Go.Proofs.Ytkhbehgikhamdaa
open Go.RowKit
namespace Ev
set_option linter.unusedVariables false
structure R_ii where
 a0 : Int
 a1 : Int
def R_ii.z : R_ii := ⟨0, 0⟩
inductive Zg where
 | r0

inductive Zb where
 | h1m0
 | h1m1
 | h1m2
 | h1m3
 | h1m4
 | h1m5
 | h1m6
 | h1m7
 | h1m8
 | h1m9
 | h1m10
 | h1m11
 | h1m12
 | h1m13
 | h1m14
 | h1m15
 | h1m16 (v2 : List R_ii) (v3 : Nat) (v5 : Nat)
 | h1m17 (v2 : List R_ii) (v3 : Nat) (v5 : Nat)
 | h1m18 (v2 : List R_ii) (v3 : Nat) (v5 : Nat)
 | h1m19 (v2 : List R_ii) (v3 : Nat) (v5 : Nat)
 | h1m20 (v2 : List R_ii) (v3 : Nat) (v5 : Nat)
 | h1m21 (v2 : List R_ii) (v3 : Nat) (v5 : Nat)
 | h1m22 (v2 : List R_ii) (v3 : Nat) (v5 : Nat)
 | h1m23 (v2 : List R_ii) (v3 : Nat) (v5 : Nat)
 | h1m24 (v2 : List R_ii) (v3 : Nat) (v5 : Nat)
 | h1m25 (v2 : List R_ii) (v3 : Nat) (v5 : Nat)
 | h1m26 (v2 : List R_ii) (v3 : Nat) (v5 : Nat)
 | h1m27 (v2 : List R_ii) (v3 : Nat) (v5 : Nat)
 | h1m28 (v2 : List R_ii) (v3 : Nat) (v5 : Nat)
 | h1m29 (v2 : List R_ii) (v3 : Nat) (v5 : Nat)
 | h1m30 (v2 : List R_ii) (v3 : Nat) (v5 : Nat)
 | h1m31 (v2 : List R_ii) (v3 : Nat) (v5 : Nat)
 | h2m0
 | h2m1
 | h2m2
 | h2m3
 | h2m4
 | h2m5
 | h2m6
 | h2m7
 | h2m8
 | h2m9
 | h2m10
 | h2m11
 | h2m12
 | h2m13
 | h2m14
 | h2m15
 | h2m16 (v2 : List R_ii) (v3 : Nat) (v4 : Nat) (v7 : Int) (v8 : Nat)
 | h2m17 (v2 : List R_ii) (v3 : Nat) (v4 : Nat) (v7 : Int) (v8 : Nat)
 | h2m18 (v2 : List R_ii) (v3 : Nat) (v4 : Nat) (v7 : Int) (v8 : Nat)
 | h2m19 (v2 : List R_ii) (v3 : Nat) (v4 : Nat) (v7 : Int) (v8 : Nat)
 | h2m20 (v2 : List R_ii) (v3 : Nat) (v4 : Nat) (v7 : Int) (v8 : Nat)
 | h2m21 (v2 : List R_ii) (v3 : Nat) (v4 : Nat) (v7 : Int) (v8 : Nat)
 | h2m22 (v2 : List R_ii) (v3 : Nat) (v4 : Nat) (v7 : Int) (v8 : Nat)
 | h2m23 (v2 : List R_ii) (v3 : Nat) (v4 : Nat) (v7 : Int) (v8 : Nat)
 | h2m24 (v2 : List R_ii) (v3 : Nat) (v4 : Nat) (v7 : Int) (v8 : Nat)
 | h2m25 (v2 : List R_ii) (v3 : Nat) (v4 : Nat) (v7 : Int) (v8 : Nat)
 | h2m26 (v2 : List R_ii) (v3 : Nat) (v4 : Nat) (v7 : Int) (v8 : Nat)
 | h2m27 (v2 : List R_ii) (v3 : Nat) (v4 : Nat) (v7 : Int) (v8 : Nat)
 | h2m28 (v2 : List R_ii) (v3 : Nat) (v4 : Nat) (v7 : Int) (v8 : Nat)
 | h2m29 (v2 : List R_ii) (v3 : Nat) (v4 : Nat) (v7 : Int) (v8 : Nat)
 | h2m30 (v2 : List R_ii) (v3 : Nat) (v4 : Nat) (v7 : Int) (v8 : Nat)
 | h2m31 (v2 : List R_ii) (v3 : Nat) (v4 : Nat) (v7 : Int) (v8 : Nat)

def ZaR (a0 : Int) (a1 : Int) (a2 : Int) (N : Nat) : Option (Zb ⊕ Zg) :=
 if (0 : Int) ≤ a1 then
  if a1 ≤ (255 : Int) then
   some (.inl (.h2m0 : Zb))
  else
  none
 else
 none

def ZaS (a0 : Int) (a1 : Int) (a2 : Int) (N : Nat) : Option (Zb ⊕ Zg) :=
 if (0 : Int) ≤ a1 then
  if a1 ≤ (255 : Int) then
   some (.inl (.h2m1 : Zb))
  else
  none
 else
 none

def ZaT (a0 : Int) (a1 : Int) (a2 : Int) (N : Nat) : Option (Zb ⊕ Zg) :=
 if (0 : Int) ≤ a1 then
  if a1 ≤ (255 : Int) then
   some (.inl (.h2m2 : Zb))
  else
  none
 else
 none

def ZaU (a0 : Int) (a1 : Int) (a2 : Int) (N : Nat) : Option (Zb ⊕ Zg) :=
 if (0 : Int) ≤ a1 then
  if a1 ≤ (255 : Int) then
   some (.inl (.h2m3 : Zb))
  else
  none
 else
 none

def ZaV (a0 : Int) (a1 : Int) (a2 : Int) (N : Nat) : Option (Zb ⊕ Zg) :=
 if (0 : Int) ≤ a1 then
  if a1 ≤ (255 : Int) then
   some (.inl (.h2m4 : Zb))
  else
  none
 else
 none

def ZaW (a0 : Int) (a1 : Int) (a2 : Int) (N : Nat) : Option (Zb ⊕ Zg) :=
 if (0 : Int) ≤ a1 then
  if a1 ≤ (255 : Int) then
   some (.inl (.h2m5 : Zb))
  else
  none
 else
 none

def ZaX (a0 : Int) (a1 : Int) (a2 : Int) (N : Nat) : Option (Zb ⊕ Zg) :=
 if (0 : Int) ≤ a1 then
  if a1 ≤ (255 : Int) then
   some (.inl (.h2m6 : Zb))
  else
  none
 else
 none

def ZaY (a0 : Int) (a1 : Int) (a2 : Int) (N : Nat) : Option (Zb ⊕ Zg) :=
 if (0 : Int) ≤ a1 then
  if a1 ≤ (255 : Int) then
   some (.inl (.h2m7 : Zb))
  else
  none
 else
 none

def ZaZ (a0 : Int) (a1 : Int) (a2 : Int) (N : Nat) : Option (Zb ⊕ Zg) :=
 if (0 : Int) ≤ a1 then
  if a1 ≤ (255 : Int) then
   some (.inl (.h2m8 : Zb))
  else
  none
 else
 none

def Zba (a0 : Int) (a1 : Int) (a2 : Int) (N : Nat) : Option (Zb ⊕ Zg) :=
 if (0 : Int) ≤ a1 then
  if a1 ≤ (255 : Int) then
   some (.inl (.h2m9 : Zb))
  else
  none
 else
 none

def ZaD (a0 : Int) (a1 : Int) (a2 : Int) (N : Nat) : Option (Zb ⊕ Zg) :=
 if (0 : Int) ≤ a1 then
  if a1 ≤ (255 : Int) then
   some (.inl (.h2m10 : Zb))
  else
  none
 else
 none

def ZaE (a0 : Int) (a1 : Int) (a2 : Int) (N : Nat) : Option (Zb ⊕ Zg) :=
 if (0 : Int) ≤ a1 then
  if a1 ≤ (255 : Int) then
   some (.inl (.h2m11 : Zb))
  else
  none
 else
 none

def ZaF (a0 : Int) (a1 : Int) (a2 : Int) (N : Nat) : Option (Zb ⊕ Zg) :=
 if (0 : Int) ≤ a1 then
  if a1 ≤ (255 : Int) then
   some (.inl (.h2m12 : Zb))
  else
  none
 else
 none

def ZaG (a0 : Int) (a1 : Int) (a2 : Int) (N : Nat) : Option (Zb ⊕ Zg) :=
 if (0 : Int) ≤ a1 then
  if a1 ≤ (255 : Int) then
   some (.inl (.h2m13 : Zb))
  else
  none
 else
 none

def ZaH (a0 : Int) (a1 : Int) (a2 : Int) (N : Nat) : Option (Zb ⊕ Zg) :=
 if (0 : Int) ≤ a1 then
  if a1 ≤ (255 : Int) then
   some (.inl (.h2m14 : Zb))
  else
  none
 else
 none

def ZaI (a0 : Int) (a1 : Int) (a2 : Int) (N : Nat) : Option (Zb ⊕ Zg) :=
 if (0 : Int) ≤ a1 then
  if a1 ≤ (255 : Int) then
   some (.inl (.h2m15 : Zb))
  else
  none
 else
 none

def ZU (a0 : Int) (a1 : Int) (a2 : Int) (N : Nat) (v2 : List R_ii) (v3 : Nat) (v5 : Nat) : Option (Zb ⊕ Zg) :=
 if (0 : Int) ≤ a1 then
  if a1 ≤ (255 : Int) then
   if (1 : Int) ≤ (v3 : Int) then
    if (v3 : Int) ≤ (10 : Int) then
     if v2.length = v3 then
      if (v5 : Int) = (v3 : Int) then
       if (v3 : Int) < ((1 : Int) + (a1 % (10 : Int))) then
        some (.inl (.h2m16 (v2) (v3) (0) ((((((v5 + 1) : Nat) : Int) * (1048576 : Int)) + (18 : Int))) ((v5 + 1)) : Zb))
       else
       some (.inr (.r0 : Zg))
      else
      none
     else
     none
    else
    none
   else
   none
  else
  none
 else
 none

def ZV (a0 : Int) (a1 : Int) (a2 : Int) (N : Nat) (v2 : List R_ii) (v3 : Nat) (v5 : Nat) : Option (Zb ⊕ Zg) :=
 if (0 : Int) ≤ a1 then
  if a1 ≤ (255 : Int) then
   if (1 : Int) ≤ (v3 : Int) then
    if (v3 : Int) ≤ (10 : Int) then
     if v2.length = v3 then
      if (v5 : Int) = (v3 : Int) then
       if (v3 : Int) < ((1 : Int) + (a1 % (10 : Int))) then
        some (.inl (.h2m17 (v2) (v3) (0) ((((((v5 + 1) : Nat) : Int) * (1048576 : Int)) + (18 : Int))) ((v5 + 1)) : Zb))
       else
       some (.inr (.r0 : Zg))
      else
      none
     else
     none
    else
    none
   else
   none
  else
  none
 else
 none

def ZW (a0 : Int) (a1 : Int) (a2 : Int) (N : Nat) (v2 : List R_ii) (v3 : Nat) (v5 : Nat) : Option (Zb ⊕ Zg) :=
 if (0 : Int) ≤ a1 then
  if a1 ≤ (255 : Int) then
   if (1 : Int) ≤ (v3 : Int) then
    if (v3 : Int) ≤ (10 : Int) then
     if v2.length = v3 then
      if (v5 : Int) = (v3 : Int) then
       if (v3 : Int) < ((1 : Int) + (a1 % (10 : Int))) then
        some (.inl (.h2m18 (v2) (v3) (0) ((((((v5 + 1) : Nat) : Int) * (1048576 : Int)) + (18 : Int))) ((v5 + 1)) : Zb))
       else
       some (.inr (.r0 : Zg))
      else
      none
     else
     none
    else
    none
   else
   none
  else
  none
 else
 none

def ZX (a0 : Int) (a1 : Int) (a2 : Int) (N : Nat) (v2 : List R_ii) (v3 : Nat) (v5 : Nat) : Option (Zb ⊕ Zg) :=
 if (0 : Int) ≤ a1 then
  if a1 ≤ (255 : Int) then
   if (1 : Int) ≤ (v3 : Int) then
    if (v3 : Int) ≤ (10 : Int) then
     if v2.length = v3 then
      if (v5 : Int) = (v3 : Int) then
       if (v3 : Int) < ((1 : Int) + (a1 % (10 : Int))) then
        some (.inl (.h2m19 (v2) (v3) (0) ((((((v5 + 1) : Nat) : Int) * (1048576 : Int)) + (18 : Int))) ((v5 + 1)) : Zb))
       else
       some (.inr (.r0 : Zg))
      else
      none
     else
     none
    else
    none
   else
   none
  else
  none
 else
 none

def ZY (a0 : Int) (a1 : Int) (a2 : Int) (N : Nat) (v2 : List R_ii) (v3 : Nat) (v5 : Nat) : Option (Zb ⊕ Zg) :=
 if (0 : Int) ≤ a1 then
  if a1 ≤ (255 : Int) then
   if (1 : Int) ≤ (v3 : Int) then
    if (v3 : Int) ≤ (10 : Int) then
     if v2.length = v3 then
      if (v5 : Int) = (v3 : Int) then
       if (v3 : Int) < ((1 : Int) + (a1 % (10 : Int))) then
        some (.inl (.h2m20 (v2) (v3) (0) ((((((v5 + 1) : Nat) : Int) * (1048576 : Int)) + (18 : Int))) ((v5 + 1)) : Zb))
       else
       some (.inr (.r0 : Zg))
      else
      none
     else
     none
    else
    none
   else
   none
  else
  none
 else
 none

def ZZ (a0 : Int) (a1 : Int) (a2 : Int) (N : Nat) (v2 : List R_ii) (v3 : Nat) (v5 : Nat) : Option (Zb ⊕ Zg) :=
 if (0 : Int) ≤ a1 then
  if a1 ≤ (255 : Int) then
   if (1 : Int) ≤ (v3 : Int) then
    if (v3 : Int) ≤ (10 : Int) then
     if v2.length = v3 then
      if (v5 : Int) = (v3 : Int) then
       if (v3 : Int) < ((1 : Int) + (a1 % (10 : Int))) then
        some (.inl (.h2m21 (v2) (v3) (0) ((((((v5 + 1) : Nat) : Int) * (1048576 : Int)) + (18 : Int))) ((v5 + 1)) : Zb))
       else
       some (.inr (.r0 : Zg))
      else
      none
     else
     none
    else
    none
   else
   none
  else
  none
 else
 none

def Zaa (a0 : Int) (a1 : Int) (a2 : Int) (N : Nat) (v2 : List R_ii) (v3 : Nat) (v5 : Nat) : Option (Zb ⊕ Zg) :=
 if (0 : Int) ≤ a1 then
  if a1 ≤ (255 : Int) then
   if (1 : Int) ≤ (v3 : Int) then
    if (v3 : Int) ≤ (10 : Int) then
     if v2.length = v3 then
      if (v5 : Int) = (v3 : Int) then
       if (v3 : Int) < ((1 : Int) + (a1 % (10 : Int))) then
        some (.inl (.h2m22 (v2) (v3) (0) ((((((v5 + 1) : Nat) : Int) * (1048576 : Int)) + (18 : Int))) ((v5 + 1)) : Zb))
       else
       some (.inr (.r0 : Zg))
      else
      none
     else
     none
    else
    none
   else
   none
  else
  none
 else
 none

def Zab (a0 : Int) (a1 : Int) (a2 : Int) (N : Nat) (v2 : List R_ii) (v3 : Nat) (v5 : Nat) : Option (Zb ⊕ Zg) :=
 if (0 : Int) ≤ a1 then
  if a1 ≤ (255 : Int) then
   if (1 : Int) ≤ (v3 : Int) then
    if (v3 : Int) ≤ (10 : Int) then
     if v2.length = v3 then
      if (v5 : Int) = (v3 : Int) then
       if (v3 : Int) < ((1 : Int) + (a1 % (10 : Int))) then
        some (.inl (.h2m23 (v2) (v3) (0) ((((((v5 + 1) : Nat) : Int) * (1048576 : Int)) + (18 : Int))) ((v5 + 1)) : Zb))
       else
       some (.inr (.r0 : Zg))
      else
      none
     else
     none
    else
    none
   else
   none
  else
  none
 else
 none

def Zac (a0 : Int) (a1 : Int) (a2 : Int) (N : Nat) (v2 : List R_ii) (v3 : Nat) (v5 : Nat) : Option (Zb ⊕ Zg) :=
 if (0 : Int) ≤ a1 then
  if a1 ≤ (255 : Int) then
   if (1 : Int) ≤ (v3 : Int) then
    if (v3 : Int) ≤ (10 : Int) then
     if v2.length = v3 then
      if (v5 : Int) = (v3 : Int) then
       if (v3 : Int) < ((1 : Int) + (a1 % (10 : Int))) then
        some (.inl (.h2m24 (v2) (v3) (0) ((((((v5 + 1) : Nat) : Int) * (1048576 : Int)) + (18 : Int))) ((v5 + 1)) : Zb))
       else
       some (.inr (.r0 : Zg))
      else
      none
     else
     none
    else
    none
   else
   none
  else
  none
 else
 none

def Zad (a0 : Int) (a1 : Int) (a2 : Int) (N : Nat) (v2 : List R_ii) (v3 : Nat) (v5 : Nat) : Option (Zb ⊕ Zg) :=
 if (0 : Int) ≤ a1 then
  if a1 ≤ (255 : Int) then
   if (1 : Int) ≤ (v3 : Int) then
    if (v3 : Int) ≤ (10 : Int) then
     if v2.length = v3 then
      if (v5 : Int) = (v3 : Int) then
       if (v3 : Int) < ((1 : Int) + (a1 % (10 : Int))) then
        some (.inl (.h2m25 (v2) (v3) (0) ((((((v5 + 1) : Nat) : Int) * (1048576 : Int)) + (18 : Int))) ((v5 + 1)) : Zb))
       else
       some (.inr (.r0 : Zg))
      else
      none
     else
     none
    else
    none
   else
   none
  else
  none
 else
 none

def Zae (a0 : Int) (a1 : Int) (a2 : Int) (N : Nat) (v2 : List R_ii) (v3 : Nat) (v5 : Nat) : Option (Zb ⊕ Zg) :=
 if (0 : Int) ≤ a1 then
  if a1 ≤ (255 : Int) then
   if (1 : Int) ≤ (v3 : Int) then
    if (v3 : Int) ≤ (10 : Int) then
     if v2.length = v3 then
      if (v5 : Int) = (v3 : Int) then
       if (v3 : Int) < ((1 : Int) + (a1 % (10 : Int))) then
        some (.inl (.h2m26 (v2) (v3) (0) ((((((v5 + 1) : Nat) : Int) * (1048576 : Int)) + (18 : Int))) ((v5 + 1)) : Zb))
       else
       some (.inr (.r0 : Zg))
      else
      none
     else
     none
    else
    none
   else
   none
  else
  none
 else
 none

def Zaf (a0 : Int) (a1 : Int) (a2 : Int) (N : Nat) (v2 : List R_ii) (v3 : Nat) (v5 : Nat) : Option (Zb ⊕ Zg) :=
 if (0 : Int) ≤ a1 then
  if a1 ≤ (255 : Int) then
   if (1 : Int) ≤ (v3 : Int) then
    if (v3 : Int) ≤ (10 : Int) then
     if v2.length = v3 then
      if (v5 : Int) = (v3 : Int) then
       if (v3 : Int) < ((1 : Int) + (a1 % (10 : Int))) then
        some (.inl (.h2m27 (v2) (v3) (0) ((((((v5 + 1) : Nat) : Int) * (1048576 : Int)) + (18 : Int))) ((v5 + 1)) : Zb))
       else
       some (.inr (.r0 : Zg))
      else
      none
     else
     none
    else
    none
   else
   none
  else
  none
 else
 none

def Zag (a0 : Int) (a1 : Int) (a2 : Int) (N : Nat) (v2 : List R_ii) (v3 : Nat) (v5 : Nat) : Option (Zb ⊕ Zg) :=
 if (0 : Int) ≤ a1 then
  if a1 ≤ (255 : Int) then
   if (1 : Int) ≤ (v3 : Int) then
    if (v3 : Int) ≤ (10 : Int) then
     if v2.length = v3 then
      if (v5 : Int) = (v3 : Int) then
       if (v3 : Int) < ((1 : Int) + (a1 % (10 : Int))) then
        some (.inl (.h2m28 (v2) (v3) (0) ((((((v5 + 1) : Nat) : Int) * (1048576 : Int)) + (18 : Int))) ((v5 + 1)) : Zb))
       else
       some (.inr (.r0 : Zg))
      else
      none
     else
     none
    else
    none
   else
   none
  else
  none
 else
 none

def Zah (a0 : Int) (a1 : Int) (a2 : Int) (N : Nat) (v2 : List R_ii) (v3 : Nat) (v5 : Nat) : Option (Zb ⊕ Zg) :=
 if (0 : Int) ≤ a1 then
  if a1 ≤ (255 : Int) then
   if (1 : Int) ≤ (v3 : Int) then
    if (v3 : Int) ≤ (10 : Int) then
     if v2.length = v3 then
      if (v5 : Int) = (v3 : Int) then
       if (v3 : Int) < ((1 : Int) + (a1 % (10 : Int))) then
        some (.inl (.h2m29 (v2) (v3) (0) ((((((v5 + 1) : Nat) : Int) * (1048576 : Int)) + (18 : Int))) ((v5 + 1)) : Zb))
       else
       some (.inr (.r0 : Zg))
      else
      none
     else
     none
    else
    none
   else
   none
  else
  none
 else
 none

def Zai (a0 : Int) (a1 : Int) (a2 : Int) (N : Nat) (v2 : List R_ii) (v3 : Nat) (v5 : Nat) : Option (Zb ⊕ Zg) :=
 if (0 : Int) ≤ a1 then
  if a1 ≤ (255 : Int) then
   if (1 : Int) ≤ (v3 : Int) then
    if (v3 : Int) ≤ (10 : Int) then
     if v2.length = v3 then
      if (v5 : Int) = (v3 : Int) then
       if (v3 : Int) < ((1 : Int) + (a1 % (10 : Int))) then
        some (.inl (.h2m30 (v2) (v3) (0) ((((((v5 + 1) : Nat) : Int) * (1048576 : Int)) + (18 : Int))) ((v5 + 1)) : Zb))
       else
       some (.inr (.r0 : Zg))
      else
      none
     else
     none
    else
    none
   else
   none
  else
  none
 else
 none

def Zaj (a0 : Int) (a1 : Int) (a2 : Int) (N : Nat) (v2 : List R_ii) (v3 : Nat) (v5 : Nat) : Option (Zb ⊕ Zg) :=
 if (0 : Int) ≤ a1 then
  if a1 ≤ (255 : Int) then
   if (1 : Int) ≤ (v3 : Int) then
    if (v3 : Int) ≤ (10 : Int) then
     if v2.length = v3 then
      if (v5 : Int) = (v3 : Int) then
       if (v3 : Int) < ((1 : Int) + (a1 % (10 : Int))) then
        some (.inl (.h2m31 (v2) (v3) (0) ((((((v5 + 1) : Nat) : Int) * (1048576 : Int)) + (18 : Int))) ((v5 + 1)) : Zb))
       else
       some (.inr (.r0 : Zg))
      else
      none
     else
     none
    else
    none
   else
   none
  else
  none
 else
 none

def Zbb (a0 : Int) (a1 : Int) (a2 : Int) (N : Nat) : Option (Zb ⊕ Zg) :=
 if (0 : Int) ≤ a1 then
  if a1 ≤ (255 : Int) then
   some (.inl (.h1m16 (([(⟨(2 : Int), (1048594 : Int)⟩ : R_ii)] : List R_ii)) (1) (1) : Zb))
  else
  none
 else
 none

def Zbc (a0 : Int) (a1 : Int) (a2 : Int) (N : Nat) : Option (Zb ⊕ Zg) :=
 if (0 : Int) ≤ a1 then
  if a1 ≤ (255 : Int) then
   some (.inl (.h1m17 (([(⟨(2 : Int), (1048594 : Int)⟩ : R_ii)] : List R_ii)) (1) (1) : Zb))
  else
  none
 else
 none

def Zbd (a0 : Int) (a1 : Int) (a2 : Int) (N : Nat) : Option (Zb ⊕ Zg) :=
 if (0 : Int) ≤ a1 then
  if a1 ≤ (255 : Int) then
   some (.inl (.h1m18 (([(⟨(2 : Int), (1048594 : Int)⟩ : R_ii)] : List R_ii)) (1) (1) : Zb))
  else
  none
 else
 none

def Zbe (a0 : Int) (a1 : Int) (a2 : Int) (N : Nat) : Option (Zb ⊕ Zg) :=
 if (0 : Int) ≤ a1 then
  if a1 ≤ (255 : Int) then
   some (.inl (.h1m19 (([(⟨(2 : Int), (1048594 : Int)⟩ : R_ii)] : List R_ii)) (1) (1) : Zb))
  else
  none
 else
 none

def Zbf (a0 : Int) (a1 : Int) (a2 : Int) (N : Nat) : Option (Zb ⊕ Zg) :=
 if (0 : Int) ≤ a1 then
  if a1 ≤ (255 : Int) then
   some (.inl (.h1m20 (([(⟨(2 : Int), (1048594 : Int)⟩ : R_ii)] : List R_ii)) (1) (1) : Zb))
  else
  none
 else
 none

def Zbg (a0 : Int) (a1 : Int) (a2 : Int) (N : Nat) : Option (Zb ⊕ Zg) :=
 if (0 : Int) ≤ a1 then
  if a1 ≤ (255 : Int) then
   some (.inl (.h1m21 (([(⟨(2 : Int), (1048594 : Int)⟩ : R_ii)] : List R_ii)) (1) (1) : Zb))
  else
  none
 else
 none

def Zbh (a0 : Int) (a1 : Int) (a2 : Int) (N : Nat) : Option (Zb ⊕ Zg) :=
 if (0 : Int) ≤ a1 then
  if a1 ≤ (255 : Int) then
   some (.inl (.h1m22 (([(⟨(2 : Int), (1048594 : Int)⟩ : R_ii)] : List R_ii)) (1) (1) : Zb))
  else
  none
 else
 none

def Zbi (a0 : Int) (a1 : Int) (a2 : Int) (N : Nat) : Option (Zb ⊕ Zg) :=
 if (0 : Int) ≤ a1 then
  if a1 ≤ (255 : Int) then
   some (.inl (.h1m23 (([(⟨(2 : Int), (1048594 : Int)⟩ : R_ii)] : List R_ii)) (1) (1) : Zb))
  else
  none
 else
 none

def Zbj (a0 : Int) (a1 : Int) (a2 : Int) (N : Nat) : Option (Zb ⊕ Zg) :=
 if (0 : Int) ≤ a1 then
  if a1 ≤ (255 : Int) then
   some (.inl (.h1m24 (([(⟨(2 : Int), (1048594 : Int)⟩ : R_ii)] : List R_ii)) (1) (1) : Zb))
  else
  none
 else
 none

def Zbk (a0 : Int) (a1 : Int) (a2 : Int) (N : Nat) : Option (Zb ⊕ Zg) :=
 if (0 : Int) ≤ a1 then
  if a1 ≤ (255 : Int) then
   some (.inl (.h1m25 (([(⟨(2 : Int), (1048594 : Int)⟩ : R_ii)] : List R_ii)) (1) (1) : Zb))
  else
  none
 else
 none

def ZaJ (a0 : Int) (a1 : Int) (a2 : Int) (N : Nat) : Option (Zb ⊕ Zg) :=
 if (0 : Int) ≤ a1 then
  if a1 ≤ (255 : Int) then
   some (.inl (.h1m26 (([(⟨(2 : Int), (1048594 : Int)⟩ : R_ii)] : List R_ii)) (1) (1) : Zb))
  else
  none
 else
 none

def ZaK (a0 : Int) (a1 : Int) (a2 : Int) (N : Nat) : Option (Zb ⊕ Zg) :=
 if (0 : Int) ≤ a1 then
  if a1 ≤ (255 : Int) then
   some (.inl (.h1m27 (([(⟨(2 : Int), (1048594 : Int)⟩ : R_ii)] : List R_ii)) (1) (1) : Zb))
  else
  none
 else
 none

def ZaL (a0 : Int) (a1 : Int) (a2 : Int) (N : Nat) : Option (Zb ⊕ Zg) :=
 if (0 : Int) ≤ a1 then
  if a1 ≤ (255 : Int) then
   some (.inl (.h1m28 (([(⟨(2 : Int), (1048594 : Int)⟩ : R_ii)] : List R_ii)) (1) (1) : Zb))
  else
  none
 else
 none

def ZaM (a0 : Int) (a1 : Int) (a2 : Int) (N : Nat) : Option (Zb ⊕ Zg) :=
 if (0 : Int) ≤ a1 then
  if a1 ≤ (255 : Int) then
   some (.inl (.h1m29 (([(⟨(2 : Int), (1048594 : Int)⟩ : R_ii)] : List R_ii)) (1) (1) : Zb))
  else
  none
 else
 none

def ZaN (a0 : Int) (a1 : Int) (a2 : Int) (N : Nat) : Option (Zb ⊕ Zg) :=
 if (0 : Int) ≤ a1 then
  if a1 ≤ (255 : Int) then
   some (.inl (.h1m30 (([(⟨(2 : Int), (1048594 : Int)⟩ : R_ii)] : List R_ii)) (1) (1) : Zb))
  else
  none
 else
 none

def ZaO (a0 : Int) (a1 : Int) (a2 : Int) (N : Nat) : Option (Zb ⊕ Zg) :=
 if (0 : Int) ≤ a1 then
  if a1 ≤ (255 : Int) then
   some (.inl (.h1m31 (([(⟨(2 : Int), (1048594 : Int)⟩ : R_ii)] : List R_ii)) (1) (1) : Zb))
  else
  none
 else
 none

def Zak (a0 : Int) (a1 : Int) (a2 : Int) (N : Nat) (v2 : List R_ii) (v3 : Nat) (v4 : Nat) (v7 : Int) (v8 : Nat) : Option (Zb ⊕ Zg) :=
 if (0 : Int) ≤ a1 then
  if a1 ≤ (255 : Int) then
   if (1 : Int) ≤ (v3 : Int) then
    if (v3 : Int) ≤ (10 : Int) then
     if v2.length = v3 then
      if (v3 : Int) ≤ (9 : Int) then
       if (v8 : Int) = (((v3 + 1) : Nat) : Int) then
        if v7 = (((v8 : Int) * (1048576 : Int)) + (18 : Int)) then
         if (v4 : Int) < (v2.length : Int) then
          if ¬ ((v2.getD v4 R_ii.z).a0 = (2 : Int)) then
           none
          else
          if ¬ ((v2.getD v4 R_ii.z).a1 = (0 : Int)) then
           if (0 : Int) < (v2.getD v4 R_ii.z).a1 then
            if ((v2.getD v4 R_ii.z).a1 / (1048576 : Int)) ≤ (9223372036854775807 : Int) then
             if (1 : Int) ≤ ((v2.getD v4 R_ii.z).a1 / (1048576 : Int)) then
              if ((v2.getD v4 R_ii.z).a1 / (1048576 : Int)) ≤ (1073741824 : Int) then
               if (1 : Int) ≤ ((v2.getD v4 R_ii.z).a1 % (1048576 : Int)) then
                if ((v2.getD v4 R_ii.z).a1 % (1048576 : Int)) = (18 : Int) then
                 if ¬ ((v8 : Int) = ((v2.getD v4 R_ii.z).a1 / (1048576 : Int))) then
                  some (.inl (.h2m16 (v2) (v3) ((v4 + 1)) (v7) (v8) : Zb))
                 else
                 none
                else
                none
               else
               none
              else
              none
             else
             none
            else
            none
           else
           none
          else
          none
         else
         some (.inl (.h1m16 ((v2 ++ ([(⟨(2 : Int), v7⟩ : R_ii)] : List R_ii))) ((v3 + 1)) (v8) : Zb))
        else
        none
       else
       none
      else
      none
     else
     none
    else
    none
   else
   none
  else
  none
 else
 none

def Zal (a0 : Int) (a1 : Int) (a2 : Int) (N : Nat) (v2 : List R_ii) (v3 : Nat) (v4 : Nat) (v7 : Int) (v8 : Nat) : Option (Zb ⊕ Zg) :=
 if (0 : Int) ≤ a1 then
  if a1 ≤ (255 : Int) then
   if (1 : Int) ≤ (v3 : Int) then
    if (v3 : Int) ≤ (10 : Int) then
     if v2.length = v3 then
      if (v3 : Int) ≤ (9 : Int) then
       if (v8 : Int) = (((v3 + 1) : Nat) : Int) then
        if v7 = (((v8 : Int) * (1048576 : Int)) + (18 : Int)) then
         if (v4 : Int) < (v2.length : Int) then
          if ¬ ((v2.getD v4 R_ii.z).a0 = (2 : Int)) then
           none
          else
          if ¬ ((v2.getD v4 R_ii.z).a1 = (0 : Int)) then
           if (0 : Int) < (v2.getD v4 R_ii.z).a1 then
            if ((v2.getD v4 R_ii.z).a1 / (1048576 : Int)) ≤ (9223372036854775807 : Int) then
             if (1 : Int) ≤ ((v2.getD v4 R_ii.z).a1 / (1048576 : Int)) then
              if ((v2.getD v4 R_ii.z).a1 / (1048576 : Int)) ≤ (1073741824 : Int) then
               if (1 : Int) ≤ ((v2.getD v4 R_ii.z).a1 % (1048576 : Int)) then
                if ((v2.getD v4 R_ii.z).a1 % (1048576 : Int)) = (18 : Int) then
                 if ¬ ((v8 : Int) = ((v2.getD v4 R_ii.z).a1 / (1048576 : Int))) then
                  some (.inl (.h2m17 (v2) (v3) ((v4 + 1)) (v7) (v8) : Zb))
                 else
                 none
                else
                none
               else
               none
              else
              none
             else
             none
            else
            none
           else
           none
          else
          none
         else
         some (.inl (.h1m17 ((v2 ++ ([(⟨(2 : Int), v7⟩ : R_ii)] : List R_ii))) ((v3 + 1)) (v8) : Zb))
        else
        none
       else
       none
      else
      none
     else
     none
    else
    none
   else
   none
  else
  none
 else
 none

def Zam (a0 : Int) (a1 : Int) (a2 : Int) (N : Nat) (v2 : List R_ii) (v3 : Nat) (v4 : Nat) (v7 : Int) (v8 : Nat) : Option (Zb ⊕ Zg) :=
 if (0 : Int) ≤ a1 then
  if a1 ≤ (255 : Int) then
   if (1 : Int) ≤ (v3 : Int) then
    if (v3 : Int) ≤ (10 : Int) then
     if v2.length = v3 then
      if (v3 : Int) ≤ (9 : Int) then
       if (v8 : Int) = (((v3 + 1) : Nat) : Int) then
        if v7 = (((v8 : Int) * (1048576 : Int)) + (18 : Int)) then
         if (v4 : Int) < (v2.length : Int) then
          if ¬ ((v2.getD v4 R_ii.z).a0 = (2 : Int)) then
           none
          else
          if ¬ ((v2.getD v4 R_ii.z).a1 = (0 : Int)) then
           if (0 : Int) < (v2.getD v4 R_ii.z).a1 then
            if ((v2.getD v4 R_ii.z).a1 / (1048576 : Int)) ≤ (9223372036854775807 : Int) then
             if (1 : Int) ≤ ((v2.getD v4 R_ii.z).a1 / (1048576 : Int)) then
              if ((v2.getD v4 R_ii.z).a1 / (1048576 : Int)) ≤ (1073741824 : Int) then
               if (1 : Int) ≤ ((v2.getD v4 R_ii.z).a1 % (1048576 : Int)) then
                if ((v2.getD v4 R_ii.z).a1 % (1048576 : Int)) = (18 : Int) then
                 if ¬ ((v8 : Int) = ((v2.getD v4 R_ii.z).a1 / (1048576 : Int))) then
                  some (.inl (.h2m18 (v2) (v3) ((v4 + 1)) (v7) (v8) : Zb))
                 else
                 none
                else
                none
               else
               none
              else
              none
             else
             none
            else
            none
           else
           none
          else
          none
         else
         some (.inl (.h1m18 ((v2 ++ ([(⟨(2 : Int), v7⟩ : R_ii)] : List R_ii))) ((v3 + 1)) (v8) : Zb))
        else
        none
       else
       none
      else
      none
     else
     none
    else
    none
   else
   none
  else
  none
 else
 none

def Zan (a0 : Int) (a1 : Int) (a2 : Int) (N : Nat) (v2 : List R_ii) (v3 : Nat) (v4 : Nat) (v7 : Int) (v8 : Nat) : Option (Zb ⊕ Zg) :=
 if (0 : Int) ≤ a1 then
  if a1 ≤ (255 : Int) then
   if (1 : Int) ≤ (v3 : Int) then
    if (v3 : Int) ≤ (10 : Int) then
     if v2.length = v3 then
      if (v3 : Int) ≤ (9 : Int) then
       if (v8 : Int) = (((v3 + 1) : Nat) : Int) then
        if v7 = (((v8 : Int) * (1048576 : Int)) + (18 : Int)) then
         if (v4 : Int) < (v2.length : Int) then
          if ¬ ((v2.getD v4 R_ii.z).a0 = (2 : Int)) then
           none
          else
          if ¬ ((v2.getD v4 R_ii.z).a1 = (0 : Int)) then
           if (0 : Int) < (v2.getD v4 R_ii.z).a1 then
            if ((v2.getD v4 R_ii.z).a1 / (1048576 : Int)) ≤ (9223372036854775807 : Int) then
             if (1 : Int) ≤ ((v2.getD v4 R_ii.z).a1 / (1048576 : Int)) then
              if ((v2.getD v4 R_ii.z).a1 / (1048576 : Int)) ≤ (1073741824 : Int) then
               if (1 : Int) ≤ ((v2.getD v4 R_ii.z).a1 % (1048576 : Int)) then
                if ((v2.getD v4 R_ii.z).a1 % (1048576 : Int)) = (18 : Int) then
                 if ¬ ((v8 : Int) = ((v2.getD v4 R_ii.z).a1 / (1048576 : Int))) then
                  some (.inl (.h2m19 (v2) (v3) ((v4 + 1)) (v7) (v8) : Zb))
                 else
                 none
                else
                none
               else
               none
              else
              none
             else
             none
            else
            none
           else
           none
          else
          none
         else
         some (.inl (.h1m19 ((v2 ++ ([(⟨(2 : Int), v7⟩ : R_ii)] : List R_ii))) ((v3 + 1)) (v8) : Zb))
        else
        none
       else
       none
      else
      none
     else
     none
    else
    none
   else
   none
  else
  none
 else
 none

def Zao (a0 : Int) (a1 : Int) (a2 : Int) (N : Nat) (v2 : List R_ii) (v3 : Nat) (v4 : Nat) (v7 : Int) (v8 : Nat) : Option (Zb ⊕ Zg) :=
 if (0 : Int) ≤ a1 then
  if a1 ≤ (255 : Int) then
   if (1 : Int) ≤ (v3 : Int) then
    if (v3 : Int) ≤ (10 : Int) then
     if v2.length = v3 then
      if (v3 : Int) ≤ (9 : Int) then
       if (v8 : Int) = (((v3 + 1) : Nat) : Int) then
        if v7 = (((v8 : Int) * (1048576 : Int)) + (18 : Int)) then
         if (v4 : Int) < (v2.length : Int) then
          if ¬ ((v2.getD v4 R_ii.z).a0 = (2 : Int)) then
           none
          else
          if ¬ ((v2.getD v4 R_ii.z).a1 = (0 : Int)) then
           if (0 : Int) < (v2.getD v4 R_ii.z).a1 then
            if ((v2.getD v4 R_ii.z).a1 / (1048576 : Int)) ≤ (9223372036854775807 : Int) then
             if (1 : Int) ≤ ((v2.getD v4 R_ii.z).a1 / (1048576 : Int)) then
              if ((v2.getD v4 R_ii.z).a1 / (1048576 : Int)) ≤ (1073741824 : Int) then
               if (1 : Int) ≤ ((v2.getD v4 R_ii.z).a1 % (1048576 : Int)) then
                if ((v2.getD v4 R_ii.z).a1 % (1048576 : Int)) = (18 : Int) then
                 if ¬ ((v8 : Int) = ((v2.getD v4 R_ii.z).a1 / (1048576 : Int))) then
                  some (.inl (.h2m20 (v2) (v3) ((v4 + 1)) (v7) (v8) : Zb))
                 else
                 none
                else
                none
               else
               none
              else
              none
             else
             none
            else
            none
           else
           none
          else
          none
         else
         some (.inl (.h1m20 ((v2 ++ ([(⟨(2 : Int), v7⟩ : R_ii)] : List R_ii))) ((v3 + 1)) (v8) : Zb))
        else
        none
       else
       none
      else
      none
     else
     none
    else
    none
   else
   none
  else
  none
 else
 none

def Zap (a0 : Int) (a1 : Int) (a2 : Int) (N : Nat) (v2 : List R_ii) (v3 : Nat) (v4 : Nat) (v7 : Int) (v8 : Nat) : Option (Zb ⊕ Zg) :=
 if (0 : Int) ≤ a1 then
  if a1 ≤ (255 : Int) then
   if (1 : Int) ≤ (v3 : Int) then
    if (v3 : Int) ≤ (10 : Int) then
     if v2.length = v3 then
      if (v3 : Int) ≤ (9 : Int) then
       if (v8 : Int) = (((v3 + 1) : Nat) : Int) then
        if v7 = (((v8 : Int) * (1048576 : Int)) + (18 : Int)) then
         if (v4 : Int) < (v2.length : Int) then
          if ¬ ((v2.getD v4 R_ii.z).a0 = (2 : Int)) then
           none
          else
          if ¬ ((v2.getD v4 R_ii.z).a1 = (0 : Int)) then
           if (0 : Int) < (v2.getD v4 R_ii.z).a1 then
            if ((v2.getD v4 R_ii.z).a1 / (1048576 : Int)) ≤ (9223372036854775807 : Int) then
             if (1 : Int) ≤ ((v2.getD v4 R_ii.z).a1 / (1048576 : Int)) then
              if ((v2.getD v4 R_ii.z).a1 / (1048576 : Int)) ≤ (1073741824 : Int) then
               if (1 : Int) ≤ ((v2.getD v4 R_ii.z).a1 % (1048576 : Int)) then
                if ((v2.getD v4 R_ii.z).a1 % (1048576 : Int)) = (18 : Int) then
                 if ¬ ((v8 : Int) = ((v2.getD v4 R_ii.z).a1 / (1048576 : Int))) then
                  some (.inl (.h2m21 (v2) (v3) ((v4 + 1)) (v7) (v8) : Zb))
                 else
                 none
                else
                none
               else
               none
              else
              none
             else
             none
            else
            none
           else
           none
          else
          none
         else
         some (.inl (.h1m21 ((v2 ++ ([(⟨(2 : Int), v7⟩ : R_ii)] : List R_ii))) ((v3 + 1)) (v8) : Zb))
        else
        none
       else
       none
      else
      none
     else
     none
    else
    none
   else
   none
  else
  none
 else
 none

def Zaq (a0 : Int) (a1 : Int) (a2 : Int) (N : Nat) (v2 : List R_ii) (v3 : Nat) (v4 : Nat) (v7 : Int) (v8 : Nat) : Option (Zb ⊕ Zg) :=
 if (0 : Int) ≤ a1 then
  if a1 ≤ (255 : Int) then
   if (1 : Int) ≤ (v3 : Int) then
    if (v3 : Int) ≤ (10 : Int) then
     if v2.length = v3 then
      if (v3 : Int) ≤ (9 : Int) then
       if (v8 : Int) = (((v3 + 1) : Nat) : Int) then
        if v7 = (((v8 : Int) * (1048576 : Int)) + (18 : Int)) then
         if (v4 : Int) < (v2.length : Int) then
          if ¬ ((v2.getD v4 R_ii.z).a0 = (2 : Int)) then
           none
          else
          if ¬ ((v2.getD v4 R_ii.z).a1 = (0 : Int)) then
           if (0 : Int) < (v2.getD v4 R_ii.z).a1 then
            if ((v2.getD v4 R_ii.z).a1 / (1048576 : Int)) ≤ (9223372036854775807 : Int) then
             if (1 : Int) ≤ ((v2.getD v4 R_ii.z).a1 / (1048576 : Int)) then
              if ((v2.getD v4 R_ii.z).a1 / (1048576 : Int)) ≤ (1073741824 : Int) then
               if (1 : Int) ≤ ((v2.getD v4 R_ii.z).a1 % (1048576 : Int)) then
                if ((v2.getD v4 R_ii.z).a1 % (1048576 : Int)) = (18 : Int) then
                 if ¬ ((v8 : Int) = ((v2.getD v4 R_ii.z).a1 / (1048576 : Int))) then
                  some (.inl (.h2m22 (v2) (v3) ((v4 + 1)) (v7) (v8) : Zb))
                 else
                 none
                else
                none
               else
               none
              else
              none
             else
             none
            else
            none
           else
           none
          else
          none
         else
         some (.inl (.h1m22 ((v2 ++ ([(⟨(2 : Int), v7⟩ : R_ii)] : List R_ii))) ((v3 + 1)) (v8) : Zb))
        else
        none
       else
       none
      else
      none
     else
     none
    else
    none
   else
   none
  else
  none
 else
 none

def Zar (a0 : Int) (a1 : Int) (a2 : Int) (N : Nat) (v2 : List R_ii) (v3 : Nat) (v4 : Nat) (v7 : Int) (v8 : Nat) : Option (Zb ⊕ Zg) :=
 if (0 : Int) ≤ a1 then
  if a1 ≤ (255 : Int) then
   if (1 : Int) ≤ (v3 : Int) then
    if (v3 : Int) ≤ (10 : Int) then
     if v2.length = v3 then
      if (v3 : Int) ≤ (9 : Int) then
       if (v8 : Int) = (((v3 + 1) : Nat) : Int) then
        if v7 = (((v8 : Int) * (1048576 : Int)) + (18 : Int)) then
         if (v4 : Int) < (v2.length : Int) then
          if ¬ ((v2.getD v4 R_ii.z).a0 = (2 : Int)) then
           none
          else
          if ¬ ((v2.getD v4 R_ii.z).a1 = (0 : Int)) then
           if (0 : Int) < (v2.getD v4 R_ii.z).a1 then
            if ((v2.getD v4 R_ii.z).a1 / (1048576 : Int)) ≤ (9223372036854775807 : Int) then
             if (1 : Int) ≤ ((v2.getD v4 R_ii.z).a1 / (1048576 : Int)) then
              if ((v2.getD v4 R_ii.z).a1 / (1048576 : Int)) ≤ (1073741824 : Int) then
               if (1 : Int) ≤ ((v2.getD v4 R_ii.z).a1 % (1048576 : Int)) then
                if ((v2.getD v4 R_ii.z).a1 % (1048576 : Int)) = (18 : Int) then
                 if ¬ ((v8 : Int) = ((v2.getD v4 R_ii.z).a1 / (1048576 : Int))) then
                  some (.inl (.h2m23 (v2) (v3) ((v4 + 1)) (v7) (v8) : Zb))
                 else
                 none
                else
                none
               else
               none
              else
              none
             else
             none
            else
            none
           else
           none
          else
          none
         else
         some (.inl (.h1m23 ((v2 ++ ([(⟨(2 : Int), v7⟩ : R_ii)] : List R_ii))) ((v3 + 1)) (v8) : Zb))
        else
        none
       else
       none
      else
      none
     else
     none
    else
    none
   else
   none
  else
  none
 else
 none

def Zas (a0 : Int) (a1 : Int) (a2 : Int) (N : Nat) (v2 : List R_ii) (v3 : Nat) (v4 : Nat) (v7 : Int) (v8 : Nat) : Option (Zb ⊕ Zg) :=
 if (0 : Int) ≤ a1 then
  if a1 ≤ (255 : Int) then
   if (1 : Int) ≤ (v3 : Int) then
    if (v3 : Int) ≤ (10 : Int) then
     if v2.length = v3 then
      if (v3 : Int) ≤ (9 : Int) then
       if (v8 : Int) = (((v3 + 1) : Nat) : Int) then
        if v7 = (((v8 : Int) * (1048576 : Int)) + (18 : Int)) then
         if (v4 : Int) < (v2.length : Int) then
          if ¬ ((v2.getD v4 R_ii.z).a0 = (2 : Int)) then
           none
          else
          if ¬ ((v2.getD v4 R_ii.z).a1 = (0 : Int)) then
           if (0 : Int) < (v2.getD v4 R_ii.z).a1 then
            if ((v2.getD v4 R_ii.z).a1 / (1048576 : Int)) ≤ (9223372036854775807 : Int) then
             if (1 : Int) ≤ ((v2.getD v4 R_ii.z).a1 / (1048576 : Int)) then
              if ((v2.getD v4 R_ii.z).a1 / (1048576 : Int)) ≤ (1073741824 : Int) then
               if (1 : Int) ≤ ((v2.getD v4 R_ii.z).a1 % (1048576 : Int)) then
                if ((v2.getD v4 R_ii.z).a1 % (1048576 : Int)) = (18 : Int) then
                 if ¬ ((v8 : Int) = ((v2.getD v4 R_ii.z).a1 / (1048576 : Int))) then
                  some (.inl (.h2m24 (v2) (v3) ((v4 + 1)) (v7) (v8) : Zb))
                 else
                 none
                else
                none
               else
               none
              else
              none
             else
             none
            else
            none
           else
           none
          else
          none
         else
         some (.inl (.h1m24 ((v2 ++ ([(⟨(2 : Int), v7⟩ : R_ii)] : List R_ii))) ((v3 + 1)) (v8) : Zb))
        else
        none
       else
       none
      else
      none
     else
     none
    else
    none
   else
   none
  else
  none
 else
 none

def Zat (a0 : Int) (a1 : Int) (a2 : Int) (N : Nat) (v2 : List R_ii) (v3 : Nat) (v4 : Nat) (v7 : Int) (v8 : Nat) : Option (Zb ⊕ Zg) :=
 if (0 : Int) ≤ a1 then
  if a1 ≤ (255 : Int) then
   if (1 : Int) ≤ (v3 : Int) then
    if (v3 : Int) ≤ (10 : Int) then
     if v2.length = v3 then
      if (v3 : Int) ≤ (9 : Int) then
       if (v8 : Int) = (((v3 + 1) : Nat) : Int) then
        if v7 = (((v8 : Int) * (1048576 : Int)) + (18 : Int)) then
         if (v4 : Int) < (v2.length : Int) then
          if ¬ ((v2.getD v4 R_ii.z).a0 = (2 : Int)) then
           none
          else
          if ¬ ((v2.getD v4 R_ii.z).a1 = (0 : Int)) then
           if (0 : Int) < (v2.getD v4 R_ii.z).a1 then
            if ((v2.getD v4 R_ii.z).a1 / (1048576 : Int)) ≤ (9223372036854775807 : Int) then
             if (1 : Int) ≤ ((v2.getD v4 R_ii.z).a1 / (1048576 : Int)) then
              if ((v2.getD v4 R_ii.z).a1 / (1048576 : Int)) ≤ (1073741824 : Int) then
               if (1 : Int) ≤ ((v2.getD v4 R_ii.z).a1 % (1048576 : Int)) then
                if ((v2.getD v4 R_ii.z).a1 % (1048576 : Int)) = (18 : Int) then
                 if ¬ ((v8 : Int) = ((v2.getD v4 R_ii.z).a1 / (1048576 : Int))) then
                  some (.inl (.h2m25 (v2) (v3) ((v4 + 1)) (v7) (v8) : Zb))
                 else
                 none
                else
                none
               else
               none
              else
              none
             else
             none
            else
            none
           else
           none
          else
          none
         else
         some (.inl (.h1m25 ((v2 ++ ([(⟨(2 : Int), v7⟩ : R_ii)] : List R_ii))) ((v3 + 1)) (v8) : Zb))
        else
        none
       else
       none
      else
      none
     else
     none
    else
    none
   else
   none
  else
  none
 else
 none

def Zau (a0 : Int) (a1 : Int) (a2 : Int) (N : Nat) (v2 : List R_ii) (v3 : Nat) (v4 : Nat) (v7 : Int) (v8 : Nat) : Option (Zb ⊕ Zg) :=
 if (0 : Int) ≤ a1 then
  if a1 ≤ (255 : Int) then
   if (1 : Int) ≤ (v3 : Int) then
    if (v3 : Int) ≤ (10 : Int) then
     if v2.length = v3 then
      if (v3 : Int) ≤ (9 : Int) then
       if (v8 : Int) = (((v3 + 1) : Nat) : Int) then
        if v7 = (((v8 : Int) * (1048576 : Int)) + (18 : Int)) then
         if (v4 : Int) < (v2.length : Int) then
          if ¬ ((v2.getD v4 R_ii.z).a0 = (2 : Int)) then
           none
          else
          if ¬ ((v2.getD v4 R_ii.z).a1 = (0 : Int)) then
           if (0 : Int) < (v2.getD v4 R_ii.z).a1 then
            if ((v2.getD v4 R_ii.z).a1 / (1048576 : Int)) ≤ (9223372036854775807 : Int) then
             if (1 : Int) ≤ ((v2.getD v4 R_ii.z).a1 / (1048576 : Int)) then
              if ((v2.getD v4 R_ii.z).a1 / (1048576 : Int)) ≤ (1073741824 : Int) then
               if (1 : Int) ≤ ((v2.getD v4 R_ii.z).a1 % (1048576 : Int)) then
                if ((v2.getD v4 R_ii.z).a1 % (1048576 : Int)) = (18 : Int) then
                 if ¬ ((v8 : Int) = ((v2.getD v4 R_ii.z).a1 / (1048576 : Int))) then
                  some (.inl (.h2m26 (v2) (v3) ((v4 + 1)) (v7) (v8) : Zb))
                 else
                 none
                else
                none
               else
               none
              else
              none
             else
             none
            else
            none
           else
           none
          else
          none
         else
         some (.inl (.h1m26 ((v2 ++ ([(⟨(2 : Int), v7⟩ : R_ii)] : List R_ii))) ((v3 + 1)) (v8) : Zb))
        else
        none
       else
       none
      else
      none
     else
     none
    else
    none
   else
   none
  else
  none
 else
 none

def Zav (a0 : Int) (a1 : Int) (a2 : Int) (N : Nat) (v2 : List R_ii) (v3 : Nat) (v4 : Nat) (v7 : Int) (v8 : Nat) : Option (Zb ⊕ Zg) :=
 if (0 : Int) ≤ a1 then
  if a1 ≤ (255 : Int) then
   if (1 : Int) ≤ (v3 : Int) then
    if (v3 : Int) ≤ (10 : Int) then
     if v2.length = v3 then
      if (v3 : Int) ≤ (9 : Int) then
       if (v8 : Int) = (((v3 + 1) : Nat) : Int) then
        if v7 = (((v8 : Int) * (1048576 : Int)) + (18 : Int)) then
         if (v4 : Int) < (v2.length : Int) then
          if ¬ ((v2.getD v4 R_ii.z).a0 = (2 : Int)) then
           none
          else
          if ¬ ((v2.getD v4 R_ii.z).a1 = (0 : Int)) then
           if (0 : Int) < (v2.getD v4 R_ii.z).a1 then
            if ((v2.getD v4 R_ii.z).a1 / (1048576 : Int)) ≤ (9223372036854775807 : Int) then
             if (1 : Int) ≤ ((v2.getD v4 R_ii.z).a1 / (1048576 : Int)) then
              if ((v2.getD v4 R_ii.z).a1 / (1048576 : Int)) ≤ (1073741824 : Int) then
               if (1 : Int) ≤ ((v2.getD v4 R_ii.z).a1 % (1048576 : Int)) then
                if ((v2.getD v4 R_ii.z).a1 % (1048576 : Int)) = (18 : Int) then
                 if ¬ ((v8 : Int) = ((v2.getD v4 R_ii.z).a1 / (1048576 : Int))) then
                  some (.inl (.h2m27 (v2) (v3) ((v4 + 1)) (v7) (v8) : Zb))
                 else
                 none
                else
                none
               else
               none
              else
              none
             else
             none
            else
            none
           else
           none
          else
          none
         else
         some (.inl (.h1m27 ((v2 ++ ([(⟨(2 : Int), v7⟩ : R_ii)] : List R_ii))) ((v3 + 1)) (v8) : Zb))
        else
        none
       else
       none
      else
      none
     else
     none
    else
    none
   else
   none
  else
  none
 else
 none

def Zaw (a0 : Int) (a1 : Int) (a2 : Int) (N : Nat) (v2 : List R_ii) (v3 : Nat) (v4 : Nat) (v7 : Int) (v8 : Nat) : Option (Zb ⊕ Zg) :=
 if (0 : Int) ≤ a1 then
  if a1 ≤ (255 : Int) then
   if (1 : Int) ≤ (v3 : Int) then
    if (v3 : Int) ≤ (10 : Int) then
     if v2.length = v3 then
      if (v3 : Int) ≤ (9 : Int) then
       if (v8 : Int) = (((v3 + 1) : Nat) : Int) then
        if v7 = (((v8 : Int) * (1048576 : Int)) + (18 : Int)) then
         if (v4 : Int) < (v2.length : Int) then
          if ¬ ((v2.getD v4 R_ii.z).a0 = (2 : Int)) then
           none
          else
          if ¬ ((v2.getD v4 R_ii.z).a1 = (0 : Int)) then
           if (0 : Int) < (v2.getD v4 R_ii.z).a1 then
            if ((v2.getD v4 R_ii.z).a1 / (1048576 : Int)) ≤ (9223372036854775807 : Int) then
             if (1 : Int) ≤ ((v2.getD v4 R_ii.z).a1 / (1048576 : Int)) then
              if ((v2.getD v4 R_ii.z).a1 / (1048576 : Int)) ≤ (1073741824 : Int) then
               if (1 : Int) ≤ ((v2.getD v4 R_ii.z).a1 % (1048576 : Int)) then
                if ((v2.getD v4 R_ii.z).a1 % (1048576 : Int)) = (18 : Int) then
                 if ¬ ((v8 : Int) = ((v2.getD v4 R_ii.z).a1 / (1048576 : Int))) then
                  some (.inl (.h2m28 (v2) (v3) ((v4 + 1)) (v7) (v8) : Zb))
                 else
                 none
                else
                none
               else
               none
              else
              none
             else
             none
            else
            none
           else
           none
          else
          none
         else
         some (.inl (.h1m28 ((v2 ++ ([(⟨(2 : Int), v7⟩ : R_ii)] : List R_ii))) ((v3 + 1)) (v8) : Zb))
        else
        none
       else
       none
      else
      none
     else
     none
    else
    none
   else
   none
  else
  none
 else
 none

def Zax (a0 : Int) (a1 : Int) (a2 : Int) (N : Nat) (v2 : List R_ii) (v3 : Nat) (v4 : Nat) (v7 : Int) (v8 : Nat) : Option (Zb ⊕ Zg) :=
 if (0 : Int) ≤ a1 then
  if a1 ≤ (255 : Int) then
   if (1 : Int) ≤ (v3 : Int) then
    if (v3 : Int) ≤ (10 : Int) then
     if v2.length = v3 then
      if (v3 : Int) ≤ (9 : Int) then
       if (v8 : Int) = (((v3 + 1) : Nat) : Int) then
        if v7 = (((v8 : Int) * (1048576 : Int)) + (18 : Int)) then
         if (v4 : Int) < (v2.length : Int) then
          if ¬ ((v2.getD v4 R_ii.z).a0 = (2 : Int)) then
           none
          else
          if ¬ ((v2.getD v4 R_ii.z).a1 = (0 : Int)) then
           if (0 : Int) < (v2.getD v4 R_ii.z).a1 then
            if ((v2.getD v4 R_ii.z).a1 / (1048576 : Int)) ≤ (9223372036854775807 : Int) then
             if (1 : Int) ≤ ((v2.getD v4 R_ii.z).a1 / (1048576 : Int)) then
              if ((v2.getD v4 R_ii.z).a1 / (1048576 : Int)) ≤ (1073741824 : Int) then
               if (1 : Int) ≤ ((v2.getD v4 R_ii.z).a1 % (1048576 : Int)) then
                if ((v2.getD v4 R_ii.z).a1 % (1048576 : Int)) = (18 : Int) then
                 if ¬ ((v8 : Int) = ((v2.getD v4 R_ii.z).a1 / (1048576 : Int))) then
                  some (.inl (.h2m29 (v2) (v3) ((v4 + 1)) (v7) (v8) : Zb))
                 else
                 none
                else
                none
               else
               none
              else
              none
             else
             none
            else
            none
           else
           none
          else
          none
         else
         some (.inl (.h1m29 ((v2 ++ ([(⟨(2 : Int), v7⟩ : R_ii)] : List R_ii))) ((v3 + 1)) (v8) : Zb))
        else
        none
       else
       none
      else
      none
     else
     none
    else
    none
   else
   none
  else
  none
 else
 none

def Zay (a0 : Int) (a1 : Int) (a2 : Int) (N : Nat) (v2 : List R_ii) (v3 : Nat) (v4 : Nat) (v7 : Int) (v8 : Nat) : Option (Zb ⊕ Zg) :=
 if (0 : Int) ≤ a1 then
  if a1 ≤ (255 : Int) then
   if (1 : Int) ≤ (v3 : Int) then
    if (v3 : Int) ≤ (10 : Int) then
     if v2.length = v3 then
      if (v3 : Int) ≤ (9 : Int) then
       if (v8 : Int) = (((v3 + 1) : Nat) : Int) then
        if v7 = (((v8 : Int) * (1048576 : Int)) + (18 : Int)) then
         if (v4 : Int) < (v2.length : Int) then
          if ¬ ((v2.getD v4 R_ii.z).a0 = (2 : Int)) then
           none
          else
          if ¬ ((v2.getD v4 R_ii.z).a1 = (0 : Int)) then
           if (0 : Int) < (v2.getD v4 R_ii.z).a1 then
            if ((v2.getD v4 R_ii.z).a1 / (1048576 : Int)) ≤ (9223372036854775807 : Int) then
             if (1 : Int) ≤ ((v2.getD v4 R_ii.z).a1 / (1048576 : Int)) then
              if ((v2.getD v4 R_ii.z).a1 / (1048576 : Int)) ≤ (1073741824 : Int) then
               if (1 : Int) ≤ ((v2.getD v4 R_ii.z).a1 % (1048576 : Int)) then
                if ((v2.getD v4 R_ii.z).a1 % (1048576 : Int)) = (18 : Int) then
                 if ¬ ((v8 : Int) = ((v2.getD v4 R_ii.z).a1 / (1048576 : Int))) then
                  some (.inl (.h2m30 (v2) (v3) ((v4 + 1)) (v7) (v8) : Zb))
                 else
                 none
                else
                none
               else
               none
              else
              none
             else
             none
            else
            none
           else
           none
          else
          none
         else
         some (.inl (.h1m30 ((v2 ++ ([(⟨(2 : Int), v7⟩ : R_ii)] : List R_ii))) ((v3 + 1)) (v8) : Zb))
        else
        none
       else
       none
      else
      none
     else
     none
    else
    none
   else
   none
  else
  none
 else
 none

def Zaz (a0 : Int) (a1 : Int) (a2 : Int) (N : Nat) (v2 : List R_ii) (v3 : Nat) (v4 : Nat) (v7 : Int) (v8 : Nat) : Option (Zb ⊕ Zg) :=
 if (0 : Int) ≤ a1 then
  if a1 ≤ (255 : Int) then
   if (1 : Int) ≤ (v3 : Int) then
    if (v3 : Int) ≤ (10 : Int) then
     if v2.length = v3 then
      if (v3 : Int) ≤ (9 : Int) then
       if (v8 : Int) = (((v3 + 1) : Nat) : Int) then
        if v7 = (((v8 : Int) * (1048576 : Int)) + (18 : Int)) then
         if (v4 : Int) < (v2.length : Int) then
          if ¬ ((v2.getD v4 R_ii.z).a0 = (2 : Int)) then
           none
          else
          if ¬ ((v2.getD v4 R_ii.z).a1 = (0 : Int)) then
           if (0 : Int) < (v2.getD v4 R_ii.z).a1 then
            if ((v2.getD v4 R_ii.z).a1 / (1048576 : Int)) ≤ (9223372036854775807 : Int) then
             if (1 : Int) ≤ ((v2.getD v4 R_ii.z).a1 / (1048576 : Int)) then
              if ((v2.getD v4 R_ii.z).a1 / (1048576 : Int)) ≤ (1073741824 : Int) then
               if (1 : Int) ≤ ((v2.getD v4 R_ii.z).a1 % (1048576 : Int)) then
                if ((v2.getD v4 R_ii.z).a1 % (1048576 : Int)) = (18 : Int) then
                 if ¬ ((v8 : Int) = ((v2.getD v4 R_ii.z).a1 / (1048576 : Int))) then
                  some (.inl (.h2m31 (v2) (v3) ((v4 + 1)) (v7) (v8) : Zb))
                 else
                 none
                else
                none
               else
               none
              else
              none
             else
             none
            else
            none
           else
           none
          else
          none
         else
         some (.inl (.h1m31 ((v2 ++ ([(⟨(2 : Int), v7⟩ : R_ii)] : List R_ii))) ((v3 + 1)) (v8) : Zb))
        else
        none
       else
       none
      else
      none
     else
     none
    else
    none
   else
   none
  else
  none
 else
 none

def Zf (a0 : Int) (a1 : Int) (a2 : Int) (N : Nat) : Zb → Option (Zb ⊕ Zg)
 | .h1m0 => ZaR a0 a1 a2 N
 | .h1m1 => ZaS a0 a1 a2 N
 | .h1m2 => ZaT a0 a1 a2 N
 | .h1m3 => ZaU a0 a1 a2 N
 | .h1m4 => ZaV a0 a1 a2 N
 | .h1m5 => ZaW a0 a1 a2 N
 | .h1m6 => ZaX a0 a1 a2 N
 | .h1m7 => ZaY a0 a1 a2 N
 | .h1m8 => ZaZ a0 a1 a2 N
 | .h1m9 => Zba a0 a1 a2 N
 | .h1m10 => ZaD a0 a1 a2 N
 | .h1m11 => ZaE a0 a1 a2 N
 | .h1m12 => ZaF a0 a1 a2 N
 | .h1m13 => ZaG a0 a1 a2 N
 | .h1m14 => ZaH a0 a1 a2 N
 | .h1m15 => ZaI a0 a1 a2 N
 | .h1m16 v2 v3 v5 => ZU a0 a1 a2 N v2 v3 v5
 | .h1m17 v2 v3 v5 => ZV a0 a1 a2 N v2 v3 v5
 | .h1m18 v2 v3 v5 => ZW a0 a1 a2 N v2 v3 v5
 | .h1m19 v2 v3 v5 => ZX a0 a1 a2 N v2 v3 v5
 | .h1m20 v2 v3 v5 => ZY a0 a1 a2 N v2 v3 v5
 | .h1m21 v2 v3 v5 => ZZ a0 a1 a2 N v2 v3 v5
 | .h1m22 v2 v3 v5 => Zaa a0 a1 a2 N v2 v3 v5
 | .h1m23 v2 v3 v5 => Zab a0 a1 a2 N v2 v3 v5
 | .h1m24 v2 v3 v5 => Zac a0 a1 a2 N v2 v3 v5
 | .h1m25 v2 v3 v5 => Zad a0 a1 a2 N v2 v3 v5
 | .h1m26 v2 v3 v5 => Zae a0 a1 a2 N v2 v3 v5
 | .h1m27 v2 v3 v5 => Zaf a0 a1 a2 N v2 v3 v5
 | .h1m28 v2 v3 v5 => Zag a0 a1 a2 N v2 v3 v5
 | .h1m29 v2 v3 v5 => Zah a0 a1 a2 N v2 v3 v5
 | .h1m30 v2 v3 v5 => Zai a0 a1 a2 N v2 v3 v5
 | .h1m31 v2 v3 v5 => Zaj a0 a1 a2 N v2 v3 v5
 | .h2m0 => Zbb a0 a1 a2 N
 | .h2m1 => Zbc a0 a1 a2 N
 | .h2m2 => Zbd a0 a1 a2 N
 | .h2m3 => Zbe a0 a1 a2 N
 | .h2m4 => Zbf a0 a1 a2 N
 | .h2m5 => Zbg a0 a1 a2 N
 | .h2m6 => Zbh a0 a1 a2 N
 | .h2m7 => Zbi a0 a1 a2 N
 | .h2m8 => Zbj a0 a1 a2 N
 | .h2m9 => Zbk a0 a1 a2 N
 | .h2m10 => ZaJ a0 a1 a2 N
 | .h2m11 => ZaK a0 a1 a2 N
 | .h2m12 => ZaL a0 a1 a2 N
 | .h2m13 => ZaM a0 a1 a2 N
 | .h2m14 => ZaN a0 a1 a2 N
 | .h2m15 => ZaO a0 a1 a2 N
 | .h2m16 v2 v3 v4 v7 v8 => Zak a0 a1 a2 N v2 v3 v4 v7 v8
 | .h2m17 v2 v3 v4 v7 v8 => Zal a0 a1 a2 N v2 v3 v4 v7 v8
 | .h2m18 v2 v3 v4 v7 v8 => Zam a0 a1 a2 N v2 v3 v4 v7 v8
 | .h2m19 v2 v3 v4 v7 v8 => Zan a0 a1 a2 N v2 v3 v4 v7 v8
 | .h2m20 v2 v3 v4 v7 v8 => Zao a0 a1 a2 N v2 v3 v4 v7 v8
 | .h2m21 v2 v3 v4 v7 v8 => Zap a0 a1 a2 N v2 v3 v4 v7 v8
 | .h2m22 v2 v3 v4 v7 v8 => Zaq a0 a1 a2 N v2 v3 v4 v7 v8
 | .h2m23 v2 v3 v4 v7 v8 => Zar a0 a1 a2 N v2 v3 v4 v7 v8
 | .h2m24 v2 v3 v4 v7 v8 => Zas a0 a1 a2 N v2 v3 v4 v7 v8
 | .h2m25 v2 v3 v4 v7 v8 => Zat a0 a1 a2 N v2 v3 v4 v7 v8
 | .h2m26 v2 v3 v4 v7 v8 => Zau a0 a1 a2 N v2 v3 v4 v7 v8
 | .h2m27 v2 v3 v4 v7 v8 => Zav a0 a1 a2 N v2 v3 v4 v7 v8
 | .h2m28 v2 v3 v4 v7 v8 => Zaw a0 a1 a2 N v2 v3 v4 v7 v8
 | .h2m29 v2 v3 v4 v7 v8 => Zax a0 a1 a2 N v2 v3 v4 v7 v8
 | .h2m30 v2 v3 v4 v7 v8 => Zay a0 a1 a2 N v2 v3 v4 v7 v8
 | .h2m31 v2 v3 v4 v7 v8 => Zaz a0 a1 a2 N v2 v3 v4 v7 v8

def Zq (a0 : Int) (a1 : Int) (a2 : Int) (N : Nat) : Option (Zb ⊕ Zg) :=
 if (0 : Int) ≤ a0 then
  if a0 ≤ (255 : Int) then
   if (0 : Int) ≤ a1 then
    if a1 ≤ (255 : Int) then
     if (a0 % (16 : Int)) = (0 : Int) then
      some (.inl (.h1m0 : Zb))
     else
     if (a0 % (16 : Int)) = (1 : Int) then
      some (.inl (.h1m1 : Zb))
     else
     if (a0 % (16 : Int)) = (2 : Int) then
      some (.inl (.h1m2 : Zb))
     else
     if (a0 % (16 : Int)) = (3 : Int) then
      some (.inl (.h1m3 : Zb))
     else
     if (a0 % (16 : Int)) = (4 : Int) then
      some (.inl (.h1m4 : Zb))
     else
     if (a0 % (16 : Int)) = (5 : Int) then
      some (.inl (.h1m5 : Zb))
     else
     if (a0 % (16 : Int)) = (6 : Int) then
      some (.inl (.h1m6 : Zb))
     else
     if (a0 % (16 : Int)) = (7 : Int) then
      some (.inl (.h1m7 : Zb))
     else
     if (a0 % (16 : Int)) = (8 : Int) then
      some (.inl (.h1m8 : Zb))
     else
     if (a0 % (16 : Int)) = (9 : Int) then
      some (.inl (.h1m9 : Zb))
     else
     if (a0 % (16 : Int)) = (10 : Int) then
      some (.inl (.h1m10 : Zb))
     else
     if (a0 % (16 : Int)) = (11 : Int) then
      some (.inl (.h1m11 : Zb))
     else
     if (a0 % (16 : Int)) = (12 : Int) then
      some (.inl (.h1m12 : Zb))
     else
     if (a0 % (16 : Int)) = (13 : Int) then
      some (.inl (.h1m13 : Zb))
     else
     if (a0 % (16 : Int)) = (14 : Int) then
      some (.inl (.h1m14 : Zb))
     else
     some (.inl (.h1m15 : Zb))
    else
    none
   else
   none
  else
  none
 else
 none

def ZcI (a0 : Int) (a1 : Int) (a2 : Int) (N : Nat) : Option Zg := goM (Zf a0 a1 a2 N) N (Zq a0 a1 a2 N)
end Ev
end Go.Proofs.Ytkhbehgikhamdaa
/- How records are written, and which functions are told. -/
namespace Go.Proofs.Ytkhbehgikhamdaa
open Go.RowKit
namespace Ev
set_option linter.unusedVariables false
abbrev vq : Value := .int .i64 0
abbrev vT : Value := .bool true
abbrev vn : Value := .slice none 0 0
theorem ltA {p : Prop} (h : p := by first | omega | (simp only [List.length_set, List.length_append, List.length_cons, List.length_nil, List.length_replicate, List.length_take, List.length_drop] at * <;> omega)) : p := h
theorem eqA {p : Prop} (h : p := by first | rfl | omega | (simp only [List.length_set, List.length_append, List.length_cons, List.length_nil, List.length_replicate, List.length_take, List.length_drop] at * <;> omega)) : p := h
theorem rr {p q : Prop} (h : p := by rfl) (h2 : q := by rfl) : p ∧ q := ⟨h, h2⟩
section
variable {l : List (Bool × Bool)}
theorem oT {a b : Int} (hl : ∀ q ∈ l, q.1 = q.2) (h : a = b := by omega) : ∀ q ∈ ((a == b), true) :: l, q.1 = q.2 := Zi (bT h) hl
theorem oD {a b : Int} (hl : ∀ q ∈ l, q.1 = q.2) (h : a ≠ b := by omega) : ∀ q ∈ ((a != b), true) :: l, q.1 = q.2 := Zi (bne_iff_ne.2 h) hl
theorem oE {a b : Int} (hl : ∀ q ∈ l, q.1 = q.2) (h : a = b := by omega) : ∀ q ∈ ((a != b), false) :: l, q.1 = q.2 := Zi (bne_eq_false_iff_eq.2 h) hl
theorem oY {p : Prop} [Decidable p] (hl : ∀ q ∈ l, q.1 = q.2) (h : p := by omega) : ∀ q ∈ (decide p, true) :: l, q.1 = q.2 := Zi (decide_eq_true h) hl
theorem oN {p : Prop} [Decidable p] (hl : ∀ q ∈ l, q.1 = q.2) (h : ¬ p := by omega) : ∀ q ∈ (decide p, false) :: l, q.1 = q.2 := Zi (decide_eq_false h) hl
theorem oB {a b : Nat} (hl : ∀ q ∈ l, q.1 = q.2) (h : a < b := by omega) : ∀ q ∈ (Nat.blt a b, true) :: l, q.1 = q.2 := Zi (Zmm h) hl
theorem oI {a b : Int} (hl : ∀ q ∈ l, q.1 = q.2) (h : a = b := by first | rfl | exact Zml (by omega)) : ∀ q ∈ ((a == b), true) :: l, q.1 = q.2 := Zi (bT h) hl
end
def Zp : Enc R_ii := ⟨fun x => [.i x.a0, .i x.a1], 2, R_ii.z, fun _ => rfl, fun _ => rfl⟩
instance : Inhabited R_ii := ⟨R_ii.z⟩
def Zkv : FuncId → Option (List Value → Option Value) := fun f =>
 bif Nat.beq f 5 then some (fun l => match l with | [] => some (.bool true) | _ => none) else
 none
theorem ZkP (w : World) : Calls Try.prog 5 #[] w (Ret (.bool true) w) := Zmj 40000 w (by kernel_rfl) rfl
theorem Zmq : Zhw Zkv := fun f g h => by
 unfold Zkv at h
 cases hb : Nat.beq f 5 with
 | true =>
  rw [hb] at h
  obtain rfl := Nat.eq_of_beq_eq_true hb
  simp only [cond_true, Option.some.injEq] at h
  subst h
  refine ⟨⟨_, _, Try.func5, rfl⟩, fun args v ha hv w => ?_⟩
  obtain ⟨l⟩ := args
  cases l with
  | nil =>
   change some (Value.bool true) = some v at hv
   injection hv with hv
   subst hv
   exact ZkP w
  | cons x l => change (none : Option Value) = some v at hv; cases hv
 | false =>
  rw [hb] at h
  simp only [cond_false] at h
  cases h
def Zlz : FuncId → Bool := fun f => Nat.beq f 3
noncomputable def Zk : FuncId → Option Ext := Zkt (Zlp Zkv) Zlz
theorem Zmr : Fit Try.prog Zk := fitT (fitS Zmq) (fun f h => by
 simp only [Zlz, Bool.or_eq_true] at h
 simp only [Nat.beq_eq] at h
 rcases h with rfl
 ·exact ⟨_, _, Try.func3, rfl⟩
 )
end Ev
end Go.Proofs.Ytkhbehgikhamdaa
