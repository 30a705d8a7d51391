/- Part 3. -/
import Derived.Test.YtelfeeoobdpmkaaGreatZab
import Derived.SizedLaws
import Derived.Deep.Slices
import Derived.Deep.Fields
import Derived.Carry
import Derived.RangeFuncLeaves
import Derived.OrdersIn
import Derived.LoopNIn
import Derived.TacticsIn
import Derived.RangeFuncRecord
/- The frame of every law, over any program: from 'called with whatever can be read, it hands back true and leaves what was there alone' to the row's own step. And how arguments are opened. -/
namespace Go.Proofs.YtelfeeoobdpmkaaGreat
open Go.ChangeShapes Go.WideShapes Go.ChangeAt Go.RowKit

section
variable {H : Type} {enc : TypeId × Value → H} {P : Program}

theorem Zlk (hl : laidOutB P = true) {W W' : World} (hb : Below W.heap.size W W') : ∀ {ts : List TypeId} {vs : List Value} {ds : List (DataW H)} {ps : List MemPlace},
  (ts.all fun t => P.readableRec t && decide (t < P.types.size)) = true → DataW.TrodAll enc P W 0 (fun _ => true) true ts vs ds ps → (∀ x ∈ ps, x.block < W.heap.size) →
  DataW.TrodAll enc P W' 0 (fun b => decide (b < W.heap.size)) true ts vs ds ps
 | [], vs, ds, ps, _, h, _ => by
  obtain ⟨rfl, rfl, rfl⟩ := trodAll_nil h
  exact trodAll_mk0
 | t :: ts, vs, ds, ps, ha, h, hlt => by
  obtain ⟨v, vs', d, ds', p, q, rfl, rfl, rfl, h0, r0⟩ := trodAll_cons h
  simp only [List.all_cons, Bool.and_eq_true, decide_eq_true_eq] at ha
  exact trodAll_cons_mk (Below.trod hl ha.1.1 ha.1.2 h0 hb fun x hx => hlt x (List.mem_append_left _ hx))
   (Zlk hl hb (by simpa using ha.2) r0 fun x hx => hlt x (List.mem_append_right _ hx))

theorem ZtQ {C : Checked} {os : Os} {F : FuncId} {fn : Func} {s : ChangeSpec} {tb : TypeId}
  (own : ownKnob C.prog.godebug = none) (started : os.Started) (noInit : C.prog.inits.idxOf? F = none) (hfn : C.prog.funcs[F]? = some fn)
  (hv : s.vars = []) (hrt : fn.resultTypes = #[tb]) (hub : C.prog.underlying tb = some .bool)
  (hspec : ∀ ds : List (DataW H), ds.length = fn.params.size → s.fn H ds = { results := [.lit (.bool true)], args := ds })
  (hl : laidOutB C.prog = true) (hr : (fn.params.toList.all fun t => C.prog.readableRec t && decide (t < C.prog.types.size)) = true)
  (witness : ∃ (w : World) (tape : Tape) (i : Input), w.os = os ∧ (w.forCall tape i).Shaped C.prog ∧ i.vars = [] ∧ Input.okWide C.prog (w.forCall tape i) .any w.heap.size F i ∧
   s.pre6 enc C.prog fn [] false (w.forCall tape i).memory i.args ∧ ({} : Assume).holds C.prog (lone (Frame.enter C.prog F i.args .normal) [] (w.forCall tape i)))
  (walk : ∀ (W : World) (base : Nat) (args : Array Value) (ds : List (DataW H)) (p : List MemPlace),
   (∀ (j : Nat) t v, fn.params[j]? = some t → args[j]? = some v → Value.okWide C.prog W .any base t v) →
   DataW.TrodAll enc C.prog W 0 (fun _ => true) true fn.params.toList args.toList ds p → (∀ x ∈ p, x.block < W.heap.size) →
   (DataW.weightsEach C.prog fn.params.toList ds).all (· ≤ reachBytes) = true →
   Calls C.prog F args W (Ret (.bool true) W)) :
  ReturnsInHanded {} C os F .any (s.pre6 enc C.prog fn [] false) (s.post enc C.prog fn false true false false) := by
 refine returnsInHanded_of_change_sized own started noInit hfn witness ?_
 intro W base args ds gs before hval hW _ hsz _
 have hlt : ∀ x ∈ before, x.block < W.heap.size := fun x hx => hW.lt x hx
 obtain ⟨p, q, hA, hV, hps, hfz, hnd⟩ := id hW
 rw [hv] at hV
 obtain ⟨rfl, rfl⟩ := trodVars_none hV
 rw [List.append_nil] at hps
 subst hps
 have hvt : s.plain.varTypes C.prog = [] := by simp [ChangeSpec.plain, DataSpec.varTypes, hv]
 rw [hvt, List.append_nil, List.append_nil] at hsz
 refine (walk W base args ds before hval hA hlt hsz).mono fun e W' ⟨he, hb⟩ => ⟨_, he, ?_⟩
 have hlen : ds.length = fn.params.size := by
  have : ∀ {ts : List TypeId} {vs : List Value} {ds : List (DataW H)} {ps : List MemPlace}, DataW.TrodAll enc C.prog W 0 (fun _ => true) true ts vs ds ps → ds.length = ts.length := by
   intro ts
   induction ts with
   | nil => intro vs ds ps h; obtain ⟨_, rfl, _⟩ := trodAll_nil h; rfl
   | cons t ts ih => intro vs ds ps h; obtain ⟨_, _, _, _, _, _, _, rfl, _, _, r⟩ := trodAll_cons h; simp [ih r]
  simpa using this hA
 have hs := hspec (ds ++ []) (by simpa using hlen)
 refine ⟨ds, [], before, [], before, [], by simpa [hv] using hW, ?_, ?_, ?_, World.keptBut_mono (fun x hx => ⟨hx, .inr (.inl hx)⟩) (hb.frame (· ∈ before)), fun h => by cases h⟩
 ·rw [hs, hrt]
  exact trodAll_mk1 (shut_bool hub true)
 ·rw [hs]
  simpa using Zlk hl hb hr hA hlt
 ·rw [hs, hv]
  rfl
end
end Go.Proofs.YtelfeeoobdpmkaaGreat
/- A round's frame: what the runner says of code holds there too. -/
namespace Go.Proofs.YtelfeeoobdpmkaaGreat
open Go.RowKit
namespace Ev
def ZhN (o : Oper) : Bool := match o.op with | .defer _ => false | _ => true
def ZcZ : Code → Bool
 | .seq a b => ZcZ a && ZcZ b
 | .cond _ a b => ZcZ a && ZcZ b
 | .block _ a => ZcZ a
 | .loop a => ZcZ a
 | .region _ ops _ => ZF ZhN ops.toList
 | .scope _ => false
 | _ => true
abbrev Fr (r : Option Nat) : Fence := { Fence.wide with round := r }
theorem ZiD {o : Oper} (h : ZhN o = true) : ∀ c, o.op ≠ .defer c := fun c e => by unfold ZhN at h; rw [e] at h; cases h
section
variable {P : Program} {ext : FuncId → Option Ext} {r : Option Nat}
theorem Zvo {n : Nat} {row : String} {args : Array Value} {w : World} {R : Value → World → Prop} (h : Rows P row args w R) : RowsIn (Fr r) n P row args w R := fun c cs _ => by
 obtain ⟨v, w', q, s⟩ := h c cs
 exact ⟨v, w', q, stepsIn_wide.2 s⟩
theorem Zu5 {n f : Nat} {args : Array Value} {w : World} {R : Ending → World → Prop} (h : Calls P f args w R) : CallsIn (Fr r) n P f args w R := (callsIn_wide (n := n)).2 h
theorem Zos {o : Oper} {a : Act} {w : World} {K : Act → World → Prop} {Q0 Q : Exit → Act → World → Prop} (hq : ∀ e a w, e ≠ .normal → ¬ Q0 e a w) (hnd : ∀ c, o.op ≠ .defer c) (h : o.wp P a w K Q0) : o.wpIn (Fr r) 0 P a w K Q := by
 refine ⟨fun _ _ => trivial, ?_⟩
 rw [Oper.semAt_eq _ _ _ hnd]
 unfold Oper.wp at h
 generalize (execOp a.eval o).run P w = x at h ⊢
 have no : ∀ (e : Exit) (a : Act) (w : World), e ≠ .normal → Q0 e a w → False := fun e a w he hx => hq e a w he hx
 cases x with
 | ok nx w' =>
  cases nx with
  | value v => exact h
  | skip => exact h
  | defer d => exact h
  | enter f args =>
   refine ⟨fun e => (by cases e), Zu5 (Calls.mono h ?_)⟩
   intro e w2 h2
   cases e with
   | returned v => exact h2
   | panicked chain => exact (no _ _ _ (by simp) h2).elim
   | outgrown => obtain ⟨a0, w0, h0⟩ := h2; exact (no _ _ _ (by simp) h0).elim
  | row row args => exact ⟨fun e => (by cases e), Zvo h⟩
  | _ => exact h.elim
 | halt x w' =>
  cases x with
  | panic v => exact (no _ _ _ (by simp) h).elim
  | _ => exact h.elim
def Ztl (Q : Exit → Act → World → Prop) : Exit → Act → World → Prop := fun e a w => e = .normal ∧ Q .normal a w
theorem ZqD {Q : Exit → Act → World → Prop} : ∀ e a w, e ≠ .normal → ¬ Ztl Q e a w := fun e a w he h => he h.1
theorem Zot {ops : Array Oper} {Q : Exit → Act → World → Prop} : ∀ (l : List Oper) (a : Act) (w : World), ZF ZhN l = true → wpList P ops (Ztl Q) l a w → wpListIn (Fr r) 0 P ops Q l a w
 | [], a, w, _, h => h.2
 | o :: l, a, w, hn, h => by
  have ho := ZiD (ZaA hn o (List.mem_cons_self ..))
  have hl : ZF ZhN l = true := Zoo fun x hx => ZaA hn x (List.mem_cons_of_mem _ hx)
  unfold wpList at h
  unfold wpListIn
  split
  ·rename_i hw
   rw [if_pos hw] at h
   rcases h with h | ⟨_, a0, w0, h0⟩
   ·exact Zos ZqD ho (Oper.wp_mono (fun a w => Zot l a w hl) h)
   ·cases h0.1
  ·rename_i hw
   rw [if_neg hw] at h
   exact ⟨fun _ _ => trivial, Zot l _ w hl h⟩
theorem ZnF {ops : Array Oper} {Q : Exit → Act → World → Prop} {md : Region.Mode} (hn : ZF ZhN ops.toList = true) : ∀ (fuel : Nat) (listed : Array Bool) (a : Act) (w : World), wpAny P md ops (Ztl Q) fuel listed a w → wpAnyIn (Fr r) 0 P md ops Q fuel listed a w
 | 0, listed, a, w, h => ⟨h.1, h.2.2⟩
 | fuel + 1, listed, a, w, h => by
  refine ⟨fun e => (h.1 e).2, fun i hi => ?_⟩
  have hi := h.2 i hi
  unfold wpOp at hi
  unfold wpOpIn
  split
  ·rename_i ho
   rw [ho] at hi
   exact ZnF hn fuel _ a w hi
  ·rename_i o ho
   rw [ho] at hi
   simp only at hi
   have hd := ZiD (ZaA hn o (by simpa using Array.mem_of_getElem? ho))
   split
   ·rename_i hw
    rw [if_pos hw] at hi
    rcases hi with hi | ⟨_, a0, w0, h0⟩
    ·exact Zos ZqD hd (Oper.wp_mono (fun a w => ZnF hn fuel _ a w) hi)
    ·cases h0.1
   ·rename_i hw
    rw [if_neg hw] at hi
    exact ⟨fun _ _ => trivial, ZnF hn fuel _ _ w hi⟩
theorem Zhd {c : Code} {Q Q' : Exit → Act → World → Prop} (hq : ∀ e a w, Q e a w → Q' e a w) : ∀ (n : Nat) (a : Act) (w : World), Code.roundsIn (Fr r) 0 P c Q n a w → Code.roundsIn (Fr r) 0 P c Q' n a w
 | 0, _, _, h => h
 | n + 1, a, w, h => by
  rw [roundsIn_succ] at h ⊢
  refine wpIn_mono h ?_
  intro e a1 w1 h1
  cases e with
  | normal => exact Zhd hq n a1 w1 h1
  | _ => exact hq _ _ _ h1
theorem ZqE (F : Fit P ext) : ∀ fu : Nat,
  (∀ nt c T s e T' s', Za3 P ext nt fu c T s = some (e, T', s') → ZcZ c = true → (∀ p ∈ s'.ob, p.1 = p.2) → ∀ ι D a w, TR ι nt D T a → Emb P ι s.h.get w → Fresh ι s.n s'.n → c.wpIn (Fr r) 0 P (ZdF P ι s w nt D e T' s') a w) ∧
  (∀ nt c T s e T' s', Za3 P ext nt fu (.loop c) T s = some (e, T', s') → ZcZ c = true → (∀ p ∈ s'.ob, p.1 = p.2) → ∀ ι D a w, TR ι nt D T a → Emb P ι s.h.get w → Fresh ι s.n s'.n → Code.roundsIn (Fr r) 0 P c (ZdF P ι s w nt D e T' s') fu a w) := by
 intro fu
 induction fu with
 | zero => exact ⟨fun _ _ _ _ _ _ _ h => by simp [Za3] at h, fun _ _ _ _ _ _ _ h => by simp [Za3] at h⟩
 | succ fu ih =>
  obtain ⟨ihC, ihL⟩ := ih
  obtain ⟨upC, upO, upP, upF, upD, upE⟩ := Zc4 (P := P) (ext := ext) (fun f g hg => (F.hp f g hg).up) fu
  have loops : ∀ nt c T s e T' s', Za3 P ext nt (fu + 1) (.loop c) T s = some (e, T', s') → ZcZ c = true → (∀ p ∈ s'.ob, p.1 = p.2) → ∀ ι D a w, TR ι nt D T a → Emb P ι s.h.get w → Fresh ι s.n s'.n → Code.roundsIn (Fr r) 0 P c (ZdF P ι s w nt D e T' s') (fu + 1) a w := by
   intro nt x T s e T' s' h hn ho ι D a w hT he hf
   simp only [Za3] at h
   rw [roundsIn_succ]
   split at h
   ·rename_i T1 s1 h1
    have u1 := upC _ _ _ _ _ _ _ h1
    have u2 := upC _ _ _ _ _ _ _ h
    refine wpIn_mono (ihC nt x T s .normal T1 s1 h1 hn (ZaY u2.ob ho) ι D a w hT he (hf.mono (Nat.le_refl _) u2.n)) ?_
    rintro ex a1 w1 ⟨rfl, ι1, g1, g2, g3⟩
    refine Zhd ?_ fu a1 w1 (ihL nt x T1 s1 e T' s' h hn ho ι1 D a1 w1 g3 g1.emb (hf.after g2 u1.n))
    rintro ex2 a2 w2 ⟨rfl, ι2, k1, k2, k3⟩
    exact ⟨rfl, ι2, g1.trans k1, g2.trans k2 u1.n u2.n, k3⟩
   ·rename_i i T1 s1 h1
    injection h with h; simp only [Prod.mk.injEq] at h; obtain ⟨rfl, rfl, rfl⟩ := h
    refine wpIn_mono (ihC nt x T s _ _ _ h1 hn ho ι D a w hT he hf) ?_
    rintro ex a1 w1 ⟨rfl, hq⟩
    exact ⟨rfl, hq⟩
   ·rename_i T1 s1 h1
    injection h with h; simp only [Prod.mk.injEq] at h; obtain ⟨rfl, rfl, rfl⟩ := h
    refine wpIn_mono (ihC nt x T s _ _ _ h1 hn ho ι D a w hT he hf) ?_
    rintro ex a1 w1 ⟨rfl, hq⟩
    exact ⟨rfl, hq⟩
   ·cases h
  refine ⟨fun nt c T s e T' s' h hn ho ι D a w hT he hf => ?_, loops⟩
  have base : ZdF P ι s w nt D .normal T s .normal a w ∧ ZdF P ι s w nt D .ret T s .ret a w ∧ ∀ i, ZdF P ι s w nt D (.exit i) T s (.exit i) a w :=
   ⟨⟨rfl, ι, Step.refl he, Dom.refl, hT⟩, ⟨rfl, ι, Step.refl he, Dom.refl, hT⟩, fun i => ⟨rfl, ι, Step.refl he, Dom.refl, hT⟩⟩
  have chain : ∀ {s1 : St} {T1 : Tr Value} {c2 : Code} {a1 : Act} {w1 : World} {ι1 : Ren}, ZcZ c2 = true → Up s s1 → Up s1 s' → Step P ι s.h.get w ι1 s1.h.get w1 → Dom ι ι1 s.n s1.n → TR ι1 nt D T1 a1 → Za3 P ext nt fu c2 T1 s1 = some (e, T', s') →
    c2.wpIn (Fr r) 0 P (ZdF P ι s w nt D e T' s') a1 w1 := fun {s1 T1 c2 a1 w1 ι1} n2 u1 u2 h1 h2 h3 h4 => by
   refine wpIn_mono (ihC nt c2 T1 s1 e T' s' h4 n2 ho ι1 D a1 w1 h3 h1.emb ((hf.mono (Nat.le_refl _) (Nat.le_refl _)).after h2 u1.n)) ?_
   rintro ex a2 w2 ⟨rfl, ι2, g1, g2, g3⟩
   exact ⟨rfl, ι2, (Step.two ⟨h1, h2⟩ ⟨g1, g2⟩ u1.n u2.n).1, (Step.two ⟨h1, h2⟩ ⟨g1, g2⟩ u1.n u2.n).2, g3⟩
  have h0 := h
  cases c <;> simp only [Za3] at h
  case skip => injection h with h; simp only [Prod.mk.injEq] at h; obtain ⟨rfl, rfl, rfl⟩ := h; exact wpIn_skip base.1
  case label l => injection h with h; simp only [Prod.mk.injEq] at h; obtain ⟨rfl, rfl, rfl⟩ := h; exact wpIn_label base.1
  case scope c => cases hn
  case ret => injection h with h; simp only [Prod.mk.injEq] at h; obtain ⟨rfl, rfl, rfl⟩ := h; exact wpIn_ret base.2.1
  case exit id => injection h with h; simp only [Prod.mk.injEq] at h; obtain ⟨rfl, rfl, rfl⟩ := h; exact wpIn_exit (base.2.2 id)
  case seq x y =>
   simp only [ZcZ, Bool.and_eq_true] at hn
   split at h
   ·rename_i T1 s1 h1
    have u1 := upC _ _ _ _ _ _ _ h1
    have u2 := upC _ _ _ _ _ _ _ h
    refine wpIn_seq (wpIn_mono (ihC nt x T s .normal T1 s1 h1 hn.1 (ZaY u2.ob ho) ι D a w hT he (hf.mono (Nat.le_refl _) u2.n)) ?_)
    rintro ex a1 w1 ⟨rfl, ι1, g1, g2, g3⟩
    exact chain hn.2 u1 u2 g1 g2 g3 h
   ·rename_i i T1 s1 h1
    injection h with h; simp only [Prod.mk.injEq] at h; obtain ⟨rfl, rfl, rfl⟩ := h
    refine wpIn_seq (wpIn_mono (ihC nt x T s _ _ _ h1 hn.1 ho ι D a w hT he hf) ?_)
    rintro ex a1 w1 ⟨rfl, hq⟩
    exact ⟨rfl, hq⟩
   ·rename_i T1 s1 h1
    injection h with h; simp only [Prod.mk.injEq] at h; obtain ⟨rfl, rfl, rfl⟩ := h
    refine wpIn_seq (wpIn_mono (ihC nt x T s _ _ _ h1 hn.1 ho ι D a w hT he hf) ?_)
    rintro ex a1 w1 ⟨rfl, hq⟩
    exact ⟨rfl, hq⟩
   ·cases h
  case cond x y z =>
   simp only [ZcZ, Bool.and_eq_true] at hn
   split at h
   ·rename_i t ht
    have hx : a.eval x = .bool t := Ze2 ((ht ▸ hT.opnd x : VR ι (.bool t) (Zcc a x)).bool_inv)
    split at h
    ·exact wpIn_cond_true hx (ihC nt y T s e T' s' h hn.1 ho ι D a w hT he hf)
    ·exact wpIn_cond_false hx (ihC nt z T s e T' s' h hn.2 ho ι D a w hT he hf)
   ·cases h
  case block id x =>
   simp only [ZcZ] at hn
   split at h
   ·rename_i i T1 s1 h1
    cases hb : Nat.beq i id with
    | true =>
     rw [hb] at h
     injection h with h; simp only [Prod.mk.injEq] at h; obtain ⟨rfl, rfl, rfl⟩ := h
     refine wpIn_block (wpIn_mono (ihC nt x T s _ _ _ h1 hn ho ι D a w hT he hf) ?_)
     rintro ex a1 w1 ⟨rfl, hq⟩
     show if i = id then _ else _
     rw [if_pos (Nat.eq_of_beq_eq_true hb)]
     exact ⟨rfl, hq⟩
    | false =>
     rw [hb] at h
     injection h with h; simp only [Prod.mk.injEq] at h; obtain ⟨rfl, rfl, rfl⟩ := h
     refine wpIn_block (wpIn_mono (ihC nt x T s _ _ _ h1 hn ho ι D a w hT he hf) ?_)
     rintro ex a1 w1 ⟨rfl, hq⟩
     show if i = id then _ else _
     rw [if_neg (fun e => by rw [Zha e] at hb; cases hb)]
     exact ⟨rfl, hq⟩
   ·rename_i T1 s1 h1
    injection h with h; simp only [Prod.mk.injEq] at h; obtain ⟨rfl, rfl, rfl⟩ := h
    refine wpIn_block (wpIn_mono (ihC nt x T s _ _ _ h1 hn ho ι D a w hT he hf) ?_)
    rintro ex a1 w1 ⟨rfl, hq⟩
    exact ⟨rfl, hq⟩
   ·rename_i T1 s1 h1
    injection h with h; simp only [Prod.mk.injEq] at h; obtain ⟨rfl, rfl, rfl⟩ := h
    refine wpIn_block (wpIn_mono (ihC nt x T s _ _ _ h1 hn ho ι D a w hT he hf) ?_)
    rintro ex a1 w1 ⟨rfl, hq⟩
    exact ⟨rfl, hq⟩
   ·cases h
  case loop x =>
   simp only [ZcZ] at hn
   exact wpIn_loop_rounds (fu + 1) (loops nt x T s e T' s' h0 hn ho ι D a w hT he hf)
  case region id ops draw =>
   simp only [ZcZ] at hn
   cases draw with
   | true =>
    simp only [cond_true] at h
    split at h
    ·rename_i es T1 s1 h1
     injection h with h; simp only [Prod.mk.injEq] at h; obtain ⟨rfl, rfl, rfl⟩ := h
     exact wpIn_region_any F.mixed (ZnF hn _ _ _ _ (Zq9 F (fun fu' _ => (Zd8 F fu').2.2.1) h1 ho hT he hf fun ι' a' w' g1 g2 g3 => ⟨rfl, rfl, ι', g1, g2, g3⟩))
    ·cases h
   | false =>
   simp only [cond_false] at h
   split at h
   ·rename_i T1 s1 h1
    injection h with h; simp only [Prod.mk.injEq] at h; obtain ⟨rfl, rfl, rfl⟩ := h
    exact wpIn_region_list (Zot _ _ _ hn ((Zd8 F fu).2.1 nt ops ops.toList T s T1 s1 h1 ho ι D a w _ hT he hf fun ι' a' w' g1 g2 g3 => ⟨rfl, rfl, ι', g1, g2, g3⟩))
   ·cases h
  all_goals cases h
end
end Ev
end Go.Proofs.YtelfeeoobdpmkaaGreat
/- Ranges over functions: the rounds, the iterator, the statement. -/
namespace Go.Proofs.YtelfeeoobdpmkaaGreat
open Go.RowKit
namespace Ev
noncomputable section
structure Cx where
 nt : Nat
 T : Tr Value
 ps : Array Tmp
 asg : Code
 body : Code
def Zu6 : List Tmp → List Value → Tr Value → Tr Value
 | t :: ts, v :: vs, T => Zu6 ts vs (T.set t (some v))
 | _, _, T => T
def isN : Ex → Bool
 | .normal => true
 | _ => false
def pend : Ex → Option Ex
 | .normal => none
 | e => some e
def Zjf (P : Program) (ext : FuncId → Option Ext) (cx : Cx) (fu : Nat) (xs : List Value) (s : St) : Option (Ex × St) :=
 bif Nat.beq xs.length cx.ps.toList.length && ZF (fun t => Nat.blt t cx.nt) cx.ps.toList && ZcZ cx.asg && ZcZ cx.body then
  match Za3 P ext cx.nt fu cx.asg (Zu6 cx.ps.toList xs cx.T) s with
  | some (.normal, T1, s1) => match Za3 P ext cx.nt fu cx.body T1 s1 with
   | some (e, _, s2) => some (e, s2)
   | none => none
  | _ => none
 else none
def Zs5 (ys : List Tmp) (o : Oper) : Option (Array Operand) :=
 match o.op with
 | .call c => match c.callee with
  | .value (.tmp t) => bif Zi7 t ys then some c.args else none
  | _ => none
 | _ => none
def ZnG (ys : List Tmp) (o : Oper) : Bool :=
 match o.op with
 | .move (.tmp t) => Zi7 t ys
 | _ => false
def Ztm (dst : Option Tmp) (ys : List Tmp) : List Tmp := match dst with | some d => ys.filter (fun t => !Nat.beq t d) | none => ys
def addY (dst : Option Tmp) (ys : List Tmp) : List Tmp := match dst with | some d => d :: ys | none => ys
def ZeL (P : Program) (ext : FuncId → Option Ext) (nt : Nat) (cx : Cx) (fu : Nat) (ops : Array Oper) : List Oper → Tr Value → St → List Tmp → Option Ex → Option (Tr Value × St × List Tmp × Option Ex)
 | [], T, s, ys, pe => some (T, s, ys, pe)
 | o :: l, T, s, ys, pe =>
  bif ZeY nt o.dst && ZF ZeI o.op.operands.toList && (ZhN o && o.guard.isNone) then
   match Zs5 ys o with
   | some xs => match pe with
    | none => match Zjf P ext cx fu (xs.toList.map (opnd T)) s with
     | some (e, s1) => ZeL P ext nt cx fu ops l (Zdg T o.dst (.bool (isN e))) s1 (Ztm o.dst ys) (pend e)
     | none => none
    | some _ => none
   | none => bif ZnG ys o then ZeL P ext nt cx fu ops l (Zdg T o.dst (.chan (some 0))) s (addY o.dst ys) pe
    else match Zff P ext fu (opnd T) o s with
     | some (v, s1) => ZeL P ext nt cx fu ops l (Zdg T o.dst v) s1 (Ztm o.dst ys) pe
     | none => none
  else none
def evI (P : Program) (ext : FuncId → Option Ext) (nt : Nat) (cx : Cx) : Nat → Code → Tr Value → St → List Tmp → Option Ex → Option (Ex × Tr Value × St × List Tmp × Option Ex)
 | 0, _, _, _, _, _ => none
 | fu + 1, c, T, s, ys, pe => match c with
  | .skip => some (.normal, T, s, ys, pe)
  | .ret => some (.ret, T, s, ys, pe)
  | .exit id => some (.exit id, T, s, ys, pe)
  | .seq a b => match evI P ext nt cx fu a T s ys pe with
   | some (.normal, T', s', ys', pe') => evI P ext nt cx fu b T' s' ys' pe'
   | some (.exit i, r) => some (.exit i, r)
   | some (.ret, r) => some (.ret, r)
   | none => none
  | .cond x a b => match opnd T x with
   | .bool t => match t with
    | true => evI P ext nt cx fu a T s ys pe
    | false => evI P ext nt cx fu b T s ys pe
   | _ => none
  | .block id a => match evI P ext nt cx fu a T s ys pe with
   | some (.exit i, r) => bif Nat.beq i id then some (.normal, r) else some (.exit i, r)
   | some (.normal, r) => some (.normal, r)
   | some (.ret, r) => some (.ret, r)
   | none => none
  | .loop a => match evI P ext nt cx fu a T s ys pe with
   | some (.normal, T', s', ys', pe') => evI P ext nt cx fu (.loop a) T' s' ys' pe'
   | some (.exit i, r) => some (.exit i, r)
   | some (.ret, r) => some (.ret, r)
   | none => none
  | .region _ ops draw => match draw with
   | true => none
   | false => match ZeL P ext nt cx fu ops ops.toList T s ys pe with
    | some (T', s', ys', pe') => some (.normal, T', s', ys', pe')
    | none => none
  | _ => none
def ZqF (P : Program) (ext : FuncId → Option Ext) (nt fu : Nat) (g : Operand) (ps : Array Tmp) (asg body : Code) (T : Tr Value) (s : St) : Option (Ex × St) :=
 match opnd T g with
 | .func (.func gf) av bv => match P.funcs[gf]? with
  | some fn => match fn.body with
   | some c => bif ZeI g && Nat.ble (av ++ #[Value.chan (some 0)] ++ bv).size fn.ntmps && Nat.beq fn.results.toList.length 0 then
     match evI P ext fn.ntmps ⟨nt, T, ps, asg, body⟩ fu c (Zez 0 (av ++ #[Value.chan (some 0)] ++ bv).toList .nil) s [av.size] none with
     | some (.exit _, _) => none
     | some (_, _, s', _, none) => some (.normal, s')
     | some (_, _, s', _, some e) => bif isN e then none else some (e, s')
     | none => none
    else none
   | none => none
  | none => none
 | _ => none
def evR (P : Program) (ext : FuncId → Option Ext) (nt : Nat) : Nat → Code → Tr Value → St → Bool → Option (Ex × Tr Value × St × Bool)
 | 0, _, _, _, _ => none
 | fu + 1, c, T, s, m => match c with
  | .seq a b => match evR P ext nt fu a T s m with
   | some (.normal, T', s', m') => evR P ext nt fu b T' s' m'
   | some (.exit i, r) => some (.exit i, r)
   | some (.ret, r) => some (.ret, r)
   | none => none
  | .cond x a b => match opnd T x with
   | .bool t => match t with
    | true => evR P ext nt fu a T s m
    | false => evR P ext nt fu b T s m
   | _ => none
  | .block id a => match evR P ext nt fu a T s m with
   | some (.exit i, r) => bif Nat.beq i id then some (.normal, r) else some (.exit i, r)
   | some (.normal, r) => some (.normal, r)
   | some (.ret, r) => some (.ret, r)
   | none => none
  | .rangeFunc g ps asg body => bif m then none else match ZqF P ext nt fu g ps asg body T s with
   | some (e, s') => some (e, T, s', true)
   | none => none
  | .region i ops draw => match Za3 P ext nt (fu + 1) (.region i ops draw) T s with
   | some (e, T', s') => some (e, T', s', m)
   | none => none
  | .loop a => match Za3 P ext nt (fu + 1) (.loop a) T s with
   | some (e, T', s') => some (e, T', s', m)
   | none => none
  | .skip => some (.normal, T, s, m)
  | .ret => some (.ret, T, s, m)
  | .exit id => some (.exit id, T, s, m)
  | _ => none
def Zgn (P : Program) (ext : FuncId → Option Ext) (fu : Nat) (f : FuncId) (args : Array Value) (s : St) : Out :=
 match P.funcs[f]? with
 | some fn => match fn.body with
  | some c => bif Nat.ble args.size fn.ntmps then match evR P ext fn.ntmps fu c (Zez 0 args.toList .nil) s false with
   | some (.exit _, _) => none
   | some (_, T, s', _) => match Zb1 P T s' fn.results.toList with
    | some [v] => some (v, s')
    | some vs => some (.tuple vs.toArray, s')
    | none => none
   | none => none
   else none
  | none => none
 | none => none
end
section
variable {P : Program} {ext : FuncId → Option Ext}
theorem Step.put {ι0 ι : Ren} {h0 h : AH} {w0 W : World} (st : Step P ι0 h0 w0 ι h W) {l : Nat} (hl : w0.heap.size ≤ l) (hn : ∀ k b, ι k = some b → b.1 ≠ l) (o : Obj) : Step P ι0 h0 w0 ι h (W.putObj l o) where
 ext := st.ext
 emb := ⟨fun k c t hk => by
   obtain ⟨b, C, q1, q2, q3⟩ := st.emb.obj k c t hk
   exact ⟨b, C, q1, (World.putObj_heap_other (hn k b q1)).trans q2, q3⟩,
  fun k O hk => by
   obtain ⟨b, q1, q2⟩ := st.emb.ro k O hk
   exact ⟨b, q1, q2.on (World.putObj_heap_other (hn k b q1))⟩, st.emb.inj, fun k b hk => by
   have := st.emb.lt k b hk
   simpa [World.putObj] using this, fun b base id q hq => by
   obtain ⟨m1, m2, m3⟩ := st.emb.mks b base id q hq
   exact ⟨m1, ⟨m2.1.ext (fun _ _ h => h) (World.putObj_heap_other (by rw [← m1]; exact hn _ q hq)), m2.2⟩, m3⟩⟩
 os := st.os
 tape := st.tape
 output := st.output
 size := by have := st.size; simpa [World.putObj] using this
 frame := fun b hb hc => (World.putObj_heap_other (by omega)).trans (st.frame b hb hc)
 new := st.new
 alive := st.alive
 kind := st.kind
structure IS (P : Program) (ι0 : Ren) (h0 : AH) (w0 : World) (n0 : Nat) (cn : Nat) (cT : Tr Value) (ac : Act) (l K : Nat) (R : Loop) (ι : Ren) (s : St) (W : World) : Prop where
 st : Step P ι0 h0 w0 ι s.h.get W
 dm : Dom ι0 ι n0 s.n
 hn : n0 ≤ s.n
 tr : TR ι cn [] cT { tmps := ac.tmps, defers := [] }
 lo : W.heap[l]? = some (.loop R)
 de : W.heap[K]? = some (.deferred (some []))
 ll : w0.heap.size ≤ l
 lk : K ≠ l
 nl : ∀ k b, ι k = some b → b.1 ≠ l ∧ b.1 ≠ K
theorem Znc {ι ι1 : Ren} {h h1 : AH} {W W1 : World} (g : Step P ι h W ι1 h1 W1) {l : Nat} (hl : l < W.heap.size) (hn : ∀ k b, ι k = some b → b.1 ≠ l) : (∀ k b, ι1 k = some b → b.1 ≠ l) ∧ W1.heap[l]? = W.heap[l]? := by
 refine ⟨fun k b hk => ?_, g.frame l hl fun k c _ hc => hn k c hc⟩
 cases hi : ι k with
 | some c =>
  have := g.ext k c hi
  rw [hk] at this
  injection this with this
  rw [this]; exact hn k c hi
 | none =>
  rcases g.new k b hi hk with h | ⟨j, c, _, hj, e⟩
  ·omega
  ·rw [← e]; exact hn j c hj
section
variable {ι0 : Ren} {h0 : AH} {w0 : World} {n0 cn : Nat} {cT : Tr Value} {ac : Act} {l K : Nat} {R : Loop}
theorem IS.step {ι ι1 : Ren} {s s1 : St} {W W1 : World} (I : IS P ι0 h0 w0 n0 cn cT ac l K R ι s W) (g1 : Step P ι s.h.get W ι1 s1.h.get W1) (g2 : Dom ι ι1 s.n s1.n) (hle : s.n ≤ s1.n) : IS P ι0 h0 w0 n0 cn cT ac l K R ι1 s1 W1 := by
 have hl : l < W.heap.size := (Array.getElem?_eq_some_iff.1 I.lo).1
 have hk : K < W.heap.size := (Array.getElem?_eq_some_iff.1 I.de).1
 obtain ⟨a1, a2⟩ := Znc g1 hl fun k b h => (I.nl k b h).1
 obtain ⟨b1, b2⟩ := Znc g1 hk fun k b h => (I.nl k b h).2
 exact ⟨I.st.trans g1, I.dm.trans g2 I.hn hle, Nat.le_trans I.hn hle, I.tr.on g1.ext, a2.trans I.lo, b2.trans I.de, I.ll, I.lk, fun k b h => ⟨a1 k b h, b1 k b h⟩⟩
theorem IS.put {ι : Ren} {s : St} {W : World} (I : IS P ι0 h0 w0 n0 cn cT ac l K R ι s W) (R' : Loop) : IS P ι0 h0 w0 n0 cn cT ac l K R' ι s (W.putObj l (.loop R')) := by
 have hl : l < W.heap.size := (Array.getElem?_eq_some_iff.1 I.lo).1
 exact ⟨I.st.put I.ll (fun k b h => (I.nl k b h).1) _, I.dm, I.hn, I.tr, World.putObj_heap_same hl, (World.putObj_heap_other I.lk).trans I.de, I.ll, I.lk, I.nl⟩
end
def Zv5 : Ex → Code
 | .exit i => .exit i
 | _ => .ret
def Rp (R : Loop) : Option Ex → Loop
 | none => { R with state := .ready, pending := none }
 | some e => { R with state := .done, pending := some (Zv5 e) }
theorem ZtR {ι : Ren} {nt : Nat} : ∀ (ps : List Tmp) (xs xs' : List Value) (T : Tr Value) (t : Array Value), TR ι nt [] T { tmps := t, defers := [] } → xs.length = ps.length → VRs ι xs.toArray xs'.toArray → ZF (fun t => Nat.blt t nt) ps = true →
  TR ι nt [] (Zu6 ps xs T) { tmps := (ps.zip xs').foldl (fun t p => t.setIfInBounds p.1 p.2) t, defers := [] }
 | [], xs, xs', T, t, hT, hl, hx, hp => by
  cases xs with
  | nil => exact hT
  | cons x xs => simp at hl
 | p :: ps, [], xs', T, t, hT, hl, hx, hp => by simp at hl
 | p :: ps, x :: xs, [], T, t, hT, hl, hx, hp => by have := hx.1; simp at this
 | p :: ps, x :: xs, x' :: xs', T, t, hT, hl, hx, hp => by
  have hp1 : ZeY nt (some p) = true := ZaA hp p (List.mem_cons_self ..)
  have hp2 : ZF (fun t => Nat.blt t nt) ps = true := Zoo fun y hy => ZaA hp y (List.mem_cons_of_mem _ hy)
  have h1 : VR ι x x' := hx.2 0 x x' (by simp) (by simp)
  have h2 : VRs ι xs.toArray xs'.toArray := ⟨by have := hx.1; simpa using this, fun i y y' hy hy' => hx.2 (i + 1) y y' (by simpa using hy) (by simpa using hy')⟩
  exact ZtR ps xs xs' (T.set p (some x)) (t.setIfInBounds p x') (hT.put (dst := some p) hp1 h1) (by simpa using hl) h2 hp2
section
variable {ι0 : Ren} {h0 : AH} {w0 : World} {n0 : Nat} {ac : Act} {l K : Nat} {R : Loop} {cx : Cx}
theorem ZrV (F : Fit P ext) {fu : Nat} {xs : List Value} {s s' : St} {e : Ex} (h : Zjf P ext cx fu xs s = some (e, s')) (ho : ∀ p ∈ s'.ob, p.1 = p.2) {ι : Ren} {W : World}
  (hR : R.tmps = ac.tmps ∧ R.params = cx.ps ∧ R.assign = cx.asg ∧ R.body = cx.body) (I : IS P ι0 h0 w0 n0 cx.nt cx.T ac l K (Rp R none) ι s W) (hf : Fresh ι s.n s'.n) {xs' : Array Value} (hx : VRs ι xs.toArray xs') :
  ∃ tm, (Instr.yield l xs').run P W = .ok (.round l R.fn tm cx.asg cx.body) W ∧
   RoundIn (Fr none) 0 P l R.fn tm cx.asg cx.body W fun en W' => en = .returned (.bool (isN e)) ∧ ∃ ι', (∀ k b, ι k = some b → ι' k = some b) ∧ Dom ι ι' s.n s'.n ∧ IS P ι0 h0 w0 n0 cx.nt cx.T ac l K (Rp R (pend e)) ι' s' W' := by
 unfold Zjf at h
 obtain ⟨hg, h⟩ := Zv h
 simp only [Bool.and_eq_true] at hg
 obtain ⟨⟨⟨hl, hps⟩, hna⟩, hnb⟩ := hg
 have hl := Nat.eq_of_beq_eq_true hl
 obtain ⟨upC, _⟩ := Zc4 (P := P) (ext := ext) (fun f g hg => (F.hp f g hg).up) fu
 split at h
 ·rename_i T1 s1 h1
  split at h
  ·rename_i e' T2 s2 h2
   injection h with h; injection h with q1 q2; subst q1 q2
   have u1 := upC _ _ _ _ _ _ _ h1
   have u2 := upC _ _ _ _ _ _ _ h2
   have hy := run_yield (P := P) (args := xs') I.lo (by
    show xs'.size = R.params.size
    rw [hR.2.1]
    have a := hx.1
    have b := hl
    simp only [List.size_toArray, Array.length_toList] at a b
    omega)
   have e1 : (Rp R none).tmps = ac.tmps := hR.1
   have e2 : (Rp R none).params = cx.ps := hR.2.1
   have e3 : (Rp R none).assign = cx.asg := hR.2.2.1
   have e4 : (Rp R none).body = cx.body := hR.2.2.2
   have e5 : (Rp R none).fn = R.fn := rfl
   rw [e1, e2, e3, e4, e5] at hy
   refine ⟨_, hy, ?_⟩
   have htr := ZtR cx.ps.toList xs xs'.toList cx.T ac.tmps I.tr hl (by simpa using hx) hps
   have hfold : (cx.ps.zip xs').foldl (fun (tmps : Array Value) (x : Tmp × Value) => match x with | (t, a) => tmps.setIfInBounds t a) ac.tmps = (cx.ps.toList.zip xs'.toList).foldl (fun t p => t.setIfInBounds p.1 p.2) ac.tmps := by
    rw [← Array.foldl_toList, Array.toList_zip]
   rw [hfold]
   refine roundIn_of_wpIn (F := Fr none) trivial ?_
   refine wpIn_mono (((ZqE (r := some l) F fu).1 cx.nt cx.asg _ s .normal T1 s1 h1 hna (ZaY u2.ob ho) ι [] _ W htr I.st.emb (hf.mono (Nat.le_refl _) u2.n)) : Code.wpIn (Fr (some l)) 0 P _ _ _ W) ?_
   rintro ex a1 w1 ⟨rfl, ι1, g1, g2, g3⟩
   have I1 := I.step g1 g2 u1.n
   refine ⟨_, run_beginRound I1.lo rfl, ?_⟩
   have I2 := I1.put { Rp R none with state := .busy }
   refine wpIn_mono (((ZqE (r := some l) F fu).1 cx.nt cx.body T1 s1 e' T2 s2 h2 hnb ho ι1 [] a1 _ g3 I2.st.emb (hf.after g2 u1.n)) : Code.wpIn (Fr (some l)) 0 P _ _ _ _) ?_
   rintro ex a2 w2 ⟨rfl, ι2, k1, k2, k3⟩
   have I3 := I2.step k1 k2 u2.n
   have hext : ∀ k b, ι k = some b → ι2 k = some b := fun k b hk => k1.ext k b (g1.ext k b hk)
   have hdom : Dom ι ι2 s.n s2.n := g2.trans k2 u1.n u2.n
   cases e' with
   | normal => exact ⟨_, _, run_endRound none I3.lo, rfl, ι2, hext, hdom, I3.put _⟩
   | ret => exact ⟨_, _, run_endRound (some .ret) I3.lo, rfl, ι2, hext, hdom, I3.put _⟩
   | exit i => exact ⟨_, _, run_endRound (some (.exit i)) I3.lo, rfl, ι2, hext, hdom, I3.put _⟩
  ·cases h
 ·cases h
end
end
end Ev
end Go.Proofs.YtelfeeoobdpmkaaGreat
/- Ranges over functions: the iterator's code, the statement, the function. -/
namespace Go.Proofs.YtelfeeoobdpmkaaGreat
open Go.RowKit
namespace Ev
section
variable {P : Program} {ext : FuncId → Option Ext}
theorem ZqG (F : Fit P ext) {cx : Cx} {fu : Nat} {xs : List Value} {s s' : St} {e : Ex} (h : Zjf P ext cx fu xs s = some (e, s')) : Up s s' := by
 unfold Zjf at h
 obtain ⟨_, h⟩ := Zv h
 obtain ⟨upC, _⟩ := Zc4 (P := P) (ext := ext) (fun f g hg => (F.hp f g hg).up) fu
 split at h
 ·rename_i T1 s1 h1
  split at h
  ·rename_i e' T2 s2 h2
   injection h with h; injection h with q1 q2; subst q1 q2
   exact (upC _ _ _ _ _ _ _ h1).trans (upC _ _ _ _ _ _ _ h2)
  ·cases h
 ·cases h
theorem ZhA (F : Fit P ext) {nt : Nat} {cx : Cx} {fu : Nat} {ops : Array Oper} : ∀ (l : List Oper) (T : Tr Value) (s : St) (ys : List Tmp) (pe : Option Ex) (T' : Tr Value) (s' : St) (ys' : List Tmp) (pe' : Option Ex), ZeL P ext nt cx fu ops l T s ys pe = some (T', s', ys', pe') → Up s s'
 | [], T, s, ys, pe, T', s', ys', pe', h => by
  simp only [ZeL] at h
  injection h with h; simp only [Prod.mk.injEq] at h; obtain ⟨rfl, rfl, rfl, rfl⟩ := h
  exact Up.refl _
 | o :: l, T, s, ys, pe, T', s', ys', pe', h => by
  simp only [ZeL] at h
  obtain ⟨_, h⟩ := Zv h
  split at h
  ·split at h
   ·split at h
    ·rename_i e s1 h1
     exact (ZqG F h1).trans (ZhA F l _ _ _ _ _ _ _ _ h)
    ·cases h
   ·cases h
  ·cases hm : ZnG ys o with
   | true => rw [hm] at h; exact ZhA F l _ _ _ _ _ _ _ _ h
   | false =>
    rw [hm] at h
    simp only [cond_false] at h
    split at h
    ·rename_i v s1 h1
     exact ((Zc4 (P := P) (ext := ext) (fun f g hg => (F.hp f g hg).up) fu).2.2.1 _ _ _ _ _ h1).trans (ZhA F l _ _ _ _ _ _ _ _ h)
    ·cases h
theorem Zds (F : Fit P ext) {nt : Nat} {cx : Cx} : ∀ (fu : Nat) (c : Code) (T : Tr Value) (s : St) (ys : List Tmp) (pe : Option Ex) (e : Ex) (T' : Tr Value) (s' : St) (ys' : List Tmp) (pe' : Option Ex), evI P ext nt cx fu c T s ys pe = some (e, T', s', ys', pe') → Up s s'
 | 0, _, _, _, _, _, _, _, _, _, _, h => by simp [evI] at h
 | fu + 1, c, T, s, ys, pe, e, T', s', ys', pe', h => by
  cases c <;> simp only [evI] at h
  case skip => injection h with h; simp only [Prod.mk.injEq] at h; obtain ⟨rfl, rfl, rfl, rfl, rfl⟩ := h; exact Up.refl _
  case ret => injection h with h; simp only [Prod.mk.injEq] at h; obtain ⟨rfl, rfl, rfl, rfl, rfl⟩ := h; exact Up.refl _
  case exit id => injection h with h; simp only [Prod.mk.injEq] at h; obtain ⟨rfl, rfl, rfl, rfl, rfl⟩ := h; exact Up.refl _
  case seq x y =>
   split at h
   ·rename_i T1 s1 ys1 pe1 h1; exact (Zds F fu _ _ _ _ _ _ _ _ _ _ h1).trans (Zds F fu _ _ _ _ _ _ _ _ _ _ h)
   ·rename_i i r h1; injection h with h; simp only [Prod.mk.injEq] at h; obtain ⟨rfl, rfl⟩ := h; exact Zds F fu _ _ _ _ _ _ _ _ _ _ h1
   ·rename_i r h1; injection h with h; simp only [Prod.mk.injEq] at h; obtain ⟨rfl, rfl⟩ := h; exact Zds F fu _ _ _ _ _ _ _ _ _ _ h1
   ·cases h
  case cond x y z =>
   split at h
   ·split at h
    ·exact Zds F fu _ _ _ _ _ _ _ _ _ _ h
    ·exact Zds F fu _ _ _ _ _ _ _ _ _ _ h
   ·cases h
  case block id x =>
   split at h
   ·rename_i i r h1
    cases hb : Nat.beq i id with
    | true => rw [hb] at h; injection h with h; simp only [Prod.mk.injEq] at h; obtain ⟨rfl, rfl⟩ := h; exact Zds F fu _ _ _ _ _ _ _ _ _ _ h1
    | false => rw [hb] at h; injection h with h; simp only [Prod.mk.injEq] at h; obtain ⟨rfl, rfl⟩ := h; exact Zds F fu _ _ _ _ _ _ _ _ _ _ h1
   ·rename_i r h1; injection h with h; simp only [Prod.mk.injEq] at h; obtain ⟨rfl, rfl⟩ := h; exact Zds F fu _ _ _ _ _ _ _ _ _ _ h1
   ·rename_i r h1; injection h with h; simp only [Prod.mk.injEq] at h; obtain ⟨rfl, rfl⟩ := h; exact Zds F fu _ _ _ _ _ _ _ _ _ _ h1
   ·cases h
  case loop x =>
   split at h
   ·rename_i T1 s1 ys1 pe1 h1; exact (Zds F fu _ _ _ _ _ _ _ _ _ _ h1).trans (Zds F fu _ _ _ _ _ _ _ _ _ _ h)
   ·rename_i i r h1; injection h with h; simp only [Prod.mk.injEq] at h; obtain ⟨rfl, rfl⟩ := h; exact Zds F fu _ _ _ _ _ _ _ _ _ _ h1
   ·rename_i r h1; injection h with h; simp only [Prod.mk.injEq] at h; obtain ⟨rfl, rfl⟩ := h; exact Zds F fu _ _ _ _ _ _ _ _ _ _ h1
   ·cases h
  case region id ops draw =>
   split at h
   ·cases h
   ·split at h
    ·rename_i T1 s1 ys1 pe1 h1
     injection h with h; simp only [Prod.mk.injEq] at h; obtain ⟨rfl, rfl, rfl, rfl, rfl⟩ := h
     exact ZhA F _ _ _ _ _ _ _ _ _ h1
    ·cases h
  all_goals cases h
def YS (l : Nat) (ys : List Tmp) (a : Act) : Prop := ∀ t ∈ ys, a.tmps.getD t undef = .func (.yield l) #[] #[]
theorem YS.drop {l : Nat} {ys : List Tmp} {a : Act} {nt : Nat} (h : YS l ys a) (hs : a.tmps.size = nt) {dst : Option Tmp} (hd : ZeY nt dst = true) (v : Value) : YS l (Ztm dst ys) (a.put dst v) := fun t ht => by
 rw [ZmZ hs hd]
 cases dst with
 | none => rw [if_neg (by simp)]; exact h t ht
 | some d =>
  have ht : t ∈ ys.filter (fun t => !Nat.beq t d) := ht
  obtain ⟨h1, h2⟩ := List.mem_filter.1 ht
  have : ¬ d = t := fun e => by subst e; simp at h2
  rw [if_neg (by simpa using this)]
  exact h t h1
theorem YS.add {l : Nat} {ys : List Tmp} {a : Act} {nt : Nat} (h : YS l ys a) (hs : a.tmps.size = nt) {dst : Option Tmp} (hd : ZeY nt dst = true) : YS l (addY dst ys) (a.put dst (.func (.yield l) #[] #[])) := fun t ht => by
 rw [ZmZ hs hd]
 split
 ·rfl
 ·rename_i hne
  cases dst with
  | none => exact h t ht
  | some d =>
   rcases List.mem_cons.1 (show t ∈ d :: ys from ht) with rfl | ht
   ·exact absurd rfl hne
   ·exact h t ht
section
variable {ι0 : Ren} {h0 : AH} {w0 : World} {n0 : Nat} {ac : Act} {l0 K : Nat} {R : Loop} {cx : Cx}
theorem Zhz (F : Fit P ext) (hR : R.tmps = ac.tmps ∧ R.params = cx.ps ∧ R.assign = cx.asg ∧ R.body = cx.body) {nt fu : Nat} {ops : Array Oper} : ∀ (l : List Oper) (T : Tr Value) (s : St) (ys : List Tmp) (pe : Option Ex) (T' : Tr Value) (s' : St) (ys' : List Tmp) (pe' : Option Ex), ZeL P ext nt cx fu ops l T s ys pe = some (T', s', ys', pe') → (∀ p ∈ s'.ob, p.1 = p.2) →
  ∀ ι a W (Q : Exit → Act → World → Prop), TR ι nt [] T a → YS l0 ys a → IS P ι0 h0 w0 n0 cx.nt cx.T ac l0 K (Rp R pe) ι s W → Fresh ι s.n s'.n →
   (∀ ι' a' W', TR ι' nt [] T' a' → YS l0 ys' a' → IS P ι0 h0 w0 n0 cx.nt cx.T ac l0 K (Rp R pe') ι' s' W' → Dom ι ι' s.n s'.n → Q .normal a' W') → wpListIn (Fr none) 0 P ops Q l a W
 | [], T, s, ys, pe, T', s', ys', pe', h, ho, ι, a, W, Q, hT, hY, I, hf, hQ => by
  simp only [ZeL] at h
  injection h with h; simp only [Prod.mk.injEq] at h; obtain ⟨rfl, rfl, rfl, rfl⟩ := h
  exact hQ ι a W hT hY I Dom.refl
 | o :: l, T, s, ys, pe, T', s', ys', pe', h, ho, ι, a, W, Q, hT, hY, I, hf, hQ => by
  simp only [ZeL] at h
  obtain ⟨hg, h⟩ := Zv h
  simp only [Bool.and_eq_true] at hg
  obtain ⟨⟨hd, hgo⟩, hnd, hgu⟩ := hg
  have hnd := ZiD hnd
  have hgu : o.guard = none := by simpa using hgu
  have hwant : Region.wanted o (yielded ops a.tmps) = true := (Zdq (ops := ops) (s := s) (s' := s) (b := true) (fun t _ => hT.2.2 t) (by simp [ZdW, hgu])).1
  unfold wpListIn
  rw [if_pos hwant]
  split at h
  ·rename_i xs hy
   have hy : ∃ c t, o.op = .call c ∧ c.callee = .value (.tmp t) ∧ t ∈ ys ∧ c.args = xs := by
    unfold Zs5 at hy
    split at hy
    ·rename_i c hop
     split at hy
     ·rename_i t hc
      obtain ⟨hm, hy⟩ := Zv hy
      injection hy with hy
      exact ⟨c, t, hop, hc, Zfg.1 hm, hy⟩
     ·cases hy
    ·cases hy
   obtain ⟨c, t, hop, hc, ht, rfl⟩ := hy
   split at h
   ·split at h
    ·rename_i e s1 h1
     have u1 := ZqG F h1
     have u2 := ZhA F _ _ _ _ _ _ _ _ _ h
     have hx : VRs ι (c.args.toList.map (opnd T)).toArray (c.args.map (Zcc a)) := by
      have := Zh6 hT.opnd c.args
      rwa [show (c.args.toList.map (opnd T)).toArray = c.args.map (opnd T) by rw [← Array.toList_map]]
     obtain ⟨tm, hrun, hround⟩ := ZrV F h1 (ZaY u2.ob ho) hR I (hf.mono (Nat.le_refl _) u2.n) hx
     have hex : (execOp a.eval o).run P W = .ok (.round l0 R.fn tm cx.asg cx.body) W := by
      rw [← ZgI (fun cs b e => by rw [hop] at e; cases e) hgo, ← hrun]
      have hv : Zcc a (.tmp t) = .func (.yield l0) #[] #[] := hY t ht
      simp [execOp, hop, resolve, hc, hv, Deferred.ofValue, invoke, Result.andThen, Sem.run]
     refine ⟨fun _ _ => trivial, ?_⟩
     rw [show (Fr none).round = none from rfl, Oper.semAt_none, hex, Oper.uponIn_round]
     refine ⟨fun e => (by cases e), hround.mono ?_⟩
     rintro en W' ⟨rfl, ι', hext, hdom, I'⟩
     refine Zhz F hR l _ s1 _ _ T' s' ys' pe' h ho ι' _ W' Q ((hT.on hext).put hd (VR.of_free rfl)) (hY.drop hT.1 hd _) I' (hf.after hdom u1.n) fun ι2 a2 W2 k1 k2 k3 k4 => hQ ι2 a2 W2 k1 k2 k3 (hdom.trans k4 u1.n u2.n)
    ·cases h
   ·cases h
  ·cases hm : ZnG ys o with
   | true =>
    rw [hm] at h
    simp only [cond_true] at h
    have hm : ∃ t, o.op = .move (.tmp t) ∧ t ∈ ys := by
     unfold ZnG at hm
     split at hm
     ·rename_i t hop; exact ⟨t, hop, Zfg.1 hm⟩
     ·cases hm
    obtain ⟨t, hop, ht⟩ := hm
    have hv : a.eval (.tmp t) = .func (.yield l0) #[] #[] := hY t ht
    refine ⟨fun _ _ => trivial, ?_⟩
    rw [show (Fr none).round = none from rfl, Oper.semAt_none]
    have hex : (execOp a.eval o).run P W = .ok (.value (.func (.yield l0) #[] #[])) W := by
     unfold execOp; rw [hop]; simp only; rw [hv]; rfl
    rw [hex, Oper.uponIn_value]
    exact Zhz F hR l _ s _ pe T' s' ys' pe' h ho ι _ W Q (hT.put hd (VR.glob rfl)) (hY.add hT.1 hd) I hf hQ
   | false =>
    rw [hm] at h
    simp only [cond_false] at h
    split at h
    ·rename_i v s1 hv
     have u1 := (Zc4 (P := P) (ext := ext) (fun f g hg => (F.hp f g hg).up) fu).2.2.1 _ _ _ _ _ hv
     have u2 := ZhA F _ _ _ _ _ _ _ _ _ h
     refine Zos (r := none) (Q0 := fun _ _ _ => False) (fun _ _ _ _ h => h) hnd ((Zd8 F fu).2.2.1 (opnd T) (Zcc a) o s v s1 hv (ZaY u2.ob ho) ι W hT.opnd I.st.emb (hf.mono (Nat.le_refl _) u2.n) a _ _ (ZgI (Zj9 hv) hgo).symm fun v' w' ι' g1 g2 g3 => ?_)
     exact Zhz F hR l _ s1 _ pe T' s' ys' pe' h ho ι' _ w' Q ((hT.on g1.ext).put hd g3) (hY.drop hT.1 hd _) (I.step g1 g2 u1.n) (hf.after g2 u1.n) fun ι2 a2 W2 k1 k2 k3 k4 => hQ ι2 a2 W2 k1 k2 k3 (g2.trans k4 u1.n u2.n)
    ·cases h
end
end
end Ev
end Go.Proofs.YtelfeeoobdpmkaaGreat
/- Ranges over functions: the iterator, the statement. -/
namespace Go.Proofs.YtelfeeoobdpmkaaGreat
open Go.RowKit
namespace Ev
section
variable {P : Program} {ext : FuncId → Option Ext}
section
variable {ι0 : Ren} {h0 : AH} {w0 : World} {n0 : Nat} {ac : Act} {l0 K : Nat} {R : Loop} {cx : Cx}
def ZnH (P : Program) (ι0 : Ren) (h0 : AH) (w0 : World) (n0 : Nat) (cx : Cx) (ac : Act) (l0 K : Nat) (R : Loop) (nt : Nat) (ι : Ren) (s : St) (e : Ex) (T' : Tr Value) (s' : St) (ys' : List Tmp) (pe' : Option Ex) (ex : Exit) (a' : Act) (W' : World) : Prop :=
 ex = e.out ∧ ∃ ι', TR ι' nt [] T' a' ∧ YS l0 ys' a' ∧ IS P ι0 h0 w0 n0 cx.nt cx.T ac l0 K (Rp R pe') ι' s' W' ∧ Dom ι ι' s.n s'.n
theorem Zvp (F : Fit P ext) (hR : R.tmps = ac.tmps ∧ R.params = cx.ps ∧ R.assign = cx.asg ∧ R.body = cx.body) {nt : Nat} : ∀ fu : Nat,
  (∀ c T s ys pe e T' s' ys' pe', evI P ext nt cx fu c T s ys pe = some (e, T', s', ys', pe') → (∀ p ∈ s'.ob, p.1 = p.2) → ∀ ι a W, TR ι nt [] T a → YS l0 ys a → IS P ι0 h0 w0 n0 cx.nt cx.T ac l0 K (Rp R pe) ι s W → Fresh ι s.n s'.n →
   c.wpIn (Fr none) 0 P (ZnH P ι0 h0 w0 n0 cx ac l0 K R nt ι s e T' s' ys' pe') a W) ∧
  (∀ c T s ys pe e T' s' ys' pe', evI P ext nt cx fu (.loop c) T s ys pe = some (e, T', s', ys', pe') → (∀ p ∈ s'.ob, p.1 = p.2) → ∀ ι a W, TR ι nt [] T a → YS l0 ys a → IS P ι0 h0 w0 n0 cx.nt cx.T ac l0 K (Rp R pe) ι s W → Fresh ι s.n s'.n →
   Code.roundsIn (Fr none) 0 P c (ZnH P ι0 h0 w0 n0 cx ac l0 K R nt ι s e T' s' ys' pe') fu a W) := by
 intro fu
 induction fu with
 | zero => exact ⟨fun _ _ _ _ _ _ _ _ _ _ h => by simp [evI] at h, fun _ _ _ _ _ _ _ _ _ _ h => by simp [evI] at h⟩
 | succ fu ih =>
  obtain ⟨ihC, ihL⟩ := ih
  have two : ∀ {ι ι1 : Ren} {s s1 s' : St} {e : Ex} {T' : Tr Value} {ys' : List Tmp} {pe' : Option Ex}, Dom ι ι1 s.n s1.n → s.n ≤ s1.n → s1.n ≤ s'.n → ∀ ex a W, ZnH P ι0 h0 w0 n0 cx ac l0 K R nt ι1 s1 e T' s' ys' pe' ex a W → ZnH P ι0 h0 w0 n0 cx ac l0 K R nt ι s e T' s' ys' pe' ex a W :=
   fun hd h1 h2 ex a W ⟨hx, ι', k1, k2, k3, k4⟩ => ⟨hx, ι', k1, k2, k3, hd.trans k4 h1 h2⟩
  have loops : ∀ c T s ys pe e T' s' ys' pe', evI P ext nt cx (fu + 1) (.loop c) T s ys pe = some (e, T', s', ys', pe') → (∀ p ∈ s'.ob, p.1 = p.2) → ∀ ι a W, TR ι nt [] T a → YS l0 ys a → IS P ι0 h0 w0 n0 cx.nt cx.T ac l0 K (Rp R pe) ι s W → Fresh ι s.n s'.n →
    Code.roundsIn (Fr none) 0 P c (ZnH P ι0 h0 w0 n0 cx ac l0 K R nt ι s e T' s' ys' pe') (fu + 1) a W := by
   intro x T s ys pe e T' s' ys' pe' h ho ι a W hT hY I hf
   simp only [evI] at h
   rw [roundsIn_succ]
   split at h
   ·rename_i T1 s1 ys1 pe1 h1
    have u1 := Zds F fu _ _ _ _ _ _ _ _ _ _ h1
    have u2 := Zds F fu _ _ _ _ _ _ _ _ _ _ h
    refine wpIn_mono (ihC x T s ys pe .normal T1 s1 ys1 pe1 h1 (ZaY u2.ob ho) ι a W hT hY I (hf.mono (Nat.le_refl _) u2.n)) ?_
    rintro ex a1 w1 ⟨rfl, ι1, g1, g2, g3, g4⟩
    exact Zhd (two g4 u1.n u2.n) fu a1 w1 (ihL x T1 s1 ys1 pe1 e T' s' ys' pe' h ho ι1 a1 w1 g1 g2 g3 (hf.after g4 u1.n))
   ·rename_i i r h1
    injection h with h; simp only [Prod.mk.injEq] at h; obtain ⟨rfl, rfl⟩ := h
    refine wpIn_mono (ihC x T s ys pe _ _ _ _ _ h1 ho ι a W hT hY I hf) ?_
    rintro ex a1 w1 ⟨rfl, hq⟩
    exact ⟨rfl, hq⟩
   ·rename_i r h1
    injection h with h; simp only [Prod.mk.injEq] at h; obtain ⟨rfl, rfl⟩ := h
    refine wpIn_mono (ihC x T s ys pe _ _ _ _ _ h1 ho ι a W hT hY I hf) ?_
    rintro ex a1 w1 ⟨rfl, hq⟩
    exact ⟨rfl, hq⟩
   ·cases h
  refine ⟨fun c T s ys pe e T' s' ys' pe' h ho ι a W hT hY I hf => ?_, loops⟩
  have h0' := h
  cases c <;> simp only [evI] at h
  case skip => injection h with h; simp only [Prod.mk.injEq] at h; obtain ⟨rfl, rfl, rfl, rfl, rfl⟩ := h; exact wpIn_skip ⟨rfl, ι, hT, hY, I, Dom.refl⟩
  case ret => injection h with h; simp only [Prod.mk.injEq] at h; obtain ⟨rfl, rfl, rfl, rfl, rfl⟩ := h; exact wpIn_ret ⟨rfl, ι, hT, hY, I, Dom.refl⟩
  case exit id => injection h with h; simp only [Prod.mk.injEq] at h; obtain ⟨rfl, rfl, rfl, rfl, rfl⟩ := h; exact wpIn_exit ⟨rfl, ι, hT, hY, I, Dom.refl⟩
  case seq x y =>
   split at h
   ·rename_i T1 s1 ys1 pe1 h1
    have u1 := Zds F fu _ _ _ _ _ _ _ _ _ _ h1
    have u2 := Zds F fu _ _ _ _ _ _ _ _ _ _ h
    refine wpIn_seq (wpIn_mono (ihC x T s ys pe .normal T1 s1 ys1 pe1 h1 (ZaY u2.ob ho) ι a W hT hY I (hf.mono (Nat.le_refl _) u2.n)) ?_)
    rintro ex a1 w1 ⟨rfl, ι1, g1, g2, g3, g4⟩
    exact wpIn_mono (ihC y T1 s1 ys1 pe1 e T' s' ys' pe' h ho ι1 a1 w1 g1 g2 g3 (hf.after g4 u1.n)) (two g4 u1.n u2.n)
   ·rename_i i r h1
    injection h with h; simp only [Prod.mk.injEq] at h; obtain ⟨rfl, rfl⟩ := h
    refine wpIn_seq (wpIn_mono (ihC x T s ys pe _ _ _ _ _ h1 ho ι a W hT hY I hf) ?_)
    rintro ex a1 w1 ⟨rfl, hq⟩
    exact ⟨rfl, hq⟩
   ·rename_i r h1
    injection h with h; simp only [Prod.mk.injEq] at h; obtain ⟨rfl, rfl⟩ := h
    refine wpIn_seq (wpIn_mono (ihC x T s ys pe _ _ _ _ _ h1 ho ι a W hT hY I hf) ?_)
    rintro ex a1 w1 ⟨rfl, hq⟩
    exact ⟨rfl, hq⟩
   ·cases h
  case cond x y z =>
   split at h
   ·rename_i t ht
    have hx : a.eval x = .bool t := Ze2 ((ht ▸ hT.opnd x : VR ι (.bool t) (Zcc a x)).bool_inv)
    split at h
    ·exact wpIn_cond_true hx (ihC y T s ys pe e T' s' ys' pe' h ho ι a W hT hY I hf)
    ·exact wpIn_cond_false hx (ihC z T s ys pe e T' s' ys' pe' h ho ι a W hT hY I hf)
   ·cases h
  case block id x =>
   split at h
   ·rename_i i r h1
    cases hb : Nat.beq i id with
    | true =>
     rw [hb] at h
     injection h with h; simp only [Prod.mk.injEq] at h; obtain ⟨rfl, rfl⟩ := h
     refine wpIn_block (wpIn_mono (ihC x T s ys pe _ _ _ _ _ h1 ho ι a W hT hY I hf) ?_)
     rintro ex a1 w1 ⟨rfl, hq⟩
     show if i = id then _ else _
     rw [if_pos (Nat.eq_of_beq_eq_true hb)]
     exact ⟨rfl, hq⟩
    | false =>
     rw [hb] at h
     injection h with h; simp only [Prod.mk.injEq] at h; obtain ⟨rfl, rfl⟩ := h
     refine wpIn_block (wpIn_mono (ihC x T s ys pe _ _ _ _ _ h1 ho ι a W hT hY I hf) ?_)
     rintro ex a1 w1 ⟨rfl, hq⟩
     show if i = id then _ else _
     rw [if_neg (fun e => by rw [Zha e] at hb; cases hb)]
     exact ⟨rfl, hq⟩
   ·rename_i r h1
    injection h with h; simp only [Prod.mk.injEq] at h; obtain ⟨rfl, rfl⟩ := h
    refine wpIn_block (wpIn_mono (ihC x T s ys pe _ _ _ _ _ h1 ho ι a W hT hY I hf) ?_)
    rintro ex a1 w1 ⟨rfl, hq⟩
    exact ⟨rfl, hq⟩
   ·rename_i r h1
    injection h with h; simp only [Prod.mk.injEq] at h; obtain ⟨rfl, rfl⟩ := h
    refine wpIn_block (wpIn_mono (ihC x T s ys pe _ _ _ _ _ h1 ho ι a W hT hY I hf) ?_)
    rintro ex a1 w1 ⟨rfl, hq⟩
    exact ⟨rfl, hq⟩
   ·cases h
  case loop x => exact wpIn_loop_rounds (fu + 1) (loops x T s ys pe e T' s' ys' pe' h0' ho ι a W hT hY I hf)
  case region id ops draw =>
   split at h
   ·cases h
   ·split at h
    ·rename_i T1 s1 ys1 pe1 h1
     injection h with h; simp only [Prod.mk.injEq] at h; obtain ⟨rfl, rfl, rfl, rfl, rfl⟩ := h
     exact wpIn_region_list (Zhz F hR ops.toList T s ys pe T1 s1 ys1 pe1 h1 ho ι a W _ hT hY I hf fun ι' a' W' k1 k2 k3 k4 => ⟨rfl, ι', k1, k2, k3, k4⟩)
    ·cases h
  all_goals cases h
end
def Mk (b : Nat) (m : Bool) (D : List Deferred) (ι : Ren) (w : World) : Prop := match m with
 | false => D = []
 | true => ∃ K, b ≤ K ∧ D = [{ target := .collected K, args := #[] }] ∧ w.heap[K]? = some (.deferred (some [])) ∧ ∀ k b, ι k = some b → b.1 ≠ K
theorem Mk.step {b : Nat} {m : Bool} {D : List Deferred} {ι ι1 : Ren} {h h1 : AH} {w w1 : World} (hm : Mk b m D ι w) (g : Step P ι h w ι1 h1 w1) : Mk b m D ι1 w1 := by
 cases m with
 | false => exact hm
 | true =>
  obtain ⟨K, hb, e, hk, hn⟩ := hm
  obtain ⟨a1, a2⟩ := Znc g (Array.getElem?_eq_some_iff.1 hk).1 hn
  exact ⟨K, hb, e, a2.trans hk, a1⟩
def ZjD (b : Nat) (P : Program) (ι : Ren) (s : St) (w : World) (nt : Nat) (e : Ex) (T' : Tr Value) (s' : St) (m' : Bool) (ex : Exit) (a' : Act) (w' : World) : Prop :=
 ex = e.out ∧ ∃ ι' D', Step P ι s.h.get w ι' s'.h.get w' ∧ Dom ι ι' s.n s'.n ∧ TR ι' nt D' T' a' ∧ Mk b m' D' ι' w'
theorem up_rf (F : Fit P ext) {nt fu : Nat} {g : Operand} {ps : Array Tmp} {asg body : Code} {T : Tr Value} {s s' : St} {e : Ex} (h : ZqF P ext nt fu g ps asg body T s = some (e, s')) : Up s s' := by
 unfold ZqF at h
 split at h
 ·split at h
  ·split at h
   ·obtain ⟨_, h⟩ := Zv h
    split at h
    ·cases h
    ·rename_i h1; injection h with h; injection h with q1 q2; subst q2; exact Zds F _ _ _ _ _ _ _ _ _ _ _ h1
    ·rename_i h1; obtain ⟨_, h⟩ := Zj7 h; injection h with h; injection h with q1 q2; subst q2; exact Zds F _ _ _ _ _ _ _ _ _ _ _ h1
    ·cases h
   ·cases h
  ·cases h
 ·cases h
theorem Zu7 (F : Fit P ext) {nt fu : Nat} {g : Operand} {ps : Array Tmp} {asg body : Code} {T : Tr Value} {s s' : St} {e : Ex} (h : ZqF P ext nt fu g ps asg body T s = some (e, s')) (ho : ∀ p ∈ s'.ob, p.1 = p.2) {b : Nat} {ι : Ren} {a : Act} {w : World} (hbw : b ≤ w.heap.size)
  (hT : TR ι nt [] T a) (he : Emb P ι s.h.get w) (hf : Fresh ι s.n s'.n) : (Code.rangeFunc g ps asg body).wpIn (Fr none) 0 P (ZjD b P ι s w nt e T s' true) a w := by
 unfold ZqF at h
 split at h
 ·rename_i gf av bv hg
  split at h
  ·rename_i fn hfn
   split at h
   ·rename_i c hb
    obtain ⟨hgd, h⟩ := Zv h
    simp only [Bool.and_eq_true] at hgd
    obtain ⟨⟨hgd, hsz⟩, hres⟩ := hgd
    have hsz := Nat.le_of_ble_eq_true hsz
    have hres := Nat.eq_of_beq_eq_true hres
    have key : ∃ e0 T1 ys1 pe, evI P ext fn.ntmps ⟨nt, T, ps, asg, body⟩ fu c (Zez 0 (av ++ #[Value.chan (some 0)] ++ bv).toList .nil) s [av.size] none = some (e0, T1, s', ys1, pe) ∧ (e0 = .normal ∨ e0 = .ret) ∧ e = (match pe with | none => .normal | some e => e) ∧ (∀ e1, pe = some e1 → isN e1 = false) := by
     split at h
     ·cases h
     ·rename_i e0 T1 s1 ys1 hne h1
      injection h with h; injection h with q1 q2; subst q1 q2
      refine ⟨e0, T1, ys1, none, h1, ?_, rfl, fun e1 he => by cases he⟩
      cases e0 with
      | normal => exact .inl rfl
      | ret => exact .inr rfl
      | exit i => exact (hne i rfl).elim
     ·rename_i e0 T1 s1 ys1 e1 hne h1
      obtain ⟨hn1, h⟩ := Zj7 h
      injection h with h; injection h with q1 q2; subst q1 q2
      refine ⟨e0, T1, ys1, some e1, h1, ?_, rfl, fun e2 he => by injection he with he; rw [← he]; exact hn1⟩
      cases e0 with
      | normal => exact .inl rfl
      | ret => exact .inr rfl
      | exit i => exact (hne i rfl).elim
     ·cases h
    obtain ⟨e0, T1, ys1, pe, h1, he0, hepe, hnn⟩ := key
    have hgv : ∃ av' bv', Zcc a g = .func (.func gf) av' bv' ∧ VRs ι av av' ∧ VRs ι bv bv' := by
     have hv := hg ▸ hT.opnd g
     generalize Zcc a g = x' at hv
     cases hv with
     | atom h =>
      simp [Ev.atom] at h
      obtain ⟨rfl, rfl⟩ := h
      exact ⟨_, _, rfl, ⟨rfl, fun i x y hx => by simp at hx⟩, ⟨rfl, fun i x y hx => by simp at hx⟩⟩
     | func hs ht h1 h2 => exact ⟨_, _, rfl, ⟨hs, h1⟩, ⟨ht, h2⟩⟩
    obtain ⟨av', bv', hgv, hav, hbv⟩ := hgv
    have hgv : a.eval g = .func (.func gf) av' bv' := by
     cases g with
     | const v => simp only [ZeI] at hgd; simpa [Zcc, hgd, Act.eval] using hgv
     | _ => exact hgv
    refine wpIn_rangeFunc ?_
    intro fn0 _
    obtain ⟨R, hRd⟩ : ∃ R : Loop, R = { state := .ready, pending := none, fn := fn0, tmps := a.tmps, params := ps, assign := asg, body, defers := w.heap.size } := ⟨_, rfl⟩
    obtain ⟨W1, hW1⟩ : ∃ W1, (w.alloc (.deferred (some []))).alloc (.loop R) = W1 := ⟨_, rfl⟩
    have hL1 : W1.heap[w.heap.size + 1]? = some (.loop (Rp R none)) := by
     rw [show Rp R none = R by rw [hRd]; rfl]
     rw [← hW1]; have := World.alloc_heap_new (w.alloc (.deferred (some []))) (.loop R); rwa [World.size_alloc] at this
    have hK1 : W1.heap[w.heap.size]? = some (.deferred (some [])) := by
     rw [← hW1]; exact (Below.heap_alloc _ _ _ (by simp)).trans (World.alloc_heap_new w _)
    have hb1 : Below w.heap.size w W1 := by
     rw [← hW1]; exact ((Below.refl _ w).alloc (Nat.le_refl _) _).alloc (by simp) _
    have I1 : IS P ι s.h.get w s.n nt T a (w.heap.size + 1) w.heap.size (Rp R none) ι s W1 :=
     ⟨Step.below he hb1, Dom.refl, Nat.le_refl _, ⟨hT.1, rfl, hT.2.2⟩, hL1, hK1, by omega, by omega, fun k b hk => by have := he.lt k b hk; omega⟩
    have hargs : VRs ι (av ++ #[Value.chan (some 0)] ++ bv) (av' ++ #[Value.func (.yield (w.heap.size + 1)) #[] #[]] ++ bv') :=
     ZdG (ZdG hav ⟨rfl, fun i x y hx hy => by
      cases i with
      | zero => simp at hx hy; rw [← hx, ← hy]; exact .glob rfl
      | succ i => simp at hx⟩) hbv
    refine ⟨w.heap.size + 1, [{ target := .collected w.heap.size, args := #[] }], W1, { target := .fn (.func gf) bv', args := av' ++ #[.func (.yield (w.heap.size + 1)) #[] #[]] }, W1, gf,
     av' ++ #[.func (.yield (w.heap.size + 1)) #[] #[]] ++ bv', W1, ?_, ?_, fun _ _ => trivial, ?_, fun e => (by cases e), ?_⟩
    ·rw [← hW1, hRd]; exact run_enterLoop_outer _ _ _ _ _
    ·simp only [resolve, hgv]
     simp [go_sem, Deferred.ofValue]
    ·simp [invoke, ZcE hfn (F.go gf fn hfn) hb]
    ·refine callsIn_of_wp_marks hfn hb trivial ?_
     refine wpIn_mono ((Zvp (R := R) (cx := ⟨nt, T, ps, asg, body⟩) (ac := a) F ⟨by rw [hRd], by rw [hRd], by rw [hRd], by rw [hRd]⟩ fu).1 c _ s _ none e0 T1 s' ys1 pe h1 ho ι _ W1 (Zh7 hargs hsz) ?_ I1 hf) ?_
     ·intro t ht
      rw [List.mem_singleton] at ht
      subst ht
      have hs := hav.1
      rw [Array.getD_eq_getD_getElem?, Array.getElem?_append_left (by simp; omega), Array.getElem?_append_left (by simp; omega), Array.getElem?_append_right (by omega)]
      simp [hs]
     ·rintro ex a2 w2 ⟨rfl, ι2, g1, _, I2, g4⟩
      have hr := run_endLoop (P := P) I2.lo (by cases pe <;> simp [Rp])
      have I3 := I2.put { Rp R pe with state := .exhausted }
      have hr2 : ∃ v', (results fn a2.tmps).run P w2 = .ok v' w2 := by
       have hnil : fn.results.toList = [] := List.eq_nil_of_length_eq_zero hres
       obtain ⟨v', q, _⟩ := Zdh (fn := fn) (v := .tuple #[]) g1 I2.st.emb (by rw [hnil]; rfl)
       exact ⟨v', q⟩
      obtain ⟨v', hrun⟩ := hr2
      have fin : LeavesInM (Fr none) (0 - 1) P fn a2.tmps (rangePost (Fr none) 0 P (w.heap.size + 1) (ZjD b P ι s w nt e T s' true) { a with defers := [{ target := .collected w.heap.size, args := #[] }] ++ a.defers }) a2.defers .returning w2 := by
       rw [g1.2.1]
       refine ⟨v', hrun, _, _, hr, ?_⟩
       have post : ZjD b P ι s w nt e T s' true e.out { a with defers := [{ target := .collected w.heap.size, args := #[] }] ++ a.defers } (w2.putObj (w.heap.size + 1) (.loop { Rp R pe with state := .exhausted })) := by
        refine ⟨rfl, ι2, _, I3.st, I3.dm, ⟨I3.tr.1, rfl, I3.tr.2.2⟩, w.heap.size, hbw, ?_, I3.de, fun k b hk => (I3.nl k b hk).2⟩
        rw [hT.2.1]; rfl
       cases pe with
       | none => rw [hepe] at post ⊢; exact post
       | some e1 =>
        cases e1 with
        | normal => exact absurd (hnn _ rfl) (by simp [isN])
        | ret => rw [hepe] at post ⊢; exact wpIn_ret post
        | exit i => rw [hepe] at post ⊢; exact wpIn_exit post
      rcases he0 with rfl | rfl
      ·exact fin
      ·exact fin
   ·cases h
  ·cases h
 ·cases h
end
end Ev
end Go.Proofs.YtelfeeoobdpmkaaGreat
/- Functions with a range over a function do what the runner says of them. -/
namespace Go.Proofs.YtelfeeoobdpmkaaGreat
open Go.RowKit
namespace Ev
section
variable {P : Program} {ext : FuncId → Option Ext}
theorem Zgo (F : Fit P ext) {nt : Nat} : ∀ (fu : Nat) (c : Code) (T : Tr Value) (s : St) (m : Bool) (e : Ex) (T' : Tr Value) (s' : St) (m' : Bool), evR P ext nt fu c T s m = some (e, T', s', m') → Up s s'
 | 0, _, _, _, _, _, _, _, _, h => by simp [evR] at h
 | fu + 1, c, T, s, m, e, T', s', m', h => by
  have upC := (Zc4 (P := P) (ext := ext) (fun f g hg => (F.hp f g hg).up) (fu + 1)).1
  cases c <;> simp only [evR] at h
  case skip => injection h with h; simp only [Prod.mk.injEq] at h; obtain ⟨rfl, rfl, rfl, rfl⟩ := h; exact Up.refl _
  case ret => injection h with h; simp only [Prod.mk.injEq] at h; obtain ⟨rfl, rfl, rfl, rfl⟩ := h; exact Up.refl _
  case exit id => injection h with h; simp only [Prod.mk.injEq] at h; obtain ⟨rfl, rfl, rfl, rfl⟩ := h; exact Up.refl _
  case seq x y =>
   split at h
   ·rename_i T1 s1 m1 h1; exact (Zgo F fu _ _ _ _ _ _ _ _ h1).trans (Zgo F fu _ _ _ _ _ _ _ _ h)
   ·rename_i i r h1; injection h with h; simp only [Prod.mk.injEq] at h; obtain ⟨rfl, rfl⟩ := h; exact Zgo F fu _ _ _ _ _ _ _ _ h1
   ·rename_i r h1; injection h with h; simp only [Prod.mk.injEq] at h; obtain ⟨rfl, rfl⟩ := h; exact Zgo F fu _ _ _ _ _ _ _ _ h1
   ·cases h
  case cond x y z =>
   split at h
   ·split at h
    ·exact Zgo F fu _ _ _ _ _ _ _ _ h
    ·exact Zgo F fu _ _ _ _ _ _ _ _ h
   ·cases h
  case block id x =>
   split at h
   ·rename_i i r h1
    cases hb : Nat.beq i id with
    | true => rw [hb] at h; injection h with h; simp only [Prod.mk.injEq] at h; obtain ⟨rfl, rfl⟩ := h; exact Zgo F fu _ _ _ _ _ _ _ _ h1
    | false => rw [hb] at h; injection h with h; simp only [Prod.mk.injEq] at h; obtain ⟨rfl, rfl⟩ := h; exact Zgo F fu _ _ _ _ _ _ _ _ h1
   ·rename_i r h1; injection h with h; simp only [Prod.mk.injEq] at h; obtain ⟨rfl, rfl⟩ := h; exact Zgo F fu _ _ _ _ _ _ _ _ h1
   ·rename_i r h1; injection h with h; simp only [Prod.mk.injEq] at h; obtain ⟨rfl, rfl⟩ := h; exact Zgo F fu _ _ _ _ _ _ _ _ h1
   ·cases h
  case rangeFunc g ps asg body =>
   obtain ⟨_, h⟩ := Zj7 h
   split at h
   ·rename_i e1 s1 h1
    injection h with h; simp only [Prod.mk.injEq] at h; obtain ⟨rfl, rfl, rfl, rfl⟩ := h
    exact up_rf F h1
   ·cases h
  case region id ops draw =>
   split at h
   ·rename_i e1 T1 s1 h1
    injection h with h; simp only [Prod.mk.injEq] at h; obtain ⟨rfl, rfl, rfl, rfl⟩ := h
    exact upC _ _ _ _ _ _ _ h1
   ·cases h
  case loop x =>
   split at h
   ·rename_i e1 T1 s1 h1
    injection h with h; simp only [Prod.mk.injEq] at h; obtain ⟨rfl, rfl, rfl, rfl⟩ := h
    exact upC _ _ _ _ _ _ _ h1
   ·cases h
  all_goals cases h
theorem Zdt (F : Fit P ext) {nt : Nat} : ∀ (fu : Nat) (c : Code) (T : Tr Value) (s : St) (m : Bool) (e : Ex) (T' : Tr Value) (s' : St) (m' : Bool), evR P ext nt fu c T s m = some (e, T', s', m') → (∀ p ∈ s'.ob, p.1 = p.2) →
  ∀ b ι D a w, b ≤ w.heap.size → TR ι nt D T a → Mk b m D ι w → Emb P ι s.h.get w → Fresh ι s.n s'.n → c.wpIn (Fr none) 0 P (ZjD b P ι s w nt e T' s' m') a w
 | 0, _, _, _, _, _, _, _, _, h => by simp [evR] at h
 | fu + 1, c, T, s, m, e, T', s', m', h => by
  intro ho b ι D a w hbw hT hM he hf
  have code : ∀ {c : Code} {e1 : Ex} {T1 : Tr Value} {s1 : St}, Za3 P ext nt (fu + 1) c T s = some (e1, T1, s1) → (∀ p ∈ s1.ob, p.1 = p.2) → Fresh ι s.n s1.n → c.wpIn (Fr none) 0 P (ZjD b P ι s w nt e1 T1 s1 m) a w := fun h1 ho1 hf1 => by
   refine (wpIn_wide (n := 0)).2 (wp_mono ((Zd8 F (fu + 1)).1 nt _ T s _ _ _ h1 ho1 ι D a w hT he hf1) ?_)
   rintro ex a1 w1 ⟨rfl, ι1, g1, g2, g3⟩
   exact ⟨rfl, ι1, D, g1, g2, g3, hM.step g1⟩
  have two : ∀ {ι1 : Ren} {s1 : St} {w1 : World}, Step P ι s.h.get w ι1 s1.h.get w1 → Dom ι ι1 s.n s1.n → s.n ≤ s1.n → s1.n ≤ s'.n → ∀ ex a W, ZjD b P ι1 s1 w1 nt e T' s' m' ex a W → ZjD b P ι s w nt e T' s' m' ex a W :=
   fun hS hd h1 h2 ex a W ⟨hx, ι', D', k1, k2, k3, k4⟩ => ⟨hx, ι', D', hS.trans k1, hd.trans k2 h1 h2, k3, k4⟩
  cases c <;> simp only [evR] at h
  case skip => injection h with h; simp only [Prod.mk.injEq] at h; obtain ⟨rfl, rfl, rfl, rfl⟩ := h; exact wpIn_skip ⟨rfl, ι, D, Step.refl he, Dom.refl, hT, hM⟩
  case ret => injection h with h; simp only [Prod.mk.injEq] at h; obtain ⟨rfl, rfl, rfl, rfl⟩ := h; exact wpIn_ret ⟨rfl, ι, D, Step.refl he, Dom.refl, hT, hM⟩
  case exit id => injection h with h; simp only [Prod.mk.injEq] at h; obtain ⟨rfl, rfl, rfl, rfl⟩ := h; exact wpIn_exit ⟨rfl, ι, D, Step.refl he, Dom.refl, hT, hM⟩
  case seq x y =>
   split at h
   ·rename_i T1 s1 m1 h1
    have u1 := Zgo F fu _ _ _ _ _ _ _ _ h1
    have u2 := Zgo F fu _ _ _ _ _ _ _ _ h
    refine wpIn_seq (wpIn_mono (Zdt F fu x T s m .normal T1 s1 m1 h1 (ZaY u2.ob ho) b ι D a w hbw hT hM he (hf.mono (Nat.le_refl _) u2.n)) ?_)
    rintro ex a1 w1 ⟨rfl, ι1, D1, g1, g2, g3, g4⟩
    exact wpIn_mono (Zdt F fu y T1 s1 m1 e T' s' m' h ho b ι1 D1 a1 w1 (Nat.le_trans hbw g1.size) g3 g4 g1.emb (hf.after g2 u1.n)) (two g1 g2 u1.n u2.n)
   ·rename_i i r h1
    injection h with h; simp only [Prod.mk.injEq] at h; obtain ⟨rfl, rfl⟩ := h
    refine wpIn_seq (wpIn_mono (Zdt F fu x T s m _ _ _ _ h1 ho b ι D a w hbw hT hM he hf) ?_)
    rintro ex a1 w1 ⟨rfl, hq⟩
    exact ⟨rfl, hq⟩
   ·rename_i r h1
    injection h with h; simp only [Prod.mk.injEq] at h; obtain ⟨rfl, rfl⟩ := h
    refine wpIn_seq (wpIn_mono (Zdt F fu x T s m _ _ _ _ h1 ho b ι D a w hbw hT hM he hf) ?_)
    rintro ex a1 w1 ⟨rfl, hq⟩
    exact ⟨rfl, hq⟩
   ·cases h
  case cond x y z =>
   split at h
   ·rename_i t ht
    have hx : a.eval x = .bool t := Ze2 ((ht ▸ hT.opnd x : VR ι (.bool t) (Zcc a x)).bool_inv)
    split at h
    ·exact wpIn_cond_true hx (Zdt F fu y T s m e T' s' m' h ho b ι D a w hbw hT hM he hf)
    ·exact wpIn_cond_false hx (Zdt F fu z T s m e T' s' m' h ho b ι D a w hbw hT hM he hf)
   ·cases h
  case block id x =>
   split at h
   ·rename_i i r h1
    cases hb : Nat.beq i id with
    | true =>
     rw [hb] at h
     injection h with h; simp only [Prod.mk.injEq] at h; obtain ⟨rfl, rfl⟩ := h
     refine wpIn_block (wpIn_mono (Zdt F fu x T s m _ _ _ _ h1 ho b ι D a w hbw hT hM he hf) ?_)
     rintro ex a1 w1 ⟨rfl, hq⟩
     show if i = id then _ else _
     rw [if_pos (Nat.eq_of_beq_eq_true hb)]
     exact ⟨rfl, hq⟩
    | false =>
     rw [hb] at h
     injection h with h; simp only [Prod.mk.injEq] at h; obtain ⟨rfl, rfl⟩ := h
     refine wpIn_block (wpIn_mono (Zdt F fu x T s m _ _ _ _ h1 ho b ι D a w hbw hT hM he hf) ?_)
     rintro ex a1 w1 ⟨rfl, hq⟩
     show if i = id then _ else _
     rw [if_neg (fun e => by rw [Zha e] at hb; cases hb)]
     exact ⟨rfl, hq⟩
   ·rename_i r h1
    injection h with h; simp only [Prod.mk.injEq] at h; obtain ⟨rfl, rfl⟩ := h
    refine wpIn_block (wpIn_mono (Zdt F fu x T s m _ _ _ _ h1 ho b ι D a w hbw hT hM he hf) ?_)
    rintro ex a1 w1 ⟨rfl, hq⟩
    exact ⟨rfl, hq⟩
   ·rename_i r h1
    injection h with h; simp only [Prod.mk.injEq] at h; obtain ⟨rfl, rfl⟩ := h
    refine wpIn_block (wpIn_mono (Zdt F fu x T s m _ _ _ _ h1 ho b ι D a w hbw hT hM he hf) ?_)
    rintro ex a1 w1 ⟨rfl, hq⟩
    exact ⟨rfl, hq⟩
   ·cases h
  case rangeFunc g ps asg body =>
   obtain ⟨hm, h⟩ := Zj7 h
   split at h
   ·rename_i e1 s1 h1
    injection h with h; simp only [Prod.mk.injEq] at h; obtain ⟨rfl, rfl, rfl, rfl⟩ := h
    subst hm
    obtain rfl : D = [] := hM
    exact Zu7 F h1 ho hbw hT he hf
   ·cases h
  case region id ops draw =>
   split at h
   ·rename_i e1 T1 s1 h1
    injection h with h; simp only [Prod.mk.injEq] at h; obtain ⟨rfl, rfl, rfl, rfl⟩ := h
    exact code h1 ho hf
   ·cases h
  case loop x =>
   split at h
   ·rename_i e1 T1 s1 h1
    injection h with h; simp only [Prod.mk.injEq] at h; obtain ⟨rfl, rfl, rfl, rfl⟩ := h
    exact code h1 ho hf
   ·cases h
  all_goals cases h
theorem Zh0 (F : Fit P ext) {fu : Nat} {f : FuncId} {fn : Func} {c : Code} (hfn : P.funcs[f]? = some fn) (hb : fn.body = some c) : Zom P f (Zgn P ext fu f) := by
 refine ⟨⟨fn, c, hfn, hb⟩, fun args s v s' h => ?_, fun args s v s' h ho ι w args' ha he hf => ?_⟩
 ·unfold Zgn at h
  rw [hfn] at h
  simp only [hb] at h
  replace h := (Zv h).2
  split at h
  ·cases h
  ·rename_i h1
   have u := Zgo F fu _ _ _ _ _ _ _ _ h1
   split at h
   ·injection h with h; injection h with q1 q2; subst q2; exact u
   ·injection h with h; injection h with q1 q2; subst q2; exact u
   ·cases h
  ·cases h
 ·unfold Zgn at h
  rw [hfn] at h
  simp only [hb] at h
  obtain ⟨hsz, h⟩ := Zv h
  have hle : args.size ≤ fn.ntmps := Nat.le_of_ble_eq_true hsz
  split at h
  ·cases h
  ·rename_i ex T1 s1 m1 hne h1
   have hs : s' = s1 ∧ (match Zb1 P T1 s1 fn.results.toList with | some [v] => some v | some vs => some (.tuple vs.toArray) | none => none) = some v := by
    split at h
    ·rename_i hr; injection h with h; injection h with q1 q2; subst q1 q2; exact ⟨rfl, by first | rw [hr] | rfl⟩
    ·rename_i vs hn hr; injection h with h; injection h with q1 q2; subst q1 q2
     refine ⟨rfl, ?_⟩
     try rw [hr]
     rcases vs with _ | ⟨x, _ | ⟨y, vs⟩⟩
     ·rfl
     ·exact absurd rfl (hn x)
     ·rfl
    ·cases h
   obtain ⟨rfl, hres⟩ := hs
   refine (callsIn_wide (n := 0)).1 (callsIn_of_wp_marks hfn hb trivial (wpIn_mono (Zdt F fu c _ s false ex T1 s' m1 h1 ho w.heap.size ι [] _ w (Nat.le_refl _) (Zh7 ha hle) rfl he hf) ?_))
   rintro e2 a2 w2 ⟨rfl, ι2, D2, g1, g2, g3, g4⟩
   have fin : LeavesInM (Fr none) 0 P fn a2.tmps (Zma P ι s w v s') a2.defers .returning w2 := by
    rw [g3.2.1]
    cases m1 with
    | false =>
     obtain rfl : D2 = [] := g4
     obtain ⟨v', hrun, hv⟩ := Zdh g3 g1.emb hres
     exact ⟨v', hrun, v', ι2, rfl, g1, g2, hv⟩
    | true =>
     obtain ⟨K, hKw, rfl, hk, hn⟩ := g4
     have g1' := g1.put hKw hn (.deferred none)
     obtain ⟨v', hrun, hv⟩ := Zdh g3 g1'.emb hres
     exact ⟨by simp, .inl ⟨K, _, rfl, run_takeDeferred hk, v', hrun, v', ι2, rfl, g1', g2, hv⟩⟩
   cases ex with
   | normal => exact fin
   | ret => exact fin
   | exit i => exact (hne i rfl).elim
  ·cases h
end
end Ev
end Go.Proofs.YtelfeeoobdpmkaaGreat
/- The runner over this program. -/
namespace Go.Proofs.YtelfeeoobdpmkaaGreat
open Go.RowKit
namespace Ev

def Ztn : FuncId → Option Ext := fun f =>
  bif Nat.beq f 137 then some (.at .i64 0) else
  bif Nat.beq f 242 then some (.at .i64 1) else
  bif Nat.beq f 297 then some (.at .i64 2) else
  bif Nat.beq f 305 then some (.at .i64 3) else
  bif Nat.beq f 295 then some (.at .i32 2) else
  bif Nat.beq f 290 then some (.at .i32 3) else
  bif Nat.beq f 171 then some (.at .u32 0) else
  bif Nat.beq f 240 then some (.at .u32 1) else
  bif Nat.beq f 289 then some (.mark 0) else
  bif Nat.beq f 291 then some (.mark 0) else
  bif Nat.beq f 292 then some (.mark 1) else
  bif Nat.beq f 294 then some (.mark 1) else
   none

theorem noGo : (Tryz.prog.funcs.toList.all fun fn => !(fn.name == "runtime.NumGoroutine")) = true := by kernel_rfl
theorem mixed : Tryz.prog.follows .mixedOrders = true := by kernel_rfl
def Zou (sp : FuncId → Option (List Value → Option Value)) (hp : FuncId → Option (Array Value → St → Out)) : FuncId → Option Ext := fun f => match Ztn f with
  | some e => some e
  | none => match sp f with
    | some g => some (.fn g)
    | none => match hp f with
      | some g => some (.hp g)
      | none => none
def noHp : FuncId → Option (Array Value → St → Out) := fun _ => none
def extW (sp : FuncId → Option (List Value → Option Value)) : FuncId → Option Ext := Zou sp noHp
def ZnI (sp : FuncId → Option (List Value → Option Value)) : Prop := ∀ (f : Nat) (g : List Value → Option Value), sp f = some g → (∃ (fn : Func) (c : Code), Tryz.prog.funcs[f]? = some fn ∧ fn.body = some c) ∧
  ∀ (args : Array Value) (v : Value), ZF ZcO args.toList = true → g args.toList = some v → ∀ w, Calls Tryz.prog f args w fun e w' => e = .returned v ∧ Below w.heap.size w w'
def ZnJ (hp : FuncId → Option (Array Value → St → Out)) : Prop := ∀ (f : Nat) (g : Array Value → St → Out), hp f = some g → Zom Tryz.prog f g
theorem Zu8 : ZnJ noHp := fun f g h => by cases h
theorem Zbt {b : Bool} {x e : Ext} {y : Option Ext} (h : (bif b then some x else y) = some e) : (b = true ∧ x = e) ∨ y = some e := by
  cases b with
  | true => exact .inl ⟨rfl, by simpa using h⟩
  | false => exact .inr (by simpa using h)
theorem Zjg {f : Nat} {e : Ext} (he : Ztn f = some e) : (∀ (kk : IntKind) (c : Nat), e = .at kk c → ∃ fn : Func, Tryz.prog.funcs[f]? = some fn ∧ fn.body.isNone = true ∧ Extern.findNext fn = none ∧
    (c = 0 ∧ Extern.find fn = some (Extern.Atomic.loadT (.int kk)) ∨ c = 1 ∧ Extern.find fn = some Extern.Atomic.storeT ∨
     c = 2 ∧ Extern.find fn = some (Extern.Atomic.update (Op.intArith .add) kk true) ∨ c = 3 ∧ Extern.find fn = some (Extern.Atomic.casT (.int kk)))) ∧
    (∀ n : Nat, e = .mark n → ∃ fn : Func, Tryz.prog.funcs[f]? = some fn ∧ fn.body.isNone = true ∧ Extern.findNext fn = none ∧
    (n = 0 ∧ (∃ m : Mark, Extern.find fn = some (fun _ => do mark m; pure Extern.Race.none_)) ∨ n = 1 ∧ ∃ m : Addr → Mark, Extern.find fn = some (Extern.Race.marked m))) ∧ (∀ g, e ≠ .fn g) ∧ (∀ g, e ≠ .hp g) ∧ (∀ S, e ≠ .tc S) := by
  unfold Ztn at he
  rcases Zbt he with ⟨hb, hx⟩ | he
  · obtain rfl := Nat.eq_of_beq_eq_true hb; subst hx; refine ⟨fun kk c hc => ?_, fun n hn => (by cases hn), fun g hg => (by cases hg), fun g hg => (by cases hg), fun S hg => (by cases hg)⟩; injection hc with h1 h2; subst h1 h2; exact ⟨_, Tryz.func137, by kernel_rfl, by kernel_rfl, .inl ⟨rfl, by kernel_rfl⟩⟩
  rcases Zbt he with ⟨hb, hx⟩ | he
  · obtain rfl := Nat.eq_of_beq_eq_true hb; subst hx; refine ⟨fun kk c hc => ?_, fun n hn => (by cases hn), fun g hg => (by cases hg), fun g hg => (by cases hg), fun S hg => (by cases hg)⟩; injection hc with h1 h2; subst h1 h2; exact ⟨_, Tryz.func242, by kernel_rfl, by kernel_rfl, .inr (.inl ⟨rfl, by kernel_rfl⟩)⟩
  rcases Zbt he with ⟨hb, hx⟩ | he
  · obtain rfl := Nat.eq_of_beq_eq_true hb; subst hx; refine ⟨fun kk c hc => ?_, fun n hn => (by cases hn), fun g hg => (by cases hg), fun g hg => (by cases hg), fun S hg => (by cases hg)⟩; injection hc with h1 h2; subst h1 h2; exact ⟨_, Tryz.func297, by kernel_rfl, by kernel_rfl, .inr (.inr (.inl ⟨rfl, by kernel_rfl⟩))⟩
  rcases Zbt he with ⟨hb, hx⟩ | he
  · obtain rfl := Nat.eq_of_beq_eq_true hb; subst hx; refine ⟨fun kk c hc => ?_, fun n hn => (by cases hn), fun g hg => (by cases hg), fun g hg => (by cases hg), fun S hg => (by cases hg)⟩; injection hc with h1 h2; subst h1 h2; exact ⟨_, Tryz.func305, by kernel_rfl, by kernel_rfl, .inr (.inr (.inr ⟨rfl, by kernel_rfl⟩))⟩
  rcases Zbt he with ⟨hb, hx⟩ | he
  · obtain rfl := Nat.eq_of_beq_eq_true hb; subst hx; refine ⟨fun kk c hc => ?_, fun n hn => (by cases hn), fun g hg => (by cases hg), fun g hg => (by cases hg), fun S hg => (by cases hg)⟩; injection hc with h1 h2; subst h1 h2; exact ⟨_, Tryz.func295, by kernel_rfl, by kernel_rfl, .inr (.inr (.inl ⟨rfl, by kernel_rfl⟩))⟩
  rcases Zbt he with ⟨hb, hx⟩ | he
  · obtain rfl := Nat.eq_of_beq_eq_true hb; subst hx; refine ⟨fun kk c hc => ?_, fun n hn => (by cases hn), fun g hg => (by cases hg), fun g hg => (by cases hg), fun S hg => (by cases hg)⟩; injection hc with h1 h2; subst h1 h2; exact ⟨_, Tryz.func290, by kernel_rfl, by kernel_rfl, .inr (.inr (.inr ⟨rfl, by kernel_rfl⟩))⟩
  rcases Zbt he with ⟨hb, hx⟩ | he
  · obtain rfl := Nat.eq_of_beq_eq_true hb; subst hx; refine ⟨fun kk c hc => ?_, fun n hn => (by cases hn), fun g hg => (by cases hg), fun g hg => (by cases hg), fun S hg => (by cases hg)⟩; injection hc with h1 h2; subst h1 h2; exact ⟨_, Tryz.func171, by kernel_rfl, by kernel_rfl, .inl ⟨rfl, by kernel_rfl⟩⟩
  rcases Zbt he with ⟨hb, hx⟩ | he
  · obtain rfl := Nat.eq_of_beq_eq_true hb; subst hx; refine ⟨fun kk c hc => ?_, fun n hn => (by cases hn), fun g hg => (by cases hg), fun g hg => (by cases hg), fun S hg => (by cases hg)⟩; injection hc with h1 h2; subst h1 h2; exact ⟨_, Tryz.func240, by kernel_rfl, by kernel_rfl, .inr (.inl ⟨rfl, by kernel_rfl⟩)⟩
  rcases Zbt he with ⟨hb, hx⟩ | he
  · obtain rfl := Nat.eq_of_beq_eq_true hb; subst hx; refine ⟨fun kk c hc => (by cases hc), fun n hn => ?_, fun g hg => (by cases hg), fun g hg => (by cases hg), fun S hg => (by cases hg)⟩; injection hn with h1; subst h1; exact ⟨_, Tryz.func289, by kernel_rfl, by kernel_rfl, .inl ⟨rfl, Mark.disable, by kernel_rfl⟩⟩
  rcases Zbt he with ⟨hb, hx⟩ | he
  · obtain rfl := Nat.eq_of_beq_eq_true hb; subst hx; refine ⟨fun kk c hc => (by cases hc), fun n hn => ?_, fun g hg => (by cases hg), fun g hg => (by cases hg), fun S hg => (by cases hg)⟩; injection hn with h1; subst h1; exact ⟨_, Tryz.func291, by kernel_rfl, by kernel_rfl, .inl ⟨rfl, Mark.enable, by kernel_rfl⟩⟩
  rcases Zbt he with ⟨hb, hx⟩ | he
  · obtain rfl := Nat.eq_of_beq_eq_true hb; subst hx; refine ⟨fun kk c hc => (by cases hc), fun n hn => ?_, fun g hg => (by cases hg), fun g hg => (by cases hg), fun S hg => (by cases hg)⟩; injection hn with h1; subst h1; exact ⟨_, Tryz.func292, by kernel_rfl, by kernel_rfl, .inr ⟨rfl, Mark.acquire, by kernel_rfl⟩⟩
  rcases Zbt he with ⟨hb, hx⟩ | he
  · obtain rfl := Nat.eq_of_beq_eq_true hb; subst hx; refine ⟨fun kk c hc => (by cases hc), fun n hn => ?_, fun g hg => (by cases hg), fun g hg => (by cases hg), fun S hg => (by cases hg)⟩; injection hn with h1; subst h1; exact ⟨_, Tryz.func294, by kernel_rfl, by kernel_rfl, .inr ⟨rfl, Mark.releaseMerge, by kernel_rfl⟩⟩
  cases he
theorem Zf4 {sp : FuncId → Option (List Value → Option Value)} {hp : FuncId → Option (Array Value → St → Out)} {f : Nat} {e : Ext} (h : Zou sp hp f = some e) : Ztn f = some e ∨ (∃ g, sp f = some g ∧ e = .fn g) ∨ ∃ g, hp f = some g ∧ e = .hp g := by
  unfold Zou at h
  split at h
  · rename_i e' he'
    injection h with h; subst h
    exact .inl he'
  · split at h
    · rename_i g hg
      injection h with h; subst h
      exact .inr (.inl ⟨g, hg, rfl⟩)
    · split at h
      · rename_i g hg
        injection h with h; subst h
        exact .inr (.inr ⟨g, hg, rfl⟩)
      · cases h
theorem Zu9 {sp : FuncId → Option (List Value → Option Value)} {hp : FuncId → Option (Array Value → St → Out)} (hsp : ZnI sp) (hhp : ZnJ hp) : Fit Tryz.prog (Zou sp hp) := by
  refine ⟨mixed, fun f fn hf => ?_, fun f g hg => ?_, fun f g hg => ?_, fun f S hS => ?_, fun f n hn => ?_, fun f kk e he => ?_⟩
  · have := List.all_eq_true.1 noGo fn (by
      obtain ⟨h, rfl⟩ := Array.getElem?_eq_some_iff.1 hf
      simp)
    simpa using this
  · rcases Zf4 hg with h | ⟨g', h, hx⟩ | ⟨g', h, hx⟩
    · exact ((Zjg h).2.2.1 g rfl).elim
    · injection hx with hx; subst hx; exact hsp f g h
    · cases hx
  · rcases Zf4 hg with h | ⟨g', h, hx⟩ | ⟨g', h, hx⟩
    · exact ((Zjg h).2.2.2.1 g rfl).elim
    · cases hx
    · injection hx with hx; subst hx; exact hhp f g h
  · rcases Zf4 hS with h | ⟨g', h, hx⟩ | ⟨g', h, hx⟩
    · exact ((Zjg h).2.2.2.2 S rfl).elim
    · cases hx
    · cases hx
  · rcases Zf4 hn with h | ⟨g', h, hx⟩ | ⟨g', h, hx⟩
    · exact (Zjg h).2.1 n rfl
    · cases hx
    · cases hx
  · rcases Zf4 he with h | ⟨g', h, hx⟩ | ⟨g', h, hx⟩
    · exact (Zjg h).1 kk e rfl
    · cases hx
    · cases hx
theorem fitW {sp : FuncId → Option (List Value → Option Value)} (hsp : ZnI sp) : Fit Tryz.prog (extW sp) := Zu9 hsp Zu8
def ZqH : FuncId → Option (List Value → Option Value) := fun _ => none
theorem Zov : ZnI ZqH := fun f g h => by cases h
def ext1 : FuncId → Option Ext := extW ZqH
theorem fit1 : Fit Tryz.prog ext1 := fitW Zov
noncomputable def hp0 : FuncId → Option (Array Value → St → Out) := fun f =>
  bif Nat.beq f 142 then some (Zmc Tryz.prog ext1 20000 142) else
   none
theorem ZtS : ZnJ hp0 := by
  intro f g h
  unfold hp0 at h
  cases hb : Nat.beq f 142 with
  | false => rw [hb] at h; simp at h
  | true =>
    rw [hb] at h
    obtain rfl := Nat.eq_of_beq_eq_true hb
    simp only [cond_true, Option.some.injEq] at h
    subst h
    exact Zth fit1 Tryz.func142 rfl
noncomputable def ZqI : FuncId → Option Ext := Zou ZqH hp0
theorem Zto : Fit Tryz.prog ZqI := Zu9 Zov ZtS
noncomputable def hp1 : FuncId → Option (Array Value → St → Out) := fun f =>
  bif Nat.beq f 229 then some (Zgn Tryz.prog ZqI 20000 229) else
  bif Nat.beq f 268 then some (Zgn Tryz.prog ZqI 20000 268) else
  bif Nat.beq f 222 then some (Zgn Tryz.prog ZqI 20000 222) else
  bif Nat.beq f 13 then some (Zgn Tryz.prog ZqI 20000 13) else
   hp0 f
theorem Zqa {β : Type} {b : Bool} {x e : β} {y : Option β} (h : (bif b then some x else y) = some e) : (b = true ∧ x = e) ∨ y = some e := by
  cases b with
  | true => injection h with h; exact .inl ⟨rfl, h⟩
  | false => exact .inr h
theorem Zv6 : ZnJ hp1 := by
  intro f g h
  unfold hp1 at h
  rcases Zqa h with ⟨hb, rfl⟩ | h
  · obtain rfl := Nat.eq_of_beq_eq_true hb; exact Zh0 Zto Tryz.func229 rfl
  rcases Zqa h with ⟨hb, rfl⟩ | h
  · obtain rfl := Nat.eq_of_beq_eq_true hb; exact Zh0 Zto Tryz.func268 rfl
  rcases Zqa h with ⟨hb, rfl⟩ | h
  · obtain rfl := Nat.eq_of_beq_eq_true hb; exact Zh0 Zto Tryz.func222 rfl
  rcases Zqa h with ⟨hb, rfl⟩ | h
  · obtain rfl := Nat.eq_of_beq_eq_true hb; exact Zh0 Zto Tryz.func13 rfl
  exact ZtS f g h
noncomputable def Ztp (sp : FuncId → Option (List Value → Option Value)) : FuncId → Option Ext := Zou sp hp1
theorem fitS {sp : FuncId → Option (List Value → Option Value)} (hsp : ZnI sp) : Fit Tryz.prog (Ztp sp) := Zu9 hsp Zv6
noncomputable def ext : FuncId → Option Ext := Ztp ZqH
def ZqJ (e : FuncId → Option Ext) (tc : FuncId → Bool) : FuncId → Option Ext := fun f => bif tc f then some (.tc (Zz Tryz.prog f)) else e f
theorem fitT {e : FuncId → Option Ext} {tc : FuncId → Bool} (F : Fit Tryz.prog e) (hb : ∀ f, tc f = true → ∃ (fn : Func) (c : Code), Tryz.prog.funcs[f]? = some fn ∧ fn.body = some c) : Fit Tryz.prog (ZqJ e tc) := by
  have cs : ∀ {f : Nat} {x : Ext}, ZqJ e tc f = some x → (tc f = true ∧ x = .tc (Zz Tryz.prog f)) ∨ e f = some x := fun {f x} h => by
    unfold ZqJ at h
    cases ht : tc f with
    | true => rw [ht] at h; injection h with h; exact .inl ⟨rfl, h.symm⟩
    | false => rw [ht] at h; exact .inr h
  refine ⟨F.mixed, F.go, fun f g hg => ?_, fun f g hg => ?_, fun f S hS => ?_, fun f n hn => ?_, fun f kk x hx => ?_⟩
  · rcases cs hg with ⟨_, h⟩ | h
    · cases h
    · exact F.fn f g h
  · rcases cs hg with ⟨_, h⟩ | h
    · cases h
    · exact F.hp f g h
  · rcases cs hS with ⟨ht, h⟩ | h
    · injection h with h; subst h; exact ⟨hb f ht, fun _ _ _ _ _ _ h => h⟩
    · exact F.tc f S h
  · rcases cs hn with ⟨_, h⟩ | h
    · cases h
    · exact F.mark f n h
  · rcases cs hx with ⟨_, h⟩ | h
    · cases h
    · exact F.ext f kk x h
def out (r : Out) : Option Value := match r with
  | some (v, s) => match s.ob with
    | [] => bif ZcO v && Nat.ble s.n 1000000000 then some v else none
    | _ => none
  | none => none
end Ev
end Go.Proofs.YtelfeeoobdpmkaaGreat
/- Arguments that hold no address: which cells they have. -/
namespace Go.Proofs.YtelfeeoobdpmkaaGreat
open Go.ChangeShapes Go.WideShapes Go.ChangeAt Go.RowKit
namespace Ev
section
variable {P : Program} {w : World} {r : Reach} {base : Nat}
theorem okWide_slice {u e : TypeId} {c : Value} (hu : P.underlying u = some (.slice e)) (h : Cell.okWide P w r base u c) : c.oneCell' = true := by
 unfold Cell.okWide Cell.ok at h
 rw [hu] at h
 cases c <;> first | rfl | (simp at h)
def ZuN : Nat → List (Nat × Bool) → List (Option Bool)
 | _, [] => []
 | n, (i, b) :: l => List.replicate (i - n) none ++ (some b :: ZuN (i + 1) l)
def ZuO : Nat → List (Nat × Int) → List (Option Int)
 | _, [] => []
 | n, (i, b) :: l => List.replicate (i - n) none ++ (some b :: ZuO (i + 1) l)
def Zqb {α : Type} : Nat → List (Nat × α) → List (Option α)
 | _, [] => []
 | n, (i, b) :: l => List.replicate (i - n) none ++ (some b :: Zqb (i + 1) l)
def Zi (b : List (Nat × Bool)) (v : List (Nat × Int)) (x : List (Nat × Nat)) (l : List (Nat × List Cell)) (w : List (Nat × Zaj)) : Orc := ⟨ZuN 0 b, ZuO 0 v, Zqb 0 x, Zqb 0 l, Zqb 0 w⟩
theorem Ze : ∀ p ∈ ([] : List (Bool × Bool)), p.1 = p.2 := by simp
theorem Za {a b : Bool} {l : List (Bool × Bool)} (h : a = b) (hl : ∀ q ∈ l, q.1 = q.2) : ∀ q ∈ (a, b) :: l, q.1 = q.2 := by
 intro q hq
 rcases List.mem_cons.1 hq with rfl | hq
 ·exact h
 ·exact hl q hq
theorem Zv7 {x : Int} (h : -9223372036854775808 ≤ x ∧ x < 9223372036854775808) : IntKind.i64.wrap x = x := by
 rw [IntKind.wrap_i64]
 omega
theorem Zjh {b : Int} (h : 0 ≤ b) : b = Int.ofNat b.toNat := (Int.toNat_of_nonneg h).symm
theorem Zv8 {n m : Nat} (h : n < m) : Nat.blt n m = true := Nat.ble_eq_true_of_le h
end
end Ev
end Go.Proofs.YtelfeeoobdpmkaaGreat
/- How runs of functions with loops are written: what is looked at of a stop, and rows of numbers. -/
namespace Go.Proofs.YtelfeeoobdpmkaaGreat
open Go.RowKit
namespace Ev
/-! ### Where a loop stands -/
def Zb3 : List Nat → Code → List ZaI → Code × List ZaI
  | [], .loop a, K => (a, K)
  | 0 :: p, .seq a b, K => Zb3 p a (.seq b :: K)
  | 1 :: p, .seq _ b, K => Zb3 p b K
  | 2 :: p, .scope a, K => Zb3 p a (.scp :: K)
  | 3 :: p, .block i a, K => Zb3 p a (.blk i :: K)
  | 4 :: p, .cond _ a _, K => Zb3 p a K
  | 5 :: p, .cond _ _ b, K => Zb3 p b K
  | (n + 6) :: p, .loop a, K => Zb3 p a (.rnd n :: K)
  | _, _, K => (.skip, K)
def Zc8 (fn : Func) : Code := match fn.body with | some c => c | none => .skip
noncomputable section
def ZqK (live : List Nat) (r : Option Stop) : Option (Value × List (Option AObj) × List (Bool × Bool)) :=
  match r with
  | some (.fin u s) => bif Nat.ble s.n 1000000000 then some (u, live.map s.h.get, s.ob) else none
  | _ => none
end
theorem ZrW {live : List Nat} {r : Option Stop} {u : Value} {bl : List (Option AObj)} {ob : List (Bool × Bool)} (h : ZqK live r = some (u, bl, ob)) : ∃ s, r = some (.fin u s) ∧ live.map s.h.get = bl ∧ s.ob = ob ∧ s.n ≤ far := by
  unfold ZqK at h
  split at h
  · rename_i u' s
    obtain ⟨hn, h⟩ := Zv h
    injection h with h
    simp only [Prod.mk.injEq] at h
    obtain ⟨rfl, rfl, rfl⟩ := h
    exact ⟨s, rfl, rfl, rfl, Nat.le_of_ble_eq_true hn⟩
  · cases h
def Zme (ρ : Nat → Nat) : AObj → AObj → Prop
  | .ro O, .ro O' => O = O'
  | .ro O true, .ro O' true => O = O'
  | .cells c t, .cells c' t' => t = t' ∧ (∃ r, c.map (ZaZ ρ 1) = c' ++ r) ∧ ZF (ZaM 1) c = true
  | _, _ => False
def ZcI (ρ : Nat → Nat) : List (Option AObj) → List (Option AObj) → Prop
  | _, [] => True
  | some o :: bl, some p :: l => Zme ρ o p ∧ ZcI ρ bl l
  | _ :: bl, none :: l => ZcI ρ bl l
  | _, _ => False
def ZhB (ρ : Nat → Nat) : List (Option Value) → List (Nat × Value) → Prop
  | _, [] => True
  | some u :: tv, x :: l => (x.2 = ZaZ ρ 3 u ∧ ZaM 3 u = true) ∧ ZhB ρ tv l
  | _, _ => False
theorem Zfn {ρ : Nat → Nat} {h : AH} : ∀ {live : List Nat} {l : List (Option AObj)}, ZcI ρ (live.map h) l → ∀ j o, lkO l j = some o → ∃ k, live[j]? = some k ∧ match o with
      | .ro O m => h k = some (.ro O m)
      | .cells c t => ∃ c' r, h k = some (.cells c' t) ∧ c'.map (ZaZ ρ 1) = c ++ r ∧ ZF (ZaM 1) c' = true
  | live, [], _, j, o, hj => by simp [lkO] at hj
  | [], x :: l, hb, j, o, hj => by cases x <;> exact hb.elim
  | k :: live, none :: l, hb, j, o, hj => by
    have hb' : ZcI ρ (live.map h) l := by
      simp only [List.map_cons] at hb
      cases hk : h k <;> rw [hk] at hb <;> exact hb
    cases j with
    | zero => simp [lkO] at hj
    | succ j => obtain ⟨k', q1, q2⟩ := Zfn hb' j o (by simpa [lkO] using hj); exact ⟨k', by simpa using q1, q2⟩
  | k :: live, some p :: l, hb, j, o, hj => by
    simp only [List.map_cons] at hb
    cases hk : h k with
    | none => rw [hk] at hb; exact hb.elim
    | some o1 =>
      rw [hk] at hb
      cases j with
      | zero =>
        have : p = o := by simpa [lkO] using hj
        subst this
        refine ⟨k, rfl, ?_⟩
        have h1 := hb.1
        cases o1 with
        | cells c1 t1 =>
          cases p with
          | cells c2 t2 => simp only [Zme] at h1; obtain ⟨rfl, ⟨r, hr⟩, hs⟩ := h1; exact ⟨_, r, hk, hr, hs⟩
          | ro O2 m2 => cases m2 <;> exact h1.elim
        | ro O1 m1 =>
          cases p with
          | cells c2 t2 => cases m1 <;> exact h1.elim
          | ro O2 m2 =>
            cases m1 <;> cases m2
            · obtain rfl : O1 = O2 := h1; exact hk
            · exact h1.elim
            · exact h1.elim
            · obtain rfl : O1 = O2 := h1; exact hk
      | succ j => obtain ⟨k', q1, q2⟩ := Zfn hb.2 j o (by simpa [lkO] using hj); exact ⟨k', by simpa using q1, q2⟩
theorem ZqL {ρ : Nat → Nat} {T : Tr Value} : ∀ {l : List (Nat × Value)}, ZhB ρ ((l.map (·.1)).map T.get) l → ∀ t v, look t l = some v → v = ZaZ ρ 3 ((T.get t).getD undef) ∧ ZaM 3 ((T.get t).getD undef) = true
  | [], _, t, v, h => by cases h
  | x :: l, ht, t, v, h => by
    simp only [List.map_cons] at ht
    cases hx : T.get x.1 with
    | none => rw [hx] at ht; exact ht.elim
    | some u =>
      rw [hx] at ht
      unfold look at h
      cases hb : Nat.beq x.1 t with
      | true =>
        rw [hb] at h
        injection h with h
        obtain rfl := Nat.eq_of_beq_eq_true hb
        subst h
        rw [hx]
        exact ht.1
      | false => rw [hb] at h; exact ZqL ht.2 t v h
section
variable {P : Program} {ext : FuncId → Option Ext}
end
/-! ### Rows of numbers -/
theorem wrap_i64 {x : Int} (h : -9223372036854775808 ≤ x ∧ x ≤ 9223372036854775807) : IntKind.i64.wrap x = x := Zv7 (by omega)
theorem ZqM {x : Int} (h : 0 ≤ x ∧ x ≤ 18446744073709551615) : IntKind.u64.wrap x = x := by
  have e : IntKind.u64.wrap x = x % 18446744073709551616 := by simp [IntKind.wrap, IntKind.bits, IntKind.signed]
  rw [e]; omega
theorem Zaf {k o o' n n' c c' : Nat} (h1 : o = o') (h2 : n = n') (h3 : c = c') : Value.slice (some ⟨k, o, none⟩) n c = .slice (some ⟨k, o', none⟩) n' c' := by rw [h1, h2, h3]
theorem Zc {α : Type} {a b : α} {l r : List α} (h : a = b) (t : l = r) : a :: l = b :: r := by rw [h, t]
theorem ZbW {l r : List Value} (h : l = r) : Value.agg l.toArray = .agg r.toArray := by rw [h]
theorem ZhO {l r : List Value} (h : l = r) : Value.tuple l.toArray = .tuple r.toArray := by rw [h]
/-! ### Rows of bools -/
/-! ### Rows of the caller's -/
end Ev
end Go.Proofs.YtelfeeoobdpmkaaGreat
/- Calls that are told, from what is known of a function. -/
namespace Go.Proofs.YtelfeeoobdpmkaaGreat
open Go.RowKit
namespace Ev
section
variable {P : Program} {ext : FuncId → Option Ext}
def preL (κ : List Nat) (n : Nat) (pre : List AObj) : List (Nat × AObj) := κ.zip (pre.map (ZiC (kap κ n)))
def ZuP (κ : List Nat) (n : Nat) (ch : List Nat) (post : List (Option AObj)) : List (Nat × Option AObj) := ch.map fun j => (kap κ n j, (lkO post j).map (ZiC (kap κ n)))
def Znd (m : Nat) : List AObj → Prop
 | [] => True
 | o :: l => Zje m o = true ∧ Znd m l
def Ziz (m : Nat) : List (Option AObj) → Prop
 | [] => True
 | some o :: l => Zje m o = true ∧ Ziz m l
 | none :: l => Ziz m l
theorem ZoX {m : Nat} : ∀ {l : List AObj}, Znd m l → ∀ o ∈ l, Zje m o = true
 | x :: l, h, o, ho => by
  rcases List.mem_cons.1 ho with rfl | ho
  ·exact h.1
  ·exact ZoX h.2 o ho
theorem ZjE {m : Nat} : ∀ {l : List (Option AObj)}, Ziz m l → ∀ o, some o ∈ l → Zje m o = true
 | some x :: l, h, o, ho => by
  rcases List.mem_cons.1 ho with e | ho
  ·injection e with e; subst e; exact h.1
  ·exact ZjE h.2 o ho
 | none :: l, h, o, ho => by
  rcases List.mem_cons.1 ho with e | ho
  ·cases e
  ·exact ZjE (l := l) h o ho
def Ztq (ch : List Nat) : Nat → List AObj → List (Option AObj) → Prop
 | _, _, [] => True
 | j, o :: l, p :: r => (j ∈ ch ∨ p = some o) ∧ Ztq ch (j + 1) l r
 | j, [], _ :: r => j ∈ ch ∧ Ztq ch (j + 1) [] r
theorem Zow {ch : List Nat} : ∀ {l : List AObj} {r : List (Option AObj)} {j : Nat}, Ztq ch j l r → ∀ i, i < r.length → j + i ∈ ch ∨ (i < l.length ∧ r[i]? = some l[i]?)
 | o :: l, p :: r, j, h, 0, _ => by
  rcases h.1 with h | h
  ·exact .inl h
  ·exact .inr ⟨by simp, by simp [h]⟩
 | o :: l, p :: r, j, h, i + 1, hi => by
  rcases Zow h.2 i (by simpa using hi) with q | ⟨q1, q2⟩
  ·exact .inl (by rwa [show j + (i + 1) = j + 1 + i by omega])
  ·exact .inr ⟨by simpa using q1, by simpa using q2⟩
 | [], p :: r, j, h, 0, _ => .inl h.1
 | [], p :: r, j, h, i + 1, hi => by
  rcases Zow h.2 i (by simpa using hi) with q | ⟨q1, q2⟩
  ·exact .inl (by rwa [show j + (i + 1) = j + 1 + i by omega])
  ·simp at q1
theorem ZqN {α : Type} {k : Nat} {x : α} : ∀ {ks : List Nat} {l : List α} {j : Nat}, ks.Nodup → ks[j]? = some k → l[j]? = some x → look k (ks.zip l) = some x
 | a :: ks, b :: l, 0, _, h1, h2 => by
  simp at h1 h2
  subst h1 h2
  simp [look]
 | a :: ks, b :: l, j + 1, hn, h1, h2 => by
  have hm : k ∈ ks := List.mem_of_getElem? (by simpa using h1)
  have hne : a ≠ k := fun e => by subst e; exact (List.nodup_cons.1 hn).1 hm
  show look k ((a, b) :: ks.zip l) = _
  unfold look
  rw [Zf0 hne]
  exact ZqN (List.nodup_cons.1 hn).2 (by simpa using h1) (by simpa using h2)
 | [], _, j, _, h1, _ => by simp at h1
 | a :: ks, [], j, _, _, h2 => by simp at h2
theorem ZqO {f : Nat → Nat} {g : Nat → Option AObj} (hf : ∀ i j, f i = f j → i = j) (j : Nat) : ∀ ch : List Nat, look (f j) (ch.map fun i => (f i, g i)) = if j ∈ ch then some (g j) else none
 | [] => rfl
 | a :: ch => by
  show look (f j) ((f a, g a) :: ch.map fun i => (f i, g i)) = _
  unfold look
  by_cases h : a = j
  ·subst h; rw [Zha rfl]; simp
  ·rw [Zf0 (fun e => h (hf _ _ e)), cond_false, ZqO hf j ch]
   simp [show ¬ j = a from fun e => h e.symm]
theorem LSpec.callL {f : FuncId} {A : Array Value} {pre : List AObj} {v : Value} {post : List (Option AObj)} (h : LSpec P f A pre v post) (κ : List Nat) (n : Nat) (ch : List Nat) (hκ : κ.length = pre.length) (hnd : κ.Nodup) (hlt : ∀ k ∈ κ, k < n) (hle : pre.length ≤ post.length) (hch : ∀ j ∈ ch, j < post.length)
  (hA : ZF (Zcd pre.length 3) A.toList = true) (hpre : Znd pre.length pre) (hv : Zcd post.length 3 v = true) (hpost : Ziz post.length post) (hk : Ztq ch 0 pre post)
  {A' : Array Value} {pre' : List (Nat × AObj)} {v' : Value} {post' : List (Nat × Option AObj)} {dn : Nat} (eA : A' = Zf2 (ZaZ (kap κ n) 3) A) (ev : v' = ZaZ (kap κ n) 3 v) (edn : pre.length + dn = post.length) (ep : pre' = preL κ n pre) (eq : post' = ZuP κ n ch post) : Zz P f A' pre' v' post' n dn := by
 have kl : ∀ j, j < pre.length → κ[j]? = some (kap κ n j) := fun j hj => ZnE (by omega)
 have kn : ∀ j, j < pre.length → kap κ n j < n := fun j hj => hlt _ (List.mem_of_getElem? (kl j hj))
 have kg : ∀ j, pre.length ≤ j → kap κ n j = n + (j - pre.length) := fun j hj => by rw [← hκ]; exact ZtP (by omega)
 have kinj : ∀ i j, kap κ n i = kap κ n j → i = j := fun i j hij => by
  rcases Nat.lt_or_ge i pre.length with h1 | h1 <;> rcases Nat.lt_or_ge j pre.length with h2 | h2
  ·have a := kl i h1
   have b := kl j h2
   rw [hij, ← b] at a
   exact (List.getElem?_inj (by omega) hnd).1 a
  ·have := kn i h1; rw [hij, kg j h2] at this; omega
  ·have := kn j h2; rw [← hij, kg i h1] at this; omega
  ·rw [kg i h1, kg j h2] at hij; omega
 have lp : ∀ j o, pre[j]? = some o → look (kap κ n j) pre' = some (ZiC (kap κ n) o) := fun j o ho => by
  subst ep
  have hj : j < pre.length := (List.getElem?_eq_some_iff.1 ho).1
  exact ZqN hnd (kl j hj) (by rw [List.getElem?_map, ho]; rfl)
 have ip : ∀ k o, look k pre' = some o → ∃ j, j < pre.length ∧ k = kap κ n j := fun k o ho => by
  subst ep
  obtain ⟨j, hj1, hj2⟩ := List.getElem_of_mem (List.of_mem_zip (ZhM ho)).1
  have hj : j < pre.length := by omega
  refine ⟨j, hj, ?_⟩
  have := kl j hj
  rw [List.getElem?_eq_getElem hj1, hj2] at this
  exact Option.some.inj this
 have lq : ∀ j, look (kap κ n j) post' = if j ∈ ch then some ((lkO post j).map (ZiC (kap κ n))) else none := fun j => by
  subst eq
  exact ZqO (g := fun j => (lkO post j).map (ZiC (kap κ n))) kinj j ch
 refine h.call κ n hκ hnd hlt hle hA (ZoX hpre) hv (ZjE hpost) eA ev edn lp ip (fun j hj => ?_) (fun k o ho => ?_)
 ·unfold behind
  rw [lq j]
  rcases Zow hk j hj with hc | ⟨h1, h2⟩
  ·rw [Nat.zero_add] at hc
   rw [if_pos hc]
  ·by_cases hc : j ∈ ch
   ·rw [if_pos hc]
   ·rw [if_neg hc]
    have ho : pre[j]? = some pre[j] := List.getElem?_eq_getElem h1
    show look (kap κ n j) pre' = _
    rw [lp j _ ho]
    simp [lkO, h2, ho]
 ·unfold behind at ho
  split at ho
  ·rename_i o' hl
   subst eq
   have := ZhM hl
   unfold ZuP at this
   obtain ⟨j, hj, he⟩ := List.mem_map.1 this
   injection he with h1 h2
   exact ⟨j, hch j hj, h1.symm⟩
  ·obtain ⟨j, hj, hk⟩ := ip k o ho
   exact ⟨j, by omega, hk⟩
end
theorem Zp {α β : Type} {a a' : α} {b b' : β} (h : a = a') (k : b = b') : (a, b) = (a', b') := by rw [h, k]
theorem Zad {α : Type} {a a' : α} (h : a = a') : some a = some a' := by rw [h]
end Ev
end Go.Proofs.YtelfeeoobdpmkaaGreat
/- Functions of many loops: one behind the other, one in another. -/
namespace Go.Proofs.YtelfeeoobdpmkaaGreat
open Go.RowKit
namespace Ev
section
variable {P : Program} {ext : FuncId → Option Ext}
variable {fn : Func} {pre : List AObj} {v : Value} {po : List (Option AObj)} {X : Type} {m i : Nat} {L : X → List (Nat × Value)} {H : X → List AObj} {μ : X → Nat} {bd : X → List Nat} {Gb : List Nat → Ren → World → (Nat → Act → World → Prop) → Prop} {x : X} {c : Code} {K : List ZaI} {T0 : Tr Value} {fu : Nat} {orc : Orc} {live : List Nat} {bl : List (Option AObj)} {ob : List (Bool × Bool)}
end
/-! ### A law -/
mutual
inductive Dec (w : World) : Nat → Nat → Nat → Prop
 | mk {b base id : Nat} {c : List Cell} {C : Array Value} {t : TypeId} {fr : Nat × Nat} (h1 : ZkN id = some c) (h2 : w.heap[b]? = some (.cells C t fr)) (h3 : 0 < c.length → base + c.length ≤ C.size) (h4 : ∀ (i : Nat) (x : Cell) (y : Value), c[i]? = some x → C[base + i]? = some y → DecC w x y) : Dec w b base id
inductive DecC (w : World) : Cell → Value → Prop
 | i {n : Int} : DecC w (.i n) (.int .i64 n)
 | k {q : IntKind} {n : Int} : DecC w (.k q n) (.int q n)
 | b {q : Bool} : DecC w (.b q) (.bool q)
 | s {x : ByteArray} : DecC w (.s x) (.string x)
 | m0 {id o : Nat} {a : Option Addr} : DecC w (.m id o 0 0) (.slice a 0 0)
 | m {b base id o n c c' : Nat} (h : Dec w b base id) (hn : n ≤ c) (hc : c ≤ c') : DecC w (.m id o n c) (.slice (some ⟨b, base + o, none⟩) n c')
end
noncomputable def ιMk (w : World) : Ren := fun k => @dite _ (∃ b base id, k = ZaH b base id ∧ Dec w b base id) (Classical.propDecidable _) (fun h => some (h.choose, 0)) (fun _ => none)
theorem ιMk_of {w : World} {b base id : Nat} (h : Dec w b base id) : ιMk w (ZaH b base id) = some (b, 0) := by
 have hex : ∃ b' base' id', ZaH b base id = ZaH b' base' id' ∧ Dec w b' base' id' := ⟨b, base, id, rfl, h⟩
 unfold ιMk
 rw [dif_pos hex]
 obtain ⟨base', id', h1, _⟩ := hex.choose_spec
 rw [← (Zqf h1).1]
theorem ιMk_inv {w : World} {k : Nat} {q : Nat × Nat} (h : ιMk w k = some q) : ∃ b base id, k = ZaH b base id ∧ q = (b, 0) ∧ Dec w b base id := by
 unfold ιMk at h
 by_cases hex : ∃ b' base' id', k = ZaH b' base' id' ∧ Dec w b' base' id'
 ·rw [dif_pos hex] at h
  injection h with h
  obtain ⟨base', id', h1, h2⟩ := hex.choose_spec
  exact ⟨_, base', id', h1, h.symm, h2⟩
 ·rw [dif_neg hex] at h; cases h
theorem DecC.vr {w : World} {x : Cell} {y : Value} (h : DecC w x y) : VR (ιMk w) (Zdm x) y := by
 cases h with
 | i => exact .atom rfl
 | k => exact .atom rfl
 | b => exact .atom rfl
 | s => exact .atom rfl
 | m0 => exact .slice0 fun _ => rfl
 | m h hn hc => exact .mslice (ιMk_of h) hn hc
theorem Zv9 (P : Program) (w : World) : Emb P (ιMk w) (lk []) w := by
 refine ⟨fun k c t hk => by simp [lk] at hk, fun k O hk => by simp [lk] at hk, fun k k' b1 b2 h1 => by simp [lk, isC] at h1, fun k b1 hk => ?_, fun b base id q hq => ?_⟩
 ·obtain ⟨b, base, id, rfl, rfl, h⟩ := ιMk_inv hk
  cases h with
  | mk _ h2 _ _ => exact (Array.getElem?_eq_some_iff.1 h2).1
 ·obtain ⟨b', base', id', h1, rfl, h⟩ := ιMk_inv hq
  obtain ⟨rfl, rfl, rfl⟩ := Zqf h1
  cases h with
  | mk h1 h2 h3 h4 =>
   rename_i c C t fr
   refine ⟨rfl, ⟨⟨c, C, t, fr, h1, h2, h3, fun i x y hx hy => ?_⟩, fun o c' hc => ιMk_of ?_⟩, fun k d hk => by simp [lk, isC] at hk⟩
   ·unfold Zao at hx
    rw [List.getElem?_map] at hx
    cases hb : c[i]? with
    | none => rw [hb] at hx; cases hx
    | some z =>
     rw [hb] at hx
     injection hx with hx
     subst hx
     exact (h4 i z y hb hy).vr
   ·unfold ZH at hc
    rw [h1] at hc
    obtain ⟨e, hl⟩ := Ze0 hc
    have hl' : c'.length ≤ c.length - o := by simpa using hl
    refine .mk (Zg3 c') h2 (fun h0 => by have := h3 (by omega); omega) fun i x y hx hy => ?_
    have hi : i < c'.length := (List.getElem?_eq_some_iff.1 hx).1
    refine h4 (o + i) x y ?_ (by rw [← Nat.add_assoc]; exact hy)
    rw [e, List.getElem?_take_of_lt hi, List.getElem?_drop] at hx
    exact hx
theorem ZtT {P : Program} {f : FuncId} {A : Array Value} {post : List (Option AObj)} {v : Value} (h : LSpec P f A [] v post) {w : World} {args' : Array Value} (ha : VRs (ιMk w) A args') (hv : ZcO v = true) : Calls P f args' w (Ret v w) := by
 refine (h (ιMk w) w args' (fun k hk => ?_) ha (Zv9 P w)).mono ?_
 ·cases hq : ιMk w k with
  | none => exact absurd hq hk
  | some q =>
   obtain ⟨b, base, id, rfl, _⟩ := ιMk_inv hq
   exact .inr (Zs3 b base id)
 ·rintro e w' ⟨v', ι', rfl, hS, _, hvr⟩
  have := hvr.eq_of_free hv
  subst this
  exact ⟨rfl, hS.os, hS.tape, hS.output, hS.size, fun b hb => hS.frame b hb fun k c hk => by simp [lk, isC] at hk⟩
end Ev
end Go.Proofs.YtelfeeoobdpmkaaGreat
/- Arguments that are slices of structs of ints, opened, over any program. -/
namespace Go.Proofs.YtelfeeoobdpmkaaGreat
open Go.ChangeShapes Go.WideShapes Go.ChangeAt Go.RowKit Go.Deep
section
variable {H : Type} {enc : TypeId × Value → H} {P : Program} {w : World}

end
end Go.Proofs.YtelfeeoobdpmkaaGreat
/- Arguments that are rows of numbers: Zc7 of the caller's, that are read alone. -/
namespace Go.Proofs.YtelfeeoobdpmkaaGreat
open Go.ChangeShapes Go.WideShapes Go.ChangeAt Go.RowKit
namespace Ev
section
variable {P : Program} {w : World}
theorem ZjV {b o : Nat} {v : Value} (h : w.cell? ⟨b, o, none⟩ = some v) : ∃ C t fr, w.heap[b]? = some (.cells C t fr) ∧ C[o]? = some v := by
 unfold World.cell? at h
 split at h
 ·rename_i c e fr hb
  split at h
  ·cases h
  ·exact ⟨c, e, fr, hb, h⟩
 ·cases h
end
end Ev
end Go.Proofs.YtelfeeoobdpmkaaGreat
/- The runner, with places to stop at: where a way on of a given depth begins, so many of them left out. -/
namespace Go.Proofs.YtelfeeoobdpmkaaGreat
open Go.RowKit
namespace Ev
inductive StopC where
 | fin (v : Value) (s : St)
 | head (a : Code) (K : List ZaI) (T : Tr Value) (s : St)
 | next (i : Nat) (T : Tr Value) (s : St)
 | cut (b : Code) (K : List ZaI) (T : Tr Value) (s : St)
noncomputable section
def StopC.s : StopC → St
 | .fin _ s => s
 | .head _ _ _ s => s
 | .next _ _ s => s
 | .cut _ _ _ s => s
def ZqP (s : St) : Option Value → Option StopC
 | some v => some (.fin v s)
 | none => none
def ZtU (P : Program) (fn : Func) (e : Ex) (T : Tr Value) (s : St) : Option StopC :=
 match e with
 | .exit _ => none
 | .normal => ZqP s (Ztj P fn T s)
 | .ret => ZqP s (Ztj P fn T s)
mutual
def Zda (P : Program) (ext : FuncId → Option Ext) (fn : Func) (nt : Nat) (cd : Nat) : Nat → Nat → Code → List ZaI → Tr Value → St → Option StopC
 | 0, _, _, _, _, _ => none
 | fu + 1, cm, c, K, T, s => match c with
  | .seq a b => Zda P ext fn nt cd fu cm a (.seq b :: K) T s
  | .scope a => Zda P ext fn nt cd fu cm a (.scp :: K) T s
  | .block id a => Zda P ext fn nt cd fu cm a (.blk id :: K) T s
  | .cond x a b => match opnd T x with
   | .bool t => match t with
    | true => Zda P ext fn nt cd fu cm a K T s
    | false => Zda P ext fn nt cd fu cm b K T s
   | _ => none
  | .loop a => some (.head a K T s)
  | c => match Za3 P ext nt fu c T s with
   | some (e, T', s') => Zce P ext fn nt cd fu cm K e T' s'
   | none => none
termination_by structural fu _ _ _ _ _ => fu
def Zce (P : Program) (ext : FuncId → Option Ext) (fn : Func) (nt : Nat) (cd : Nat) : Nat → Nat → List ZaI → Ex → Tr Value → St → Option StopC
 | 0, _, _, _, _, _ => none
 | fu + 1, cm, K, e, T, s => match K with
  | [] => ZtU P fn e T s
  | .seq b :: K => match e with
   | .normal => match Nat.beq K.length cd with
    | false => Zda P ext fn nt cd fu cm b K T s
    | true => match cm with
     | 0 => some (.cut b K T s)
     | m + 1 => Zda P ext fn nt cd fu m b K T s
   | .exit i => Zce P ext fn nt cd fu cm K (.exit i) T s
   | .ret => Zce P ext fn nt cd fu cm K .ret T s
  | .blk id :: K => match e with
   | .exit i => bif Nat.beq i id then Zce P ext fn nt cd fu cm K .normal T s else Zce P ext fn nt cd fu cm K (.exit i) T s
   | .normal => Zce P ext fn nt cd fu cm K .normal T s
   | .ret => Zce P ext fn nt cd fu cm K .ret T s
  | .scp :: K => Zce P ext fn nt cd fu cm K e T s
  | .rnd i :: K => match e with
   | .normal => some (.next i T s)
   | .exit j => Zce P ext fn nt cd fu cm K (.exit j) T s
   | .ret => Zce P ext fn nt cd fu cm K .ret T s
termination_by structural fu _ _ _ _ _ => fu
end
end
section
variable {P : Program} {ext : FuncId → Option Ext}
theorem ZqQ {s : St} {o : Option Value} {st : StopC} (h : ZqP s o = some st) : ∃ v, st = .fin v s ∧ o = some v := by
 cases o with
 | none => cases h
 | some v => injection h with h; exact ⟨v, h.symm, rfl⟩
theorem ZqR {fn : Func} {e : Ex} {T : Tr Value} {s : St} {st : StopC} (h : ZtU P fn e T s = some st) : ∃ v, st = .fin v s ∧ (match e with | .exit _ => False | _ => True) ∧ (match Zb1 P T s fn.results.toList with | some [v] => some v | some vs => some (.tuple vs.toArray) | none => none) = some v := by
 cases e with
 | exit i => cases h
 | normal => obtain ⟨v, h1, h2⟩ := ZqQ h; exact ⟨v, h1, trivial, h2⟩
 | ret => obtain ⟨v, h1, h2⟩ := ZqQ h; exact ⟨v, h1, trivial, h2⟩
theorem ZvA (F : Fit P ext) {fn : Func} {nt cd : Nat} : ∀ fu : Nat, (∀ cm c K T s st, Zda P ext fn nt cd fu cm c K T s = some st → Up s st.s) ∧ (∀ cm K e T s st, Zce P ext fn nt cd fu cm K e T s = some st → Up s st.s) := by
 intro fu
 induction fu with
 | zero => exact ⟨fun _ _ _ _ _ _ h => by simp [Zda] at h, fun _ _ _ _ _ _ h => by simp [Zce] at h⟩
 | succ fu ih =>
  obtain ⟨ihT, ihB⟩ := ih
  have other : ∀ cm c K T s st, (match Za3 P ext nt fu c T s with | some (e, T', s') => Zce P ext fn nt cd fu cm K e T' s' | none => none) = some st → Up s st.s := fun cm c K T s st h => by
   split at h
   ·exact ((Zc4 (P := P) (ext := ext) (fun f g hg => (F.hp f g hg).up) fu).1 _ _ _ _ _ _ _ (by assumption)).trans (ihB _ _ _ _ _ _ h)
   ·cases h
  refine ⟨fun cm c K T s st h => ?_, fun cm K e T s st h => ?_⟩
  ·cases c <;> simp only [Zda] at h
   case seq a b => exact ihT _ _ _ _ _ _ h
   case scope a => exact ihT _ _ _ _ _ _ h
   case block id a => exact ihT _ _ _ _ _ _ h
   case cond x a b =>
    split at h
    ·split at h
     ·exact ihT _ _ _ _ _ _ h
     ·exact ihT _ _ _ _ _ _ h
    ·cases h
   case loop a => injection h with h; subst h; exact Up.refl _
   all_goals exact other _ _ _ _ _ _ h
  ·cases K with
   | nil => simp only [Zce] at h; obtain ⟨v, rfl, _⟩ := ZqR h; exact Up.refl _
   | cons k K =>
    cases k <;> simp only [Zce] at h
    ·cases e <;> simp only at h
     ·split at h
      ·exact ihT _ _ _ _ _ _ h
      ·split at h
       ·injection h with h; subst h; exact Up.refl _
       ·exact ihT _ _ _ _ _ _ h
     ·exact ihB _ _ _ _ _ _ h
     ·exact ihB _ _ _ _ _ _ h
    ·cases e <;> simp only at h
     ·exact ihB _ _ _ _ _ _ h
     ·rename_i id i
      cases hb : Nat.beq i id <;> rw [hb] at h <;> exact ihB _ _ _ _ _ _ h
     ·exact ihB _ _ _ _ _ _ h
    ·exact ihB _ _ _ _ _ _ h
    ·cases e <;> simp only at h
     ·injection h with h; subst h; exact Up.refl _
     ·exact ihB _ _ _ _ _ _ h
     ·exact ihB _ _ _ _ _ _ h
def Zll (P : Program) (fn : Func) (R : Ending → World → Prop) (Nx : Nat → Act → World → Prop) (nt : Nat) (ι : Ren) (a : Act) (w : World) : StopC → Prop
 | .fin v _ => ∀ v', VR ι v v' → R (.returned v') w
 | .head b K T _ => TR ι nt [] T a → (Code.loop b).wp P (post P fn R Nx K) a w
 | .next i T _ => TR ι nt [] T a → Nx i a w
 | .cut b K T _ => TR ι nt [] T a → b.wp P (post P fn R Nx K) a w
theorem ZoY (F : Fit P ext) {fn : Func} {nt cd : Nat} {R : Ending → World → Prop} {Nx : Nat → Act → World → Prop} : ∀ fu : Nat,
  (∀ cm c K T s st, Zda P ext fn nt cd fu cm c K T s = some st → (∀ p ∈ st.s.ob, p.1 = p.2) → ∀ ι a w, TR ι nt [] T a → Emb P ι s.h.get w → Fresh ι s.n st.s.n →
   (∀ ι' a' w', Step P ι s.h.get w ι' st.s.h.get w' → Dom ι ι' s.n st.s.n → Zll P fn R Nx nt ι' a' w' st) → c.wp P (post P fn R Nx K) a w) ∧
  (∀ cm K e T s st, Zce P ext fn nt cd fu cm K e T s = some st → (∀ p ∈ st.s.ob, p.1 = p.2) → ∀ ι a w, TR ι nt [] T a → Emb P ι s.h.get w → Fresh ι s.n st.s.n →
   (∀ ι' a' w', Step P ι s.h.get w ι' st.s.h.get w' → Dom ι ι' s.n st.s.n → Zll P fn R Nx nt ι' a' w' st) → post P fn R Nx K e.out a w) := by
 intro fu
 induction fu with
 | zero => exact ⟨fun _ _ _ _ _ _ h => by simp [Zda] at h, fun _ _ _ _ _ _ h => by simp [Zce] at h⟩
 | succ fu ih =>
  obtain ⟨ihT, ihB⟩ := ih
  have other : ∀ cm c K T s st, (match Za3 P ext nt fu c T s with | some (e, T', s') => Zce P ext fn nt cd fu cm K e T' s' | none => none) = some st → (∀ p ∈ st.s.ob, p.1 = p.2) → ∀ ι a w, TR ι nt [] T a → Emb P ι s.h.get w → Fresh ι s.n st.s.n →
   (∀ ι' a' w', Step P ι s.h.get w ι' st.s.h.get w' → Dom ι ι' s.n st.s.n → Zll P fn R Nx nt ι' a' w' st) → c.wp P (post P fn R Nx K) a w := fun cm c K T s st h ho ι a w hT he hf hQ => by
   split at h
   ·rename_i e T1 s1 h1
    have u1 := (Zc4 (P := P) (ext := ext) (fun f g hg => (F.hp f g hg).up) fu).1 _ _ _ _ _ _ _ h1
    have u2 := (ZvA F (fn := fn) (nt := nt) fu).2 _ _ _ _ _ _ h
    refine wp_mono (ev_wp F h1 (ZaY u2.ob ho) hT he (hf.mono (Nat.le_refl _) u2.n)) ?_
    rintro ex a1 w1 ⟨rfl, ι1, g1, g2, g3⟩
    exact ihB _ K e T1 s1 st h ho ι1 a1 w1 g3 g1.emb (hf.after g2 u1.n) fun ι' a' w' k1 k2 => hQ ι' a' w' (g1.trans k1) (g2.trans k2 u1.n u2.n)
   ·cases h
  refine ⟨fun cm c K T s st h ho ι a w hT he hf hQ => ?_, fun cm K e T s st h ho ι a w hT he hf hQ => ?_⟩
  ·have h0 := h
   cases c <;> simp only [Zda] at h
   case seq x y => exact wp_seq (ihT _ x (.seq y :: K) T s st h ho ι a w hT he hf hQ)
   case scope x => exact wp_scope_straight (ihT _ x (.scp :: K) T s st h ho ι a w hT he hf hQ)
   case block id x => exact wp_block (ihT _ x (.blk id :: K) T s st h ho ι a w hT he hf hQ)
   case cond x y z =>
    split at h
    ·rename_i t ht
     have hx : a.eval x = .bool t := Ze2 ((ht ▸ hT.opnd x : VR ι (.bool t) (Zcc a x)).bool_inv)
     split at h
     ·exact wp_cond_true hx (ihT _ y K T s st h ho ι a w hT he hf hQ)
     ·exact wp_cond_false hx (ihT _ z K T s st h ho ι a w hT he hf hQ)
    ·cases h
   case loop x =>
    injection h with h
    subst h
    exact hQ ι a w (Step.refl he) Dom.refl hT
   all_goals exact other _ _ K T s st h ho ι a w hT he hf hQ
  ·cases K with
   | nil =>
    simp only [Zce] at h
    obtain ⟨v, rfl, hne, hr⟩ := ZqR h
    obtain ⟨v', hrun, hv⟩ := Zdh hT he hr
    have := hQ ι a w (Step.refl he) Dom.refl v' hv
    cases e with
    | normal => exact ⟨hT.2.1, v', hrun, this⟩
    | ret => exact ⟨hT.2.1, v', hrun, this⟩
    | exit i => exact hne.elim
   | cons k K =>
    cases k with
    | seq b =>
     simp only [Zce] at h
     cases e with
     | normal =>
      simp only at h
      split at h
      ·exact ihT _ b K T s st h ho ι a w hT he hf hQ
      ·split at h
       ·injection h with h
        subst h
        exact hQ ι a w (Step.refl he) Dom.refl hT
       ·exact ihT _ b K T s st h ho ι a w hT he hf hQ
     | exit i => exact ihB _ K (.exit i) T s st h ho ι a w hT he hf hQ
     | ret => exact ihB _ K .ret T s st h ho ι a w hT he hf hQ
    | blk id =>
     simp only [Zce] at h
     cases e with
     | normal => exact ihB _ K .normal T s st h ho ι a w hT he hf hQ
     | ret => exact ihB _ K .ret T s st h ho ι a w hT he hf hQ
     | exit i =>
      simp only at h
      show if i = id then _ else _
      cases hb : Nat.beq i id with
      | true =>
       rw [hb] at h
       rw [if_pos (Nat.eq_of_beq_eq_true hb)]
       exact ihB _ K .normal T s st h ho ι a w hT he hf hQ
      | false =>
       rw [hb] at h
       rw [if_neg (fun e => by rw [Zha e] at hb; cases hb)]
       exact ihB _ K (.exit i) T s st h ho ι a w hT he hf hQ
    | scp =>
     simp only [Zce] at h
     have := ihB _ K e T s st h ho ι a w hT he hf hQ
     cases e <;> exact this
    | rnd i =>
     simp only [Zce] at h
     cases e with
     | normal =>
      injection h with h
      subst h
      exact hQ ι a w (Step.refl he) Dom.refl hT
     | exit j => exact ihB _ K (.exit j) T s st h ho ι a w hT he hf hQ
     | ret => exact ihB _ K .ret T s st h ho ι a w hT he hf hQ
end
noncomputable section
def Zmf (live : List Nat) (r : Option StopC) : Option (Value × List (Option AObj) × List (Bool × Bool)) :=
 match r with
 | some (.fin u s) => bif Nat.ble s.n 1000000000 then some (u, live.map s.h.get, s.ob) else none
 | _ => none
def Zne (i : Nat) (live temps : List Nat) (r : Option StopC) : Option (List (Option Value) × List (Option AObj) × List (Bool × Bool)) :=
 match r with
 | some (.next j T s) => bif Nat.beq j i && Nat.ble s.n 1000000000 then some (temps.map T.get, live.map s.h.get, s.ob) else none
 | _ => none
def ZjF (live temps : List Nat) (r : Option StopC) : Option ((Code × List ZaI) × List (Option Value) × List (Option AObj) × List (Bool × Bool)) :=
 match r with
 | some (.head b K T s) => bif Nat.ble s.n 1000000000 then some ((b, K), temps.map T.get, live.map s.h.get, s.ob) else none
 | _ => none
end
theorem Zlm {live : List Nat} {r : Option StopC} {u : Value} {bl : List (Option AObj)} {ob : List (Bool × Bool)} (h : Zmf live r = some (u, bl, ob)) : ∃ s, r = some (.fin u s) ∧ live.map s.h.get = bl ∧ s.ob = ob ∧ s.n ≤ far := by
 unfold Zmf at h
 split at h
 ·rename_i u' s
  obtain ⟨hn, h⟩ := Zv h
  injection h with h
  simp only [Prod.mk.injEq] at h
  obtain ⟨rfl, rfl, rfl⟩ := h
  exact ⟨s, rfl, rfl, rfl, Nat.le_of_ble_eq_true hn⟩
 ·cases h
theorem Zpm {i : Nat} {live temps : List Nat} {r : Option StopC} {tv : List (Option Value)} {bl : List (Option AObj)} {ob : List (Bool × Bool)} (h : Zne i live temps r = some (tv, bl, ob)) : ∃ T s, r = some (.next i T s) ∧ temps.map T.get = tv ∧ live.map s.h.get = bl ∧ s.ob = ob ∧ s.n ≤ far := by
 unfold Zne at h
 split at h
 ·rename_i j T s
  obtain ⟨hn, h⟩ := Zv h
  simp only [Bool.and_eq_true] at hn
  injection h with h
  simp only [Prod.mk.injEq] at h
  obtain ⟨rfl, rfl, rfl⟩ := h
  exact ⟨T, s, by rw [Nat.eq_of_beq_eq_true hn.1], rfl, rfl, rfl, Nat.le_of_ble_eq_true hn.2⟩
 ·cases h
theorem ZjW {live temps : List Nat} {r : Option StopC} {bK : Code × List ZaI} {tv : List (Option Value)} {bl : List (Option AObj)} {ob : List (Bool × Bool)} (h : ZjF live temps r = some (bK, tv, bl, ob)) : ∃ T s, r = some (.head bK.1 bK.2 T s) ∧ temps.map T.get = tv ∧ live.map s.h.get = bl ∧ s.ob = ob ∧ s.n ≤ far := by
 unfold ZjF at h
 split at h
 ·rename_i b K T s
  obtain ⟨hn, h⟩ := Zv h
  injection h with h
  simp only [Prod.mk.injEq] at h
  obtain ⟨rfl, rfl, rfl, rfl⟩ := h
  exact ⟨T, s, rfl, rfl, rfl, rfl, Nat.le_of_ble_eq_true hn⟩
 ·cases h
section
variable {P : Program} {ext : FuncId → Option Ext}
theorem ZtV (F : Fit P ext) {f : FuncId} {fn : Func} {c : Code} (hfn : P.funcs[f]? = some fn) (hb : fn.body = some c) {A : Array Value} {pre : List AObj} {v : Value} {post : List (Option AObj)} (hA : Nat.ble A.size fn.ntmps = true) {fu : Nat} {orc : Orc} {cd cm : Nat} {st : StopC}
  (hev : Zda P ext fn fn.ntmps cd fu cm c [] (Zez 0 A.toList .nil) ⟨Zf3 0 pre, pre.length, [], orc, []⟩ = some st) (ho : ∀ p ∈ st.s.ob, p.1 = p.2) (hn : st.s.n ≤ far)
  (hto : ∀ ι0 w0, (∀ k, ι0 k ≠ none → k < pre.length ∨ Zgm k) → ∀ ι' a' w', Step P ι0 (lk pre) w0 ι' st.s.h.get w' → Zll P fn (Fin P ι0 pre w0 v post) (fun _ _ _ => False) fn.ntmps ι' a' w' st) : LSpec P f A pre v post := by
 intro ι w args' hd ha he
 refine calls_of_wp hfn hb ?_
 have := (ZoY F (R := Fin P ι pre w v post) (Nx := fun _ _ _ => False) fu).1 cm c [] _ _ st hev ho ι _ w (Zh7 ha (Nat.le_of_ble_eq_true hA)) (by show Emb P ι (Zf3 0 pre).get w; rw [ZjC]; exact he)
  ⟨hn, fun k h1 h2 => by
   cases hk : ι k with
   | none => rfl
   | some b => exact absurd (hd k (by rw [hk]; simp)) (by have h3 : pre.length ≤ k := h1; have h4 : st.s.n ≤ 1000000000 := hn; have h5 : k < st.s.n := h2; unfold Zgm; omega)⟩
  (fun ι' a' w' g1 _ => hto ι w hd ι' a' w' (by have := g1; simp only [ZjC] at this; exact this))
 exact this
end
end Ev
end Go.Proofs.YtelfeeoobdpmkaaGreat
/- Functions of loops as machines: states at loops' heads, and a step from each to the next one. -/
namespace Go.Proofs.YtelfeeoobdpmkaaGreat
open Go.RowKit
namespace Ev
def Z1 : List ZaI → List Nat
 | [] => []
 | .rnd i :: K => i :: Z1 K
 | .seq _ :: K => Z1 K
 | .blk _ :: K => Z1 K
 | .scp :: K => Z1 K
def Zbl {X R : Type} (step : X → Option (X ⊕ R)) : Nat → X → Option R
 | 0, _ => none
 | n + 1, x => match step x with
  | none => none
  | some (.inl y) => Zbl step n y
  | some (.inr r) => some r
def goM {X R : Type} (step : X → Option (X ⊕ R)) (n : Nat) (o : Option (X ⊕ R)) : Option R :=
 match o with
 | none => none
 | some (.inl y) => Zbl step n y
 | some (.inr r) => some r
theorem Zj (n : Nat) (h : Nat.ble n 1000000000 = true) : n ≤ far := Nat.le_of_ble_eq_true h
theorem ZoZ {P : Program} {c : Code} {Q : Exit → Act → World → Prop} : ∀ (n m : Nat), n ≤ m → ∀ a w, Code.rounds P c Q n a w → Code.rounds P c Q m a w
 | 0, _, _, _, _, h => h.elim
 | n + 1, 0, hm, _, _, _ => by omega
 | n + 1, m + 1, hm, a, w, h => by
  rw [rounds_succ] at h ⊢
  refine wp_mono h ?_
  intro e a' w' h'
  cases e with
  | normal => exact ZoZ n m (by omega) a' w' h'
  | exit i => exact h'
  | goto l => exact h'
  | ret => exact h'
  | panic ch => exact h'
  | outgrown => exact h'
theorem ZeM {P : Program} {fn : Func} {R : Ending → World → Prop} {Nx Nx' : Nat → Act → World → Prop} : ∀ {K : List ZaI}, (∀ j ∈ Z1 K, Nx' j = Nx j) → post P fn R Nx' K = post P fn R Nx K
 | [], _ => rfl
 | .seq b :: K, h => by simp only [post]; rw [ZeM (K := K) h]
 | .blk id :: K, h => by simp only [post]; rw [ZeM (K := K) h]
 | .scp :: K, h => by simp only [post]; rw [ZeM (K := K) h]
 | .rnd j :: K, h => by
  simp only [post]
  rw [ZeM (K := K) fun j hj => h j (List.mem_cons_of_mem _ hj), h j (List.mem_cons_self ..)]
noncomputable def Zg5 : Nat → List (Option AObj) → Tr AObj
 | _, [] => .nil
 | i, none :: l => Zg5 (i + 1) l
 | i, some o :: l => (Zg5 (i + 1) l).set i (some o)
theorem Zln : ∀ (l : List (Option AObj)) (i k : Nat), (Zg5 i l).get k = if i ≤ k then (l[k - i]?).join else none
 | [], i, k => by
  show (Tr.nil : Tr AObj).get k = _
  rw [Tr.get_nil]
  split <;> simp
 | none :: l, i, k => by
  show (Zg5 (i + 1) l).get k = _
  rw [Zln l (i + 1) k]
  by_cases h : i + 1 ≤ k
  ·rw [if_pos h, if_pos (by omega)]
   have : k - i = (k - (i + 1)) + 1 := by omega
   rw [this, List.getElem?_cons_succ]
  ·rw [if_neg h]
   by_cases hk : i ≤ k
   ·rw [if_pos hk, show k - i = 0 by omega]; rfl
   ·rw [if_neg hk]
 | some o :: l, i, k => by
  show ((Zg5 (i + 1) l).set i (some o)).get k = _
  rw [Tr.get_set]
  by_cases hk : k = i
  ·subst hk; rw [ZD, if_pos (Nat.le_refl _)]; simp
  ·rw [Zu hk, Zln l (i + 1) k]
   by_cases h : i + 1 ≤ k
   ·rw [if_pos h, if_pos (by omega)]
    have : k - i = (k - (i + 1)) + 1 := by omega
    rw [this, List.getElem?_cons_succ]
   ·rw [if_neg h, if_neg (by omega)]
theorem ZuA (l : List (Option AObj)) : (Zg5 0 l).get = lkO l := funext fun k => by rw [Zln]; simp [lkO]
theorem Znf {nt m : Nat} {lt : List (Nat × Value)} {H : List (Option AObj)} {T : Tr Value} {s : St} {live : List Nat} (hl : live.length = m) (hn : live.Nodup) (ht : ZhB (rho live far) ((lt.map (·.1)).map T.get) lt) (hb : ZcI (rho live far) (live.map s.h.get) H) : Zu4 nt m (fun t => look t lt) (Zg5 0 H) T s live := by
 refine ⟨hl, hn, fun t v _ h => ZqL ht t v h, fun j o ho => ?_⟩
 rw [ZuA] at ho
 exact Zfn hb j o ho
structure Mach where
 fn : Func
 pre : List AObj
 X : Type
 R : Type
 step : X → Option (X ⊕ R)
 hd : X → Nat
 code : Nat → Code × List ZaI
 isL : Nat → Bool
 L : X → List (Nat × Value)
 H : X → List (Option AObj)
 V : R → Value
 Po : R → List (Option AObj)
namespace Mach
def after (M : Mach) (n : Nat) : M.X ⊕ M.R → Option M.R
 | .inl y => Zbl M.step n y
 | .inr r => some r
def KK (M : Mach) (i : Nat) : List ZaI := match M.isL i with | true => .rnd i :: (M.code i).2 | false => (M.code i).2
def IntoM (M : Mach) (y : M.X) (T : Tr Value) (s : St) : Prop :=
 ∃ live, Ze4 M.pre.length live = true ∧ Zu4 M.fn.ntmps (M.H y).length (fun t => look t (M.L y)) (Zg5 0 (M.H y)) T s live
def To (M : Mach) (K0 : List ZaI) : StopC → M.X ⊕ M.R → Prop
 | .fin u s, .inr r => ∃ live, Ztk M.pre.length (M.V r) (M.Po r) u s live
 | .next j T s, .inl y => j = M.hd y ∧ M.isL j = true ∧ j ∈ Z1 K0 ∧ M.IntoM y T s
 | .head b K T s, .inl y => M.isL (M.hd y) = true ∧ (b, K) = M.code (M.hd y) ∧ (∀ j ∈ Z1 K, j ∈ Z1 K0) ∧ M.IntoM y T s
 | .cut b K T s, .inl y => M.isL (M.hd y) = false ∧ (b, K) = M.code (M.hd y) ∧ (∀ j ∈ Z1 K, j ∈ Z1 K0) ∧ M.IntoM y T s
 | _, _ => False
noncomputable def Start (M : Mach) (x : M.X) (gv : Nat → Value) (P : Program) (ext : FuncId → Option Ext) (cd cm fu : Nat) (orc : Orc) : Option StopC :=
 Zda P ext M.fn M.fn.ntmps cd fu cm (M.code (M.hd x)).1 (M.KK (M.hd x)) (tmps M.fn.ntmps (fun t => look t (M.L x)) gv) ⟨Zg5 0 (M.H x), (M.H x).length, [], orc, []⟩
noncomputable def Ok (M : Mach) (P : Program) (ext : FuncId → Option Ext) (x : M.X) (o : Option (M.X ⊕ M.R)) : Prop :=
 ∀ y, o = some y → ∀ gv, ∃ cd cm fu orc st, M.Start x gv P ext cd cm fu orc = some st ∧ (∀ p ∈ st.s.ob, p.1 = p.2) ∧ st.s.n ≤ far ∧ M.To (M.KK (M.hd x)) st y
def AtM (M : Mach) (P : Program) (ι0 : Ren) (w0 : World) (y : M.X) (gv : Nat → Value) (a : Act) (w : World) : Prop :=
 At P M.fn.ntmps (tmps M.fn.ntmps (fun t => look t (M.L y)) gv) (Zg5 0 (M.H y)).get (M.H y).length far ι0 (lk M.pre) w0 a w
section
variable {P : Program} {ext : FuncId → Option Ext}
def Good (M : Mach) (P : Program) (r : M.R) (ι0 : Ren) (w0 : World) (n : Nat) (x : M.X) (Nx : Nat → Act → World → Prop) (a : Act) (w : World) : Prop :=
 match M.isL (M.hd x) with
 | true => Code.rounds P (M.code (M.hd x)).1 (post P M.fn (Fin P ι0 M.pre w0 (M.V r) (M.Po r)) Nx (M.code (M.hd x)).2) n a w
 | false => (M.code (M.hd x)).1.wp P (post P M.fn (Fin P ι0 M.pre w0 (M.V r) (M.Po r)) Nx (M.code (M.hd x)).2) a w
def Outer (M : Mach) (P : Program) (r : M.R) (ι0 : Ren) (w0 : World) (n : Nat) (js : List Nat) (Nx : Nat → Act → World → Prop) : Prop :=
 ∀ m z, m < n → Zbl M.step m z = some r → M.isL (M.hd z) = true → M.hd z ∈ js → ∀ gv a w, M.AtM P ι0 w0 z gv a w → Nx (M.hd z) a w
theorem run1 (M : Mach) (hH : ∀ x, (M.H x).length ≤ far) (hPo : ∀ r, (M.Po r).length ≤ far) (r : M.R) {ι0 : Ren} {w0 : World} (hd0 : ∀ k, ι0 k ≠ none → k < M.pre.length ∨ Zgm k) (n : Nat)
  (ih : ∀ m, m ≤ n → ∀ x, Zbl M.step m x = some r → ∀ Nx, M.Outer P r ι0 w0 m (Z1 (M.code (M.hd x)).2) Nx → ∀ gv a w, M.AtM P ι0 w0 x gv a w → M.Good P r ι0 w0 m x Nx a w)
  {K0 : List ZaI} {Nx : Nat → Act → World → Prop} (hNx : M.Outer P r ι0 w0 (n + 1) (Z1 K0) Nx) {st : StopC} {y : M.X ⊕ M.R} (hto : M.To K0 st y) (hy : M.after n y = some r)
  {ι : Ren} {a : Act} {w : World} (hS : Step P ι0 (lk M.pre) w0 ι st.s.h.get w) : Zll P M.fn (Fin P ι0 M.pre w0 (M.V r) (M.Po r)) Nx M.fn.ntmps ι a w st := by
 have sub : ∀ {K : List ZaI}, (∀ j ∈ Z1 K, j ∈ Z1 K0) → M.Outer P r ι0 w0 n (Z1 K) Nx := fun {K} hs m z hm hz hl hj gv a w hat => hNx m z (by omega) hz hl (hs _ hj) gv a w hat
 cases st with
 | fin u s =>
  cases y with
  | inl y => exact hto.elim
  | inr r' =>
   obtain ⟨live, hto⟩ := hto
   obtain rfl : r' = r := Option.some.inj hy
   exact fun v' hv => ZtO (hPo r') hd0 hto hS hv
 | next j T s =>
  cases y with
  | inr r' => exact hto.elim
  | inl y =>
   obtain ⟨rfl, hl, hj, live, hk, hi⟩ := hto
   intro hT
   obtain ⟨gv, hat⟩ := Zor (hH y) hi hk hd0 hT hS
   exact hNx n y (by omega) hy hl hj gv a w hat
 | head b K T s =>
  cases y with
  | inr r' => exact hto.elim
  | inl y =>
   obtain ⟨hl, hc, hsub, live, hk, hi⟩ := hto
   intro hT
   obtain ⟨gv, hat⟩ := Zor (hH y) hi hk hd0 hT hS
   have e1 : b = (M.code (M.hd y)).1 := congrArg Prod.fst hc
   have e2 : K = (M.code (M.hd y)).2 := congrArg Prod.snd hc
   subst e1 e2
   have := ih n (Nat.le_refl _) y hy Nx (sub hsub) gv a w hat
   unfold Good at this
   rw [hl] at this
   exact wp_loop_rounds n this
 | cut b K T s =>
  cases y with
  | inr r' => exact hto.elim
  | inl y =>
   obtain ⟨hl, hc, hsub, live, hk, hi⟩ := hto
   intro hT
   obtain ⟨gv, hat⟩ := Zor (hH y) hi hk hd0 hT hS
   have e1 : b = (M.code (M.hd y)).1 := congrArg Prod.fst hc
   have e2 : K = (M.code (M.hd y)).2 := congrArg Prod.snd hc
   subst e1 e2
   have := ih n (Nat.le_refl _) y hy Nx (sub hsub) gv a w hat
   unfold Good at this
   rw [hl] at this
   exact this
theorem rounds (F : Fit P ext) (M : Mach) (hH : ∀ x, (M.H x).length ≤ far) (hPo : ∀ r, (M.Po r).length ≤ far) (hK : ∀ x, M.isL (M.hd x) = true → M.hd x ∉ Z1 (M.code (M.hd x)).2) (ok : ∀ x, M.Ok P ext x (M.step x)) (r : M.R) {ι0 : Ren} {w0 : World} (hd0 : ∀ k, ι0 k ≠ none → k < M.pre.length ∨ Zgm k) :
  ∀ (n : Nat) (x : M.X), Zbl M.step n x = some r → ∀ Nx, M.Outer P r ι0 w0 n (Z1 (M.code (M.hd x)).2) Nx → ∀ gv a w, M.AtM P ι0 w0 x gv a w → M.Good P r ι0 w0 n x Nx a w := by
 intro n
 induction n using Nat.strongRecOn with
 | ind n ih =>
  intro x hx Nx hNx gv a w hat
  cases n with
  | zero => cases hx
  | succ n =>
   have hat0 := hat
   obtain ⟨ι, hT, hS, hfr⟩ := hat
   cases hy : M.step x with
   | none => simp only [Zbl, hy] at hx; cases hx
   | some y =>
    obtain ⟨cd, cm, fu, orc, st, hev, ho, hn, hto⟩ := ok x y hy gv
    have hyr : M.after n y = some r := by
     cases y <;> (simp only [Zbl, hy] at hx; exact hx)
    have fresh : Fresh ι (M.H x).length st.s.n := ⟨hn, fun k h1 h2 => hfr k h1 (Nat.lt_of_lt_of_le h2 hn)⟩
    have ih' : ∀ m, m ≤ n → ∀ x, Zbl M.step m x = some r → ∀ Nx, M.Outer P r ι0 w0 m (Z1 (M.code (M.hd x)).2) Nx → ∀ gv a w, M.AtM P ι0 w0 x gv a w → M.Good P r ι0 w0 m x Nx a w := fun m hm => ih m (by omega)
    have go : ∀ Nx', M.Outer P r ι0 w0 (n + 1) (Z1 (M.KK (M.hd x))) Nx' → (M.code (M.hd x)).1.wp P (post P M.fn (Fin P ι0 M.pre w0 (M.V r) (M.Po r)) Nx' (M.KK (M.hd x))) a w := fun Nx' hNx' =>
     (ZoY F (R := Fin P ι0 M.pre w0 (M.V r) (M.Po r)) (Nx := Nx') fu).1 cm _ _ _ _ st hev ho ι a w hT hS.emb fresh fun ι' a' w' g1 _ => run1 M hH hPo r hd0 n ih' hNx' hto hyr (hS.trans g1)
    unfold Good
    cases hl : M.isL (M.hd x) with
    | false =>
     have e : M.KK (M.hd x) = (M.code (M.hd x)).2 := by unfold KK; rw [hl]
     rw [e] at go
     exact go Nx hNx
    | true =>
     have e : M.KK (M.hd x) = .rnd (M.hd x) :: (M.code (M.hd x)).2 := by unfold KK; rw [hl]
     rw [e] at go
     show Code.rounds P _ _ (n + 1) a w
     rw [rounds_succ]
     let Nx' : Nat → Act → World → Prop := fun j => if j = M.hd x then Code.rounds P (M.code (M.hd x)).1 (post P M.fn (Fin P ι0 M.pre w0 (M.V r) (M.Po r)) Nx (M.code (M.hd x)).2) n else Nx j
     have n1 : Nx' (M.hd x) = Code.rounds P (M.code (M.hd x)).1 (post P M.fn (Fin P ι0 M.pre w0 (M.V r) (M.Po r)) Nx (M.code (M.hd x)).2) n := if_pos rfl
     have n2 : ∀ j, j ≠ M.hd x → Nx' j = Nx j := fun j hj => if_neg hj
     have hp : post P M.fn (Fin P ι0 M.pre w0 (M.V r) (M.Po r)) Nx' (M.code (M.hd x)).2 = post P M.fn (Fin P ι0 M.pre w0 (M.V r) (M.Po r)) Nx (M.code (M.hd x)).2 := ZeM fun j hj => n2 j fun e => by subst e; exact hK x hl hj
     have := go Nx' fun m z hm hz hlz hj gv a w hat => by
      by_cases hzx : M.hd z = M.hd x
      ·rw [hzx, n1]
       have := ih m (by omega) z hz Nx (fun m' z' h1 h2 h3 h4 => hNx m' z' (by omega) h2 h3 (by rw [hzx] at h4; exact h4)) gv a w hat
       unfold Good at this
       rw [hlz] at this
       rw [hzx] at this
       exact ZoZ m n (by omega) a w this
      ·rw [n2 _ hzx]
       rcases List.mem_cons.1 hj with h | h
       ·exact absurd h hzx
       ·exact hNx m z (by omega) hz hlz h gv a w hat
     simp only [post, hp, n1] at this
     exact this
noncomputable def Enter (M : Mach) (P : Program) (ext : FuncId → Option Ext) (A : Array Value) (o : Option (M.X ⊕ M.R)) : Prop :=
 ∀ y, o = some y → ∃ cd cm fu orc st, Zda P ext M.fn M.fn.ntmps cd fu cm (Zc8 M.fn) [] (Zez 0 A.toList .nil) ⟨Zf3 0 M.pre, M.pre.length, [], orc, []⟩ = some st ∧ (∀ p ∈ st.s.ob, p.1 = p.2) ∧ st.s.n ≤ far ∧ M.To [] st y
theorem spec (F : Fit P ext) (M : Mach) {f : FuncId} (hfn : P.funcs[f]? = some M.fn) (hb : M.fn.body = some (Zc8 M.fn)) {A : Array Value} (hA : Nat.ble A.size M.fn.ntmps = true) (hH : ∀ x, (M.H x).length ≤ far) (hPo : ∀ r, (M.Po r).length ≤ far) (hK : ∀ x, M.isL (M.hd x) = true → M.hd x ∉ Z1 (M.code (M.hd x)).2)
  (ok : ∀ x, M.Ok P ext x (M.step x)) {o : Option (M.X ⊕ M.R)} (en : M.Enter P ext A o) {n : Nat} {r : M.R} (h : goM M.step n o = some r) : LSpec P f A M.pre (M.V r) (M.Po r) := by
 cases o with
 | none => cases h
 | some y =>
  obtain ⟨cd, cm, fu, orc, st, hev, ho, hn, hto⟩ := en y rfl
  refine ZtV F hfn hb hA hev ho hn fun ι0 w0 hd ι' a' w' hS => ?_
  exact run1 M hH hPo r hd n (fun m _ => rounds F M hH hPo hK ok r hd m) (K0 := []) (fun m z _ _ _ hj => by cases hj) hto (by cases y <;> exact h) hS
end
/-! ### How leaves are written -/
section
variable {P : Program} {ext : FuncId → Option Ext} {M : Mach} {x : M.X} {cd cm fu : Nat} {orc : Orc} {live : List Nat} {bl : List (Option AObj)} {ob : List (Bool × Bool)}
theorem ok_none : M.Ok P ext x none := fun _ h => by cases h
theorem ok_ite {c : Prop} [Decidable c] {A B : Option (M.X ⊕ M.R)} (h1 : c → M.Ok P ext x A) (h2 : ¬ c → M.Ok P ext x B) : M.Ok P ext x (if c then A else B) := by
 by_cases h : c
 ·rw [if_pos h]; exact h1 h
 ·rw [if_neg h]; exact h2 h
theorem ok_bind {α : Type} {o : Option α} {k : α → Option (M.X ⊕ M.R)} (h : ∀ r, o = some r → M.Ok P ext x (k r)) : M.Ok P ext x (o.bind k) := by
 cases o with
 | none => exact ok_none
 | some r => exact h r rfl
theorem ok_fin {r : M.R} {u : Value} (hev : ∀ gv, Zmf live (M.Start x gv P ext cd cm fu orc) = some (u, bl, ob)) (ho : ∀ p ∈ ob, p.1 = p.2) (hl : live.length = (M.Po r).length) (hn : live.Nodup) (hk : Ze4 M.pre.length live = true) (hv : M.V r = ZaZ (rho live far) 3 u ∧ ZaM 3 u = true) (hbl : ZcI (rho live far) bl (M.Po r)) : M.Ok P ext x (some (.inr r)) := by
 intro y hy gv
 obtain rfl := Option.some.inj hy
 obtain ⟨s, h1, rfl, rfl, h4⟩ := Zlm (hev gv)
 exact ⟨cd, cm, fu, orc, _, h1, ho, h4, live, hl, hn, hk, hv, Zfn hbl⟩
theorem ok_next {y : M.X} {tv : (Nat → Value) → List (Option Value)} (hL : M.isL (M.hd y) = true) (hr : M.hd y ∈ Z1 (M.KK (M.hd x))) (hev : ∀ gv, Zne (M.hd y) live ((M.L y).map (·.1)) (M.Start x gv P ext cd cm fu orc) = some (tv gv, bl, ob)) (ho : ∀ p ∈ ob, p.1 = p.2) (hl : live.length = (M.H y).length) (hn : live.Nodup) (hk : Ze4 M.pre.length live = true) (ht : ∀ gv, ZhB (rho live far) (tv gv) (M.L y)) (hbl : ZcI (rho live far) bl (M.H y)) : M.Ok P ext x (some (.inl y)) := by
 intro y' hy gv
 obtain rfl := Option.some.inj hy
 obtain ⟨T, s, h1, h2, rfl, rfl, h4⟩ := Zpm (hev gv)
 exact ⟨cd, cm, fu, orc, _, h1, ho, h4, rfl, hL, hr, live, hk, Znf hl hn (h2 ▸ ht gv) hbl⟩
theorem ok_head {y : M.X} {tv : (Nat → Value) → List (Option Value)} {bK : Code × List ZaI} (hL : M.isL (M.hd y) = true) (hr : bK = M.code (M.hd y)) (hsub : ∀ j ∈ Z1 (M.code (M.hd y)).2, j ∈ Z1 (M.KK (M.hd x))) (hev : ∀ gv, ZjF live ((M.L y).map (·.1)) (M.Start x gv P ext cd cm fu orc) = some (bK, tv gv, bl, ob)) (ho : ∀ p ∈ ob, p.1 = p.2) (hl : live.length = (M.H y).length) (hn : live.Nodup) (hk : Ze4 M.pre.length live = true) (ht : ∀ gv, ZhB (rho live far) (tv gv) (M.L y)) (hbl : ZcI (rho live far) bl (M.H y)) : M.Ok P ext x (some (.inl y)) := by
 intro y' hy gv
 obtain rfl := Option.some.inj hy
 obtain ⟨T, s, h1, h2, rfl, rfl, h4⟩ := ZjW (hev gv)
 exact ⟨cd, cm, fu, orc, _, h1, ho, h4, hL, hr, by rw [hr]; exact hsub, live, hk, Znf hl hn (h2 ▸ ht gv) hbl⟩
variable {A : Array Value}
noncomputable def startE (M : Mach) (P : Program) (ext : FuncId → Option Ext) (A : Array Value) (cd cm fu : Nat) (orc : Orc) : Option StopC :=
 Zda P ext M.fn M.fn.ntmps cd fu cm (Zc8 M.fn) [] (Zez 0 A.toList .nil) ⟨Zf3 0 M.pre, M.pre.length, [], orc, []⟩
theorem Zvq : M.Enter P ext A none := fun _ h => by cases h
theorem en_ite {c : Prop} [Decidable c] {B C : Option (M.X ⊕ M.R)} (h1 : c → M.Enter P ext A B) (h2 : ¬ c → M.Enter P ext A C) : M.Enter P ext A (if c then B else C) := by
 by_cases h : c
 ·rw [if_pos h]; exact h1 h
 ·rw [if_neg h]; exact h2 h
theorem en_bind {α : Type} {o : Option α} {k : α → Option (M.X ⊕ M.R)} (h : ∀ r, o = some r → M.Enter P ext A (k r)) : M.Enter P ext A (o.bind k) := by
 cases o with
 | none => exact Zvq
 | some r => exact h r rfl
theorem en_fin {r : M.R} {u : Value} (hev : Zmf live (M.startE P ext A cd cm fu orc) = some (u, bl, ob)) (ho : ∀ p ∈ ob, p.1 = p.2) (hl : live.length = (M.Po r).length) (hn : live.Nodup) (hk : Ze4 M.pre.length live = true) (hv : M.V r = ZaZ (rho live far) 3 u ∧ ZaM 3 u = true) (hbl : ZcI (rho live far) bl (M.Po r)) : M.Enter P ext A (some (.inr r)) := by
 intro y hy
 obtain rfl := Option.some.inj hy
 obtain ⟨s, h1, rfl, rfl, h4⟩ := Zlm hev
 exact ⟨cd, cm, fu, orc, _, h1, ho, h4, live, hl, hn, hk, hv, Zfn hbl⟩
theorem en_head {y : M.X} {tv : List (Option Value)} {bK : Code × List ZaI} (hL : M.isL (M.hd y) = true) (hr : bK = M.code (M.hd y)) (hsub : Z1 (M.code (M.hd y)).2 = []) (hev : ZjF live ((M.L y).map (·.1)) (M.startE P ext A cd cm fu orc) = some (bK, tv, bl, ob)) (ho : ∀ p ∈ ob, p.1 = p.2) (hl : live.length = (M.H y).length) (hn : live.Nodup) (hk : Ze4 M.pre.length live = true) (ht : ZhB (rho live far) tv (M.L y)) (hbl : ZcI (rho live far) bl (M.H y)) : M.Enter P ext A (some (.inl y)) := by
 intro y' hy
 obtain rfl := Option.some.inj hy
 obtain ⟨T, s, h1, rfl, rfl, rfl, h4⟩ := ZjW hev
 exact ⟨cd, cm, fu, orc, _, h1, ho, h4, hL, hr, (fun j hj => by rw [show bK.2 = (M.code (M.hd y)).2 from congrArg Prod.snd hr, hsub] at hj; cases hj), live, hk, Znf hl hn ht hbl⟩
end
end Mach
/-! ### Functions without loops -/
section
variable {P : Program} {ext : FuncId → Option Ext} {fn : Func} {pre : List AObj} {A : Array Value} {R : Type} {V : R → Value} {Po : R → List (Option AObj)} {live : List Nat} {bl : List (Option AObj)} {ob : List (Bool × Bool)} {fu : Nat} {orc : Orc}
end
theorem ZC {P : Program} {f : FuncId} {A A' : Array Value} {pre : List (Nat × AObj)} {v : Value} {post : List (Nat × Option AObj)} {n dn : Nat} (e : A = A') (h : Zz P f A' pre v post n dn) : Zz P f A pre v post n dn := e ▸ h
end Ev
end Go.Proofs.YtelfeeoobdpmkaaGreat
/- Rows of elements of any kind: each element so many cells. -/
namespace Go.Proofs.YtelfeeoobdpmkaaGreat
open Go.RowKit
namespace Ev
def Zh1 : List Cell → Bool
 | [] => true
 | .any :: _ => false
 | .i _ :: l => Zh1 l
 | .b _ :: l => Zh1 l
 | .k _ _ :: l => Zh1 l
 | .s _ :: l => Zh1 l
 | .m _ _ _ _ :: l => Zh1 l
structure Enc (α : Type) where
 cel : α → List Cell
 w : Nat
 dflt : α
 clen : ∀ a, (cel a).length = w
 sure : ∀ a, Zh1 (cel a) = true
def Enc.enc {α : Type} (E : Enc α) (a : α) : List Value := Zao (E.cel a)
theorem Enc.len {α : Type} (E : Enc α) (a : α) : (E.enc a).length = E.w := by unfold Enc.enc Zao; rw [List.length_map, E.clen]
def Zdb : Value → Bool
 | .pointer (some ⟨_, _, some _⟩) => true
 | .slice (some ⟨_, _, some _⟩) _ _ => true
 | v => atom v
theorem ZnK : ∀ l : List Cell, Zh1 l = true → ZF Zdb (Zao l) = true
 | [], _ => rfl
 | c :: l, h => by
  show (Zdb (Zdm c) && ZF Zdb (Zao l)) = true
  cases c with
  | any => cases h
  | _ => rw [ZnK l h]; rfl
theorem Enc.atoms {α : Type} (E : Enc α) (a : α) : ZF Zdb (E.enc a) = true := ZnK _ (E.sure a)
def Zb {α : Type} (E : Enc α) (L : List α) : List Value := L.flatMap E.enc
def Z9 {α : Type} (E : Enc α) (L : List α) : List Cell := L.flatMap E.cel
section
variable {α : Type} {E : Enc α}
theorem ZjG : Zb E [] = [] := rfl
theorem Zd9 (x : α) (L : List α) : Zb E (x :: L) = E.enc x ++ Zb E L := rfl
theorem Zng (L M : List α) : Zb E (L ++ M) = Zb E L ++ Zb E M := by simp [Zb]
theorem Zgp : ∀ L : List α, (Zb E L).length = L.length * E.w
 | [] => by simp [ZjG]
 | x :: L => by rw [Zd9, List.length_append, Zgp L, E.len, List.length_cons, Nat.add_mul, Nat.one_mul, Nat.add_comm]
theorem Zlo : ∀ (i : Nat) (L : List α), (Zb E L).drop (i * E.w) = Zb E (L.drop i)
 | 0, L => by simp
 | i + 1, [] => by simp [ZjG]
 | i + 1, x :: L => by
  rw [Zd9, List.drop_succ_cons, ← Zlo i L, Nat.add_mul, Nat.one_mul, Nat.add_comm, ← List.drop_drop, ← E.len x, List.drop_left]
theorem Zi0 : ∀ (i : Nat) (L : List α), (Zb E L).take (i * E.w) = Zb E (L.take i)
 | 0, L => by simp [ZjG]
 | i + 1, [] => by simp [ZjG]
 | i + 1, x :: L => by
  rw [Zd9, List.take_succ_cons, Zd9, ← Zi0 i L, Nat.add_mul, Nat.one_mul, Nat.add_comm, List.take_append, E.len]
  rw [List.take_of_length_le (by rw [E.len]; omega), Nat.add_sub_cancel_left]
theorem Zlp {L : List α} {i : Nat} (h : i < L.length) (d : α) : L.drop i = L.getD i d :: L.drop (i + 1) := by
 rw [List.getD_eq_getElem?_getD, List.getElem?_eq_getElem h, Option.getD_some]
 exact List.drop_eq_getElem_cons h
theorem Zs6 {L : List α} {o i q : Nat} (hi : i < L.length) (ho : o = i * E.w + q) (hq : q ≤ E.w) : (Zb E L).drop o = (E.enc (L.getD i E.dflt)).drop q ++ Zb E (L.drop (i + 1)) := by
 subst ho
 rw [← List.drop_drop, Zlo, Zlp hi E.dflt, Zd9, List.drop_append, E.len, Nat.sub_eq_zero_of_le hq, List.drop_zero]
theorem ZhP {β : Type} : ∀ (m : Nat) (l : List β), m ≤ l.length → Z7 m l = some (l.take m)
 | 0, l, _ => by simp [Z7]
 | m + 1, [], h => by simp at h
 | m + 1, x :: l, h => by
  simp only [Z7]
  rw [ZhP m l (by simpa using h)]
  rfl
theorem ZuB {L : List α} {o i q m : Nat} (hi : i < L.length) (ho : o = i * E.w + q) (hq : q + m ≤ E.w) : Z7 m ((Zb E L).drop o) = some (((E.enc (L.getD i E.dflt)).drop q).take m) := by
 have hl := E.len (L.getD i E.dflt)
 rw [Zs6 hi ho (by omega), ZhP _ _ (by simp only [List.length_append, List.length_drop, hl]; omega), List.take_append]
 have : m - ((E.enc (L.getD i E.dflt)).drop q).length = 0 := by simp only [List.length_drop, hl]; omega
 rw [this, List.take_zero, List.append_nil]
theorem Zdi : ∀ {cs : List Cell}, Zh1 cs = true → Zcx (Zao cs) cs = true
 | [], _ => rfl
 | c :: l, h => by
  cases c with
  | any => cases h
  | i n => show ((n == n) && Zcx (Zao l) l) = true; rw [Zdi (cs := l) h]; simp
  | b q => show ((q == q) && Zcx (Zao l) l) = true; rw [Zdi (cs := l) h]; simp
  | s x => show (dP (x = x) && Zcx (Zao l) l) = true; rw [Zdi (cs := l) h]; simp [dP]
  | m id o n c =>
   show (dP (Zdm (.m id o n c) = Zdm (.m id o n c)) && Zcx (Zao l) l) = true
   rw [Zdi (cs := l) h, Zg rfl]; rfl
  | k kk n =>
   by_cases hk : kk = .i64
   ·subst hk; show ((decide (IntKind.i64 = IntKind.i64) && (n == n)) && Zcx (Zao l) l) = true; rw [Zdi (cs := l) h]; simp
   ·have e : Zcx (.int kk n :: Zao l) (.k kk n :: l) = ((decide (kk = kk) && (n == n)) && Zcx (Zao l) l) := by cases kk <;> rfl
    show Zcx (.int kk n :: Zao l) (.k kk n :: l) = true
    rw [e, Zdi (cs := l) h]; simp
theorem ZS {L : List α} {o i q m : Nat} {cs : List Cell} (hi : i < L.length) (ho : o = i * E.w + q) (hq : q + m ≤ E.w) (hs : Zh1 cs = true) (hc : ((E.enc (L.getD i E.dflt)).drop q).take m = Zao cs) : Zas (Z7 m ((Zb E L).drop o)) cs = true := by
 rw [ZuB hi ho hq, hc]
 exact Zdi hs
theorem Zgq {L : List α} {o i q : Nat} {l : List Value} (x : α) (hi : i < L.length) (ho : o = i * E.w + q) (hq : q + l.length ≤ E.w) (hx : ZdA (E.enc (L.getD i E.dflt)) q l = E.enc x) : o + l.length ≤ (Zb E L).length ∧ ZdA (Zb E L) o l = Zb E (L.set i x) := by
 have hl := E.len (L.getD i E.dflt)
 have hle : o + l.length ≤ (Zb E L).length := by
  have : (i + 1) * E.w ≤ L.length * E.w := Nat.mul_le_mul_right _ hi
  rw [Nat.add_mul, Nat.one_mul] at this
  rw [Zgp]; omega
 refine ⟨hle, ?_⟩
 have e1 : L.set i x = L.take i ++ x :: L.drop (i + 1) := by rw [List.set_eq_take_append_cons_drop, if_pos hi]
 rw [e1, Zng, Zd9, ← hx]
 unfold ZdA
 have h1 : (Zb E L).take o = Zb E (L.take i) ++ (E.enc (L.getD i E.dflt)).take q := by
  have hd : Zb E L = Zb E (L.take i) ++ (E.enc (L.getD i E.dflt) ++ Zb E (L.drop (i + 1))) := by
   rw [← Zd9, ← Zlp hi, ← Zng, List.take_append_drop]
  rw [hd, List.take_append]
  have hlen : (Zb E (L.take i)).length = i * E.w := by rw [Zgp, List.length_take]; rw [Nat.min_eq_left (by omega)]
  rw [List.take_of_length_le (by omega), hlen, show o - i * E.w = q by omega, List.take_append]
  rw [show q - (E.enc (L.getD i E.dflt)).length = 0 by omega, List.take_zero, List.append_nil]
 have h2 : (Zb E L).drop (o + l.length) = (E.enc (L.getD i E.dflt)).drop (q + l.length) ++ Zb E (L.drop (i + 1)) := Zs6 hi (by omega) hq
 rw [h1, h2]
 simp
theorem ZuC {L R : List α} {o a n m : Nat} (ha : a + n ≤ L.length) (ho : o = a * E.w) (hm : m = n * E.w) (hR : (L.drop a).take n = R) : Z7 m ((Zb E L).drop o) = some (Zb E R) := by
 subst ho hm hR
 rw [Zlo, ZhP, Zi0]
 rw [Zgp, List.length_drop]
 exact Nat.mul_le_mul_right _ (by omega)
theorem ZaB {L M R : List α} {n m : Nat} (hm : m = n * E.w) (hn : n ≤ L.length) (hR : L.take n ++ M = R) : m ≤ (Zb E L).length ∧ (Zb E L).take m ++ Zb E M = Zb E R := by
 subst hm hR
 refine ⟨by rw [Zgp]; exact Nat.mul_le_mul_right _ hn, ?_⟩
 rw [Zi0, Zng]
theorem Zpa {L : List α} {c m : Nat} (hc : c ≤ L.length) (hm : m = c * E.w) : m ≤ (Zb E L).length := by
 subst hm
 rw [Zgp]
 exact Nat.mul_le_mul_right _ hc
theorem ZqS {L R : List α} {h m : Nat} (hm : m = h * E.w) (hR : L.take h = R) : (Zb E L).take m = Zb E R := by
 subst hm hR
 exact Zi0 h L
/-! ### The same, as told cells -/
theorem ZjH : Z9 E [] = [] := rfl
theorem ZgK (x : α) (L : List α) : Z9 E (x :: L) = E.cel x ++ Z9 E L := rfl
theorem ZhQ : ∀ L : List α, (Z9 E L).length = L.length * E.w
 | [] => by simp [ZjH]
 | x :: L => by rw [ZgK, List.length_append, ZhQ L, E.clen, List.length_cons, Nat.add_mul, Nat.one_mul, Nat.add_comm]
theorem Zlq : ∀ (i : Nat) (L : List α), (Z9 E L).drop (i * E.w) = Z9 E (L.drop i)
 | 0, L => by simp
 | i + 1, [] => by simp [ZjH]
 | i + 1, x :: L => by
  rw [ZgK, List.drop_succ_cons, ← Zlq i L, Nat.add_mul, Nat.one_mul, Nat.add_comm, ← List.drop_drop, ← E.clen x, List.drop_left]
theorem Zpb : ∀ (i : Nat) (L : List α), (Z9 E L).take (i * E.w) = Z9 E (L.take i)
 | 0, L => by simp [ZjH]
 | i + 1, [] => by simp [ZjH]
 | i + 1, x :: L => by
  rw [ZgK, List.take_succ_cons, ZgK, ← Zpb i L, Nat.add_mul, Nat.one_mul, Nat.add_comm, List.take_append, E.clen]
  rw [List.take_of_length_le (by rw [E.clen]; omega), Nat.add_sub_cancel_left]
theorem Zs7 {L : List α} {o i q : Nat} (hi : i < L.length) (ho : o = i * E.w + q) (hq : q ≤ E.w) : (Z9 E L).drop o = (E.cel (L.getD i E.dflt)).drop q ++ Z9 E (L.drop (i + 1)) := by
 subst ho
 rw [← List.drop_drop, Zlq, Zlp hi E.dflt, ZgK, List.drop_append, E.clen, Nat.sub_eq_zero_of_le hq, List.drop_zero]
theorem ZuD {L : List α} {o i q m : Nat} (hi : i < L.length) (ho : o = i * E.w + q) (hq : q + m ≤ E.w) : Z7 m ((Z9 E L).drop o) = some (((E.cel (L.getD i E.dflt)).drop q).take m) := by
 have hl := E.clen (L.getD i E.dflt)
 rw [Zs7 hi ho (by omega), ZhP _ _ (by simp only [List.length_append, List.length_drop, hl]; omega), List.take_append]
 have : m - ((E.cel (L.getD i E.dflt)).drop q).length = 0 := by simp only [List.length_drop, hl]; omega
 rw [this, List.take_zero, List.append_nil]
theorem ZuE {L R : List α} {o a n m : Nat} (ha : a + n ≤ L.length) (ho : o = a * E.w) (hm : m = n * E.w) (hR : (L.drop a).take n = R) : Z7 m ((Z9 E L).drop o) = some (Z9 E R) := by
 subst ho hm hR
 rw [Zlq, ZhP, Zpb]
 rw [ZhQ, List.length_drop]
 exact Nat.mul_le_mul_right _ (by omega)
theorem ZtW {L : List α} (j : Nat) (hw : 0 < E.w) : (Z9 E L)[j]? = if h : j / E.w < L.length then (E.cel (L[j / E.w]'h))[j % E.w]? else none := by
 by_cases h : j / E.w < L.length
 ·rw [dif_pos h]
  have hj : j = (j / E.w) * E.w + j % E.w := by rw [Nat.mul_comm]; exact (Nat.div_add_mod j E.w).symm
  have hr : j % E.w < E.w := Nat.mod_lt _ hw
  have := Zs7 (E := E) h hj (Nat.le_of_lt hr)
  have h0 : ((Z9 E L).drop j)[0]? = (Z9 E L)[j]? := by rw [List.getElem?_drop]; rfl
  rw [← h0, this, List.getElem?_append_left (by rw [List.length_drop, E.clen]; omega), List.getElem?_drop, Nat.add_zero]
  rw [List.getD_eq_getElem?_getD, List.getElem?_eq_getElem h, Option.getD_some]
 ·rw [dif_neg h, List.getElem?_eq_none]
  rw [ZhQ]
  have : L.length ≤ j / E.w := by omega
  exact (Nat.le_div_iff_mul_le hw).1 this
/-! ### Such a row is a row of atoms -/
theorem ZgL : ∀ L : List α, ZF Zdb (Zb E L) = true
 | [] => rfl
 | x :: L => by
  have app : ∀ (a b : List Value), ZF Zdb a = true → ZF Zdb b = true → ZF Zdb (a ++ b) = true := by
   intro a b ha hb
   induction a with
   | nil => exact hb
   | cons y a ih =>
    simp only [ZF, Bool.and_eq_true] at ha
    show (Zdb y && ZF Zdb (a ++ b)) = true
    rw [ha.1, ih ha.2]; rfl
  rw [Zd9]
  exact app _ _ (E.atoms x) (ZgL L)
theorem ZjI {p q : Value → Bool} (h : ∀ v, p v = true → q v = true) : ∀ {l : List Value}, ZF p l = true → ZF q l = true
 | [], _ => rfl
 | x :: l, hl => by
  simp only [ZF, Bool.and_eq_true] at hl ⊢
  exact ⟨h x hl.1, ZjI h hl.2⟩
theorem Zg6 {v : Value} (h : Zdb v = true) : (∃ k o z, v = .pointer (some ⟨k, o, some z⟩)) ∨ (∃ k o z n c, v = .slice (some ⟨k, o, some z⟩) n c) ∨ atom v = true := by
 unfold Zdb at h
 split at h
 ·exact .inl ⟨_, _, _, rfl⟩
 ·exact .inr (.inl ⟨_, _, _, _, _, rfl⟩)
 ·exact .inr (.inr h)
theorem ZqT (d : Nat) {v : Value} (h : Zdb v = true) : ZaM d v = true := by
 rcases Zg6 h with ⟨k, o, z, rfl⟩ | ⟨k, o, z, n, c, rfl⟩ | h
 ·cases d <;> rfl
 ·cases d <;> rfl
 ·cases v with
  | agg => simp [atom] at h
  | tuple => simp [atom] at h
  | func f a b =>
   cases f with
   | func f =>
    simp only [atom, Bool.and_eq_true, Array.isEmpty_iff] at h
    obtain ⟨rfl, rfl⟩ := h
    cases d <;> rfl
   | _ => simp [atom] at h
  | _ => cases d <;> rfl
theorem Ztr (m d : Nat) {v : Value} (h : Zdb v = true) : Zcd m d v = true := by
 rcases Zg6 h with ⟨k, o, z, rfl⟩ | ⟨k, o, z, n, c, rfl⟩ | h
 ·cases d <;> rfl
 ·cases d <;> rfl
 ·cases v with
  | agg => simp [atom] at h
  | tuple => simp [atom] at h
  | pointer a => cases a with
   | none => cases d <;> exact h
   | some a => simp [atom] at h
  | slice a n c => cases a with
   | none => cases d <;> exact h
   | some a => simp [atom] at h
  | map a => cases a with
   | none => cases d <;> exact h
   | some a => simp [atom] at h
  | _ => cases d <;> exact h
theorem Zts {v : Value} (h : Zdb v = true) : Zaw v = true := by
 rcases Zg6 h with ⟨k, o, z, rfl⟩ | ⟨k, o, z, n, c, rfl⟩ | h
 ·rfl
 ·rfl
 ·cases v <;> first | rfl | simp [atom] at h
theorem Ztt {ρ : Nat → Nat} (d : Nat) {v : Value} (h : Zdb v = true) : ZaZ ρ d v = v := by
 rcases Zg6 h with ⟨k, o, z, rfl⟩ | ⟨k, o, z, n, c, rfl⟩ | h
 ·cases d <;> rfl
 ·cases d <;> rfl
 ·exact ZgJ d h
theorem Zs8 (ρ : Nat → Nat) (d : Nat) (L : List α) : (Zb E L).map (ZaZ ρ d) = Zb E L := by
 have : ∀ l : List Value, ZF Zdb l = true → l.map (ZaZ ρ d) = l := fun l => by
  induction l with
  | nil => intro _; rfl
  | cons y l ih =>
   intro h
   simp only [ZF, Bool.and_eq_true] at h
   rw [List.map_cons, ih h.2, Ztt d h.1]
 exact this _ (ZgL L)
theorem ZrX (d : Nat) (L : List α) : ZF (ZaM d) (Zb E L) = true := ZjI (fun _ => ZqT d) (ZgL L)
theorem Zo (m d : Nat) (L : List α) : ZF (Zcd m d) (Zb E L) = true := ZjI (fun _ => Ztr m d) (ZgL L)
theorem ZtX (L : List α) : ZF Zaw (Zb E L) = true := ZjI (fun _ => Zts) (ZgL L)
theorem Zf (ρ : Nat → Nat) (L : List α) (t : TypeId) : Zme ρ (.cells (Zb E L) t) (.cells (Zb E L) t) := ⟨rfl, ⟨[], by rw [Zs8, List.append_nil]⟩, ZrX 1 L⟩
theorem ZbA (ρ : Nat → Nat) {c : List Value} {L : List α} (t : TypeId) (h : c = Zb E L) : Zme ρ (.cells c t) (.cells (Zb E L) t) := h ▸ Zf ρ L t
theorem Z0 (ρ : Nat → Nat) (L : List α) (t : TypeId) : AObj.cells (Zb E L) t = ZiC ρ (.cells (Zb E L) t) := by
 show _ = AObj.cells ((Zb E L).map (ZaZ ρ 1)) t
 rw [Zs8]
theorem Zs9 {L R : List α} {o a n m : Nat} (ha : a + n ≤ L.length) (ho : o = a * E.w) (hm : m = n * E.w) (hR : (L.drop a).take n = R) : Z7 m ((Zb E L).drop o) = some (Zb E R) ∧ ZF Zaw (Zb E R) = true := ⟨ZuC ha ho hm hR, ZtX R⟩
end
theorem ZdL {b : Bool} (h : ¬ (b = true)) : (!b) = true := by cases b <;> simp_all
theorem Zdc {b : Bool} (h : b = true) : (!b) = false := by subst h; rfl
theorem eqB_t {a b : Bool} (h : a = b) : (a == b) = true := by subst h; simp
theorem eqB_f {a b : Bool} (h : ¬ (a = b)) : (a == b) = false := by cases a <;> cases b <;> simp_all
theorem neB_t {a b : Bool} (h : ¬ (a = b)) : (!(a == b)) = true := by rw [eqB_f h]; rfl
theorem ZuQ {a b : Bool} (h : a = b) : (!(a == b)) = false := by rw [eqB_t h]; rfl
def encI (k : IntKind) : Enc Int := ⟨fun n => match k with | .i64 => [.i n] | k => [.k k n], 1, 0, fun _ => by cases k <;> rfl, fun _ => by cases k <;> rfl⟩
abbrev eI : Enc Int := encI .i64
abbrev vi (x : Int) : Value := .int .i64 x
abbrev vs (k o n c : Nat) : Value := .slice (some ⟨k, o, none⟩) n c
abbrev vp (k o : Nat) : Value := .pointer (some ⟨k, o, none⟩)
theorem bT {a b : Int} (h : a = b) : (a == b) = true := beq_iff_eq.2 h
theorem bF {a b : Int} (h : ¬ a = b) : (a == b) = false := beq_eq_false_iff_ne.2 h
/-! ### Rows that never change -/
noncomputable def mc {α : Type} (E : Enc α) (L : List α) : Cell := .m (code (Z9 E L)) 0 L.length L.length
noncomputable abbrev ms {α : Type} (E : Enc α) (L : List α) : Value := .slice (some ⟨code (Z9 E L), 0, some 0⟩) L.length L.length
noncomputable abbrev mp {α : Type} (E : Enc α) (L : List α) (o : Nat) : Value := .pointer (some ⟨code (Z9 E L), o, some 0⟩)
noncomputable def ZE {α : Type} (E : Enc α) : Enc (List α) := ⟨fun l => [mc E l], 1, [], fun _ => rfl, fun _ => rfl⟩
theorem Zt {α : Type} {E : Enc α} {L : List α} {o i q m : Nat} {cs : List Cell} (hi : i < L.length) (ho : o = i * E.w + q) (hq : q + m ≤ E.w) (hc : ((E.cel (L.getD i E.dflt)).drop q).take m = cs) : ZH (code (Z9 E L)) o m = some cs := by
 unfold ZH
 rw [Zg3]
 show Z7 m ((Z9 E L).drop o) = some cs
 rw [ZuD hi ho hq, hc]
theorem ZuF {α : Type} {E : Enc α} {L R : List α} {o a n m : Nat} (ha : a + n ≤ L.length) (ho : o = a * E.w) (hm : m = n * E.w) (hR : (L.drop a).take n = R) : ZH (code (Z9 E L)) o m = some (Z9 E R) := by
 unfold ZH
 rw [Zg3]
 exact ZuE ha ho hm hR
theorem ZuR {α : Type} {E : Enc α} {L R : List α} {l h size : Nat} (h1 : l ≤ h) (h2 : h ≤ L.length) (hs : size = E.w) (hR : R = (L.drop l).take (h - l)) :
  l ≤ h ∧ h ≤ L.length ∧ ZH (code (Z9 E L)) (0 + l * size) (Z9 E R).length = some (Z9 E R) ∧ (h - l) * size = (Z9 E R).length ∧ R.length = h - l := by
 have hl : R.length = h - l := by rw [hR, List.length_take, List.length_drop]; omega
 have hc : (Z9 E R).length = (h - l) * size := by rw [ZhQ, hl, hs]
 refine ⟨h1, h2, ?_, hc.symm, hl⟩
 rw [hc]
 exact ZuF (a := l) (n := h - l) (by omega) (by rw [hs]; omega) (by rw [hs]) hR.symm
/-! ### Bytes as strings -/
end Ev
end Go.Proofs.YtelfeeoobdpmkaaGreat
/- Arguments that are slices, opened: the block they lie in, and each element as what is read of it. -/
namespace Go.Proofs.YtelfeeoobdpmkaaGreat
open Go.ChangeShapes Go.WideShapes Go.ChangeAt Go.RowKit Go.Deep
namespace Ev
section
variable {H : Type} {enc : TypeId × Value → H} {P : Program} {w : World}
def Trd (enc : TypeId × Value → H) (P : Program) (w : World) (t : TypeId) (cs : List Value) : Prop := ∃ n y, DataW.trod enc P w 0 (fun _ => true) true n t cs = some y
def Elems (enc : TypeId × Value → H) (P : Program) (w : World) (e : TypeId) (O : Obj) (o cap : Nat) : Prop :=
 ∀ i, i < cap → ∃ C t fr cs, O = .cells C t fr ∧ cs.length = P.cellsOf e ∧ (∀ j, j < P.cellsOf e → C[o + (i * P.cellsOf e + j)]? = cs[j]?) ∧ Trd enc P w e cs
theorem ZtY {t : TypeId} {fs : Array Field} {cs : List Value} (ht : P.underlying t = some (.struct fs)) (h : Trd enc P w t cs) (i : Nat) {f : Field} (hf : fs[i]? = some f) : Trd enc P w f.type ((cs.drop f.offset).take (P.cellsOf f.type)) := by
 obtain ⟨n, y, h⟩ := h
 obtain ⟨xs, n', _, _, _, hxl, hfl⟩ := DataW.trod_struct ht h
 have hi : i < fs.size := (Array.getElem?_eq_some_iff.1 hf).1
 have := hfl i f hf
 rw [List.getElem?_eq_getElem (show i < xs.length by omega)] at this
 exact ⟨n', _, this⟩
theorem Zvr {t : TypeId} {k : IntKind} {cs : List Value} (ht : P.underlying t = some (.int k)) (h : Trd enc P w t cs) : ∃ z, cs = [.int k z] ∧ k.min ≤ z ∧ z ≤ k.max := by
 obtain ⟨n, y, h⟩ := h
 obtain ⟨z, e0, _, wx⟩ := DataW.trod_int ht h
 simp only [Lit.wf, Bool.and_eq_true, decide_eq_true_eq] at wx
 exact ⟨z, e0, wx.1, wx.2⟩
theorem ZtZ {t e : TypeId} {cs : List Value} (ht : P.underlying t = some (.slice e)) (hpos : 0 < P.cellsOf e) (h : Trd enc P w t cs) :
  (∃ a, cs = [.slice a 0 0]) ∨ ∃ (b o len cap : Nat) (O : Obj), cs = [.slice (some ⟨b, o, none⟩) len cap] ∧ 0 < cap ∧ len ≤ cap ∧ cap ≤ 9223372036854775807 ∧ w.heap[b]? = some O ∧ Elems enc P w e O o cap := by
 obtain ⟨n0, y, h⟩ := h
 rcases open_slice ht h with ⟨hcs, _⟩ | ⟨a, len, cap, m, n, D, Pl, hcs, hb, hl, hm, hmm, hx, hi⟩
 ·exact .inl ⟨_, hcs⟩
 ·simp only [if_true] at hmm
  subst hmm
  rcases Nat.eq_zero_or_pos m with h0 | h0
  ·subst h0
   obtain rfl : len = 0 := by omega
   exact .inl ⟨_, hcs⟩
  ·right
   obtain ⟨cs0, hc0, _⟩ := hi 0 h0
   obtain ⟨_, hcl0, hat0⟩ := World.cells?_some hc0
   have h1 := hat0 0 hpos
   rw [Nat.zero_mul] at h1
   have ha0 : (a.add 0).add 0 = a := by simp [Addr.add]
   rw [ha0] at h1
   have h2 : w.cell? a = some (cs0[0]'(by omega)) := h1.trans (List.getElem?_eq_getElem (by omega))
   obtain ⟨b, o, spot⟩ := a
   have hspot : spot = none := by
    unfold World.cell? at h2
    split at h2
    ·cases spot with
     | none => rfl
     | some z => simp at h2
    ·cases h2
   subst hspot
   obtain ⟨C, el, fr, hB, _⟩ := ZjV h2
   refine ⟨b, o, len, m, _, hcs, h0, hl, by unfold maxLen at hm; omega, hB, fun i hi' => ?_⟩
   obtain ⟨cs', hc, ht'⟩ := hi i hi'
   obtain ⟨_, hcl, hat⟩ := World.cells?_some hc
   refine ⟨C, el, fr, cs', rfl, hcl, fun j hj => ?_, n, _, ht'⟩
   have h1 := hat j hj
   rw [Go.Deep.add_add] at h1
   have h2 : w.cell? ⟨b, o + (i * P.cellsOf e + j), none⟩ = some (cs'[j]'(by omega)) := by
    have : (⟨b, o, none⟩ : Addr).add (i * P.cellsOf e + j) = ⟨b, o + (i * P.cellsOf e + j), none⟩ := Go.WideShapes.add_plain b o _
    rw [← this, h1]
    exact List.getElem?_eq_getElem (by omega)
   obtain ⟨C', t', fr', hB', hv'⟩ := ZjV h2
   rw [hB] at hB'
   injection hB' with hB'
   injection hB' with e1 e2 e3
   subst e1
   rw [hv']
   exact (List.getElem?_eq_getElem (by omega)).symm
def DecL (w : World) (cs : List Value) (l : List Cell) : Prop := cs.length = l.length ∧ ∀ (i : Nat) x y, l[i]? = some x → cs[i]? = some y → DecC w x y
theorem ZsA {w : World} {cs : List Value} {l : List Cell} (hl : cs.length = l.length) (h : ∀ (i : Nat) x, l[i]? = some x → ∃ y, cs[i]? = some y ∧ DecC w x y) : DecL w cs l :=
 ⟨hl, fun i x y hx hy => by
  obtain ⟨y', h1, h2⟩ := h i x hx
  rw [hy] at h1
  injection h1 with h1
  subst h1
  exact h2⟩
theorem Zua {w : World} {cs : List Value} {k : Nat} : ∀ (j : Nat) x, ([] : List Cell)[j]? = some x → ∃ y, cs[k + j]? = some y ∧ DecC w x y := fun j x h => by simp at h
theorem Zji {w : World} {cs : List Value} {b : Cell} {l : List Cell} {k : Nat} {y : Value} (hx : cs[k]? = some y) (hd : DecC w b y) (t : ∀ (j : Nat) x, l[j]? = some x → ∃ y, cs[k + 1 + j]? = some y ∧ DecC w x y) :
  ∀ (j : Nat) x, (b :: l)[j]? = some x → ∃ y, cs[k + j]? = some y ∧ DecC w x y := fun j x h => by
 cases j with
 | zero => injection h with h; subst h; exact ⟨y, hx, hd⟩
 | succ j =>
  obtain ⟨y', h1, h2⟩ := t j x (by simpa using h)
  exact ⟨y', by rw [show k + (j + 1) = k + 1 + j by omega]; exact h1, h2⟩
theorem DecL.vr {w : World} {cs : List Value} {l : List Cell} (h : DecL w cs l) : VRs (ιMk w) (Zao l).toArray cs.toArray :=
 ⟨by simp [Zao, h.1], fun i x y hx hy => by
  have hx' : (Zao l)[i]? = some x := by simpa using hx
  have hy' : cs[i]? = some y := by simpa using hy
  unfold Zao at hx'
  rw [List.getElem?_map] at hx'
  cases hb : l[i]? with
  | none => rw [hb] at hx'; cases hx'
  | some z =>
   rw [hb] at hx'
   injection hx' with hx'
   subst hx'
   exact (h.2 i z y hb hy').vr⟩
theorem pick1 {α : Type} {n : Nat} (d : α) {R : Nat → α → Prop} (h : ∀ i, i < n → ∃ x, R i x) : ∃ f : Nat → α, ∀ i, i < n → R i (f i) := by
 classical
 refine ⟨fun i => if hi : i < n then (h i hi).choose else d, fun i hi => ?_⟩
 simp only [hi, dite_true]
 exact (h i hi).choose_spec
theorem Zpc {α : Type} {E : Enc α} {Q : α → Prop} {t e : TypeId} {cs : List Value} (ht : P.underlying t = some (.slice e)) (hw : P.cellsOf e = E.w) (hpos : 0 < E.w)
  (hel : ∀ cs, cs.length = E.w → Trd enc P w e cs → ∃ x : α, DecL w cs (E.cel x) ∧ Q x) (h : Trd enc P w t cs) : ∃ (L : List α) (v : Value), cs = [v] ∧ DecC w (mc E L) v ∧ L.length ≤ 9223372036854775807 ∧ ∀ x ∈ L, Q x := by
 rcases ZtZ ht (by omega) h with ⟨a, rfl⟩ | ⟨b, o, len, cap, O, rfl, h0, hl, hm, hB, hE⟩
 ·exact ⟨[], _, rfl, .m0, by simp, fun x hx => by cases hx⟩
 ·have each : ∀ i, i < len → ∃ x : α, (∃ C t fr, O = .cells C t fr ∧ ∀ j y, (E.cel x)[j]? = some y → ∃ v, C[o + (i * E.w + j)]? = some v ∧ DecC w y v) ∧ Q x := fun i hi => by
   obtain ⟨C, t, fr, cs, hO, hcl, hc, htr⟩ := hE i (by omega)
   obtain ⟨x, hd, hq⟩ := hel cs (by omega) htr
   refine ⟨x, ⟨C, t, fr, hO, fun j y hy => ?_⟩, hq⟩
   have hj : j < cs.length := by rw [hd.1]; exact (List.getElem?_eq_some_iff.1 hy).1
   rw [← hw]
   refine ⟨cs[j], ?_, hd.2 j y _ hy (List.getElem?_eq_getElem hj)⟩
   rw [hc j (by omega)]
   exact List.getElem?_eq_getElem hj
  obtain ⟨G, hG⟩ := pick1 E.dflt each
  obtain ⟨C, t, fr, cs0, hO, _⟩ := hE 0 h0
  subst hO
  refine ⟨(List.range len).map G, _, rfl, ?_, by simp; omega, fun x hx => ?_⟩
  ·have hlen : ((List.range len).map G).length = len := by simp
   unfold mc
   rw [hlen]
   refine .m (base := o) (.mk (Zg3 _) hB (fun hp => ?_) fun i x y hx hy => ?_) (Nat.le_refl _) hl
   ·rw [ZhQ, hlen] at hp ⊢
    have hlen0 : 0 < len := by
     rcases Nat.eq_zero_or_pos len with e0 | e0
     ·subst e0; simp at hp
     ·exact e0
    obtain ⟨⟨C', t', fr', hO', hx'⟩, _⟩ := hG (len - 1) (by omega)
    injection hO' with e1 e2 e3
    subst e1
    have hw1 : (E.cel (G (len - 1))).length = E.w := E.clen _
    obtain ⟨v, hv, _⟩ := hx' (E.w - 1) _ (List.getElem?_eq_getElem (by omega))
    have := (Array.getElem?_eq_some_iff.1 hv).1
    have e2 : (len - 1) * E.w + E.w = len * E.w := by rw [← Nat.succ_mul]; congr 1; omega
    omega
   ·rw [ZtW i hpos] at hx
    split at hx
    ·rename_i hlt
     rw [List.getElem_map, List.getElem_range] at hx
     obtain ⟨⟨C', t', fr', hO', hx'⟩, _⟩ := hG (i / E.w) (by rw [hlen] at hlt; exact hlt)
     injection hO' with e1 e2 e3
     subst e1
     obtain ⟨v, hv, hd⟩ := hx' (i % E.w) x hx
     have e : i / E.w * E.w + i % E.w = i := by rw [Nat.mul_comm]; exact Nat.div_add_mod i E.w
     rw [e, hy] at hv
     injection hv with hv
     subst hv
     exact hd
    ·cases hx
  ·obtain ⟨i, hi, rfl⟩ := List.mem_map.1 hx
   exact (hG i (List.mem_range.1 hi)).2
theorem ZrY {cs : List Value} {j m : Nat} {v : Value} (h : (cs.drop j).take m = [v]) (hm : m = 1) : cs[j]? = some v := by
 subst hm
 have : ((cs.drop j).take 1)[0]? = some v := by rw [h]; rfl
 rwa [List.getElem?_take_of_lt (by decide), List.getElem?_drop, Nat.add_zero] at this
/-! ### Parts of a value, by where they lie among its cells -/
def Zi1 (enc : TypeId × Value → H) (P : Program) (w : World) (t : TypeId) (cs : List Value) (o : Nat) : Prop := Trd enc P w t ((cs.drop o).take (P.cellsOf t))
theorem Zub {t : TypeId} {cs : List Value} {c : Nat} (hc : P.cellsOf t = c) (hl : cs.length = c) (h : Trd enc P w t cs) : Zi1 enc P w t cs 0 := by
 unfold Zi1
 rw [List.drop_zero, List.take_of_length_le (by omega)]
 exact h
theorem ZuG {cs : List Value} {o m a k : Nat} (h : a + k ≤ m) : (((cs.drop o).take m).drop a).take k = (cs.drop (o + a)).take k := by
 rw [List.drop_take, List.take_take, List.drop_drop, Nat.min_eq_left (by omega)]
theorem ZjJ {t te : TypeId} {fs : Array Field} {cs : List Value} {o o' : Nat} (fo c ct : Nat) (ht : P.underlying t = some (.struct fs)) (h : Zi1 enc P w t cs o) (i : Nat) (hf : (fs[i]?).map (fun f => (f.type, f.offset)) = some (te, fo)) (ho : o' = o + fo) (hc : P.cellsOf te = c) (hct : P.cellsOf t = ct) (hle : fo + c ≤ ct) : Zi1 enc P w te cs o' := by
 cases hx : fs[i]? with
 | none => rw [hx] at hf; cases hf
 | some f =>
  rw [hx] at hf
  injection hf with hf
  injection hf with h1 h2
  subst h1 h2 ho
  have := ZtY ht h i hx
  rw [ZuG (by omega)] at this
  exact this
theorem ZqU {cs : List Value} {o : Nat} {v : Value} (h : (cs.drop o).take 1 = [v]) : cs[o]? = some v := ZrY h rfl
theorem ZnL {t : TypeId} {k : IntKind} {cs : List Value} {o : Nat} (ht : P.underlying t = some (.int k)) (hc : P.cellsOf t = 1) (h : Zi1 enc P w t cs o) : ∃ z, cs[o]? = some (.int k z) ∧ k.min ≤ z ∧ z ≤ k.max := by
 unfold Zi1 at h
 rw [hc] at h
 obtain ⟨z, h1, h2⟩ := Zvr ht h
 exact ⟨z, ZqU h1, h2⟩
theorem ZuH {α : Type} {E : Enc α} {Q : α → Prop} {t e : TypeId} {cs : List Value} {o : Nat} (ht : P.underlying t = some (.slice e)) (hc : P.cellsOf t = 1) (hw : P.cellsOf e = E.w) (hpos : 0 < E.w)
  (hel : ∀ cs, cs.length = E.w → Trd enc P w e cs → ∃ x : α, DecL w cs (E.cel x) ∧ Q x) (h : Zi1 enc P w t cs o) : ∃ (L : List α) (v : Value), cs[o]? = some v ∧ DecC w (mc E L) v ∧ L.length ≤ 9223372036854775807 ∧ ∀ x ∈ L, Q x := by
 unfold Zi1 at h
 rw [hc] at h
 obtain ⟨L, v, h1, h2⟩ := Zpc ht hw hpos hel h
 exact ⟨L, v, ZqU h1, h2⟩
theorem Zvs {t : TypeId} {v : Value} {d : DataW H} {p : List MemPlace} (h : DataW.Trod enc P w 0 (fun _ => true) true t v d p) : Trd enc P w t v.cells.toList := by
 obtain ⟨fuel, hf⟩ := h
 exact ⟨fuel, _, hf⟩
end
end Ev
end Go.Proofs.YtelfeeoobdpmkaaGreat
/- Paths of a law, by the runner. -/
namespace Go.Proofs.YtelfeeoobdpmkaaGreat
open Go.ChangeShapes Go.WideShapes Go.ChangeAt Go.RowKit
namespace Ev
set_option maxRecDepth 100000
namespace FairBounds
theorem ZbR {a b : Bool} (h : a = true) (k : b = true) : (a && b) = true := by rw [h, k]; rfl
theorem jl0 : ((Rows.fairBoundsRow).wf (OpenSpec.ofChange (Rows.fairBoundsSpec))) = true := by kernel_rfl
theorem jl1 : (laidOutB (Tryz.pinned.checked.prog)) = true := by kernel_rfl
theorem jl2 : (mapsRowed (Tryz.pinned.checked.prog)) = true := by kernel_rfl
theorem jl3 : ((Tryz.f3).params.all ((Tryz.pinned.checked.prog).readableRec ·)) = true := by kernel_rfl
theorem jl4 : (namedTie (Tryz.pinned.checked.prog) (Rows.fairBoundsRow).named (Rows.fairBoundsSpec).vars) = true := by kernel_rfl
theorem jl5 : (((Rows.fairBoundsRow).stops == [])) = true := by kernel_rfl
theorem jl6 : (((Tryz.pinned.checked.prog).stops == [])) = true := by kernel_rfl
theorem jl7 : (((Rows.fairBoundsRow).knobs == [])) = true := by kernel_rfl
theorem jl8 : (((Tryz.pinned.checked.prog).stopKnobs == [])) = true := by kernel_rfl
theorem jl9 : (((Rows.fairBoundsRow).inPlace == (Tryz.pinned.checked.prog).inPlace 3)) = true := by kernel_rfl
theorem jl10 : (((Rows.fairBoundsRow).unfollowed == (Tryz.pinned.checked.prog).unfollowed 3)) = true := by kernel_rfl
theorem jl11 : (((Rows.fairBoundsRow).recurses == (Tryz.pinned.checked.prog).recurses 3)) = true := by kernel_rfl
theorem jl12 : (((Rows.fairBoundsRow).named == (Tryz.pinned.checked.prog).varsNamed 3)) = true := by kernel_rfl
theorem jl13 : (((Rows.fairBoundsRow).maps == ((Tryz.f3).params.toList ++ (Rows.fairBoundsSpec).plain.varTypes (Tryz.pinned.checked.prog)).any ((Tryz.pinned.checked.prog).mapsRec ·))) = true := by kernel_rfl
theorem jl14 : (((Rows.fairBoundsRow).ifaces == ((Tryz.f3).params.toList ++ (Rows.fairBoundsSpec).plain.varTypes (Tryz.pinned.checked.prog)).any ((Tryz.pinned.checked.prog).ifacesRec ·))) = true := by kernel_rfl
theorem jl15 : (((Rows.fairBoundsRow).mapsOut == (Tryz.pinned.checked.prog).mapsAmong (Tryz.f3).resultTypes.toList)) = true := by kernel_rfl
theorem jl16 : (((Rows.fairBoundsRow).loops == ((Tryz.f3).params.toList ++ (Rows.fairBoundsSpec).plain.varTypes (Tryz.pinned.checked.prog)).any ((Tryz.pinned.checked.prog).loopsFrom ·))) = true := by kernel_rfl
theorem jl17 : (((Rows.fairBoundsRow).wideKeys == ((Tryz.f3).params.toList ++ (Rows.fairBoundsSpec).plain.varTypes (Tryz.pinned.checked.prog) ++ (Tryz.f3).resultTypes.toList).any ((Tryz.pinned.checked.prog).wideKeysFrom ·))) = true := by kernel_rfl
theorem jl18 : ((Rows.fairBoundsSpec).vars.all ((Tryz.pinned.checked.prog).varReadable ·)) = true := by kernel_rfl
theorem jl19 : ((Tryz.f3).resultTypes.all (fun tt => (Tryz.pinned.checked.prog).readableRec tt && decide (tt < (Tryz.pinned.checked.prog).types.size))) = true := by kernel_rfl
theorem jl20 : (((Rows.fairBoundsRow).ifacesOut == (Tryz.f3).resultTypes.toList.any ((Tryz.pinned.checked.prog).ifacesRec ·))) = true := by kernel_rfl
theorem jl21 : (((Rows.fairBoundsRow).loopsOut == (Tryz.f3).resultTypes.toList.any ((Tryz.pinned.checked.prog).loopsFrom ·))) = true := by kernel_rfl
theorem jl22 : (((Rows.fairBoundsRow).plainKeys == (Tryz.pinned.checked.prog).plainKeys)) = true := by kernel_rfl
theorem jl23 : ((Rows.fairBoundsRow).shortTexts.isNone) = true := by kernel_rfl
theorem jl24 : ((Tryz.pinned.checked.prog).stopsHeard) = true := by kernel_rfl
theorem jl25 : ((Tryz.pinned.checked.prog).mayEnter) = true := by kernel_rfl
theorem jl26 : (((Rows.fairBoundsRow).lifted == (Tryz.pinned.checked.prog).liftsFinal)) = true := by kernel_rfl
theorem jl27 : (((Tryz.pinned.checked.prog).make == some (Rows.fairBoundsRow).make)) = true := by kernel_rfl
theorem jl28 : (((Rows.fairBoundsRow).kinds == (if (Rows.fairBoundsRow).domain.isEmpty then [] else (Tryz.f3).params.toList.map fun tt => match (Tryz.pinned.checked.prog).underlying tt with | some (.int k) => some k | _ => none))) = true := by kernel_rfl
theorem jl29 : (((Rows.fairBoundsRow).pinned == (Rows.fairBoundsRow).pinnedBy)) = true := by kernel_rfl
theorem jl30 : (((Rows.fairBoundsRow).veiled == ((Tryz.f3).params.toList ++ (Rows.fairBoundsSpec).plain.varTypes (Tryz.pinned.checked.prog) ++ (Tryz.f3).resultTypes.toList).any ((Tryz.pinned.checked.prog).veiledRec ·))) = true := by kernel_rfl
theorem jl31 : ((Rows.fairBoundsRow).veiledFits (Tryz.pinned.checked.prog) (Tryz.f3).params.toList ((Tryz.f3).params.toList ++ (Rows.fairBoundsSpec).plain.varTypes (Tryz.pinned.checked.prog) ++ (Tryz.f3).resultTypes.toList)) = true := by kernel_rfl
theorem Zuc : joinedFacts Tryz.pinned.checked.prog 3 Tryz.f3 Rows.fairBoundsSpec Rows.fairBoundsRow = true := (ZbR (ZbR (ZbR (ZbR (ZbR (ZbR (ZbR (ZbR (ZbR (ZbR (ZbR (ZbR (ZbR (ZbR (ZbR (ZbR (ZbR (ZbR (ZbR (ZbR (ZbR (ZbR (ZbR (ZbR (ZbR (ZbR (ZbR (ZbR (ZbR (ZbR (ZbR jl0 jl1) jl2) jl3) jl4) jl5) jl6) jl7) jl8) jl9) jl10) jl11) jl12) jl13) jl14) jl15) jl16) jl17) jl18) jl19) jl20) jl21) jl22) jl23) jl24) jl25) jl26) jl27) jl28) jl29) jl30) jl31)
end FairBounds
end Ev
end Go.Proofs.YtelfeeoobdpmkaaGreat
/- Functions told of whole runs: their own loops run on. -/
namespace Go.Proofs.YtelfeeoobdpmkaaGreat
open Go.RowKit
namespace Ev
section
variable {P : Program} {ext : FuncId → Option Ext} {pre : List AObj} {A : Array Value} {R : Type} {V : R → Value} {Po : R → List (Option AObj)} {live : List Nat} {bl : List (Option AObj)} {ob : List (Bool × Bool)} {fu : Nat} {orc : Orc}
noncomputable def ZqV (P : Program) (ext : FuncId → Option Ext) (f : FuncId) (pre : List AObj) (A : Array Value) (fu : Nat) (orc : Orc) : Option Stop :=
 match ZcH P ext fu f A ⟨Zf3 0 pre, pre.length, [], orc, []⟩ with
 | some (v, s) => some (.fin v s)
 | none => none
theorem ZrZ (F : Fit P ext) {f : FuncId} {v u : Value} {post : List (Option AObj)} {s : St} (hev : ZqV P ext f pre A fu orc = some (.fin u s)) (ho : ∀ p ∈ s.ob, p.1 = p.2) (hn : s.n ≤ far) (hle : post.length ≤ far) (live : List Nat) (h : Ztk pre.length v post u s live) : LSpec P f A pre v post := by
 intro ι w args' hd ha he
 have hc : ZcH P ext fu f A ⟨Zf3 0 pre, pre.length, [], orc, []⟩ = some (u, s) := by
  unfold ZqV at hev
  split at hev
  ·rename_i v1 s1 h1
   injection hev with hev
   injection hev with q1 q2
   rw [h1, q1, q2]
  ·cases hev
 have hF := (Zd8 (P := P) F fu).2.2.2.1 f A _ u s hc ho ι w args' ha (by show Emb P ι (Zf3 0 pre).get w; rw [ZjC]; exact he)
  ⟨hn, fun k h1 h2 => by
   cases hk : ι k with
   | none => rfl
   | some b => exact absurd (hd k (by rw [hk]; simp)) (by have h3 : pre.length ≤ k := h1; have h4 : s.n ≤ 1000000000 := hn; have h5 : k < s.n := h2; unfold Zgm; omega)⟩
 refine hF.mono ?_
 rintro e w' ⟨v', ι', rfl, g1, g2, g3⟩
 exact ZtO hle hd h (by have := g1; simp only [ZjC] at this; exact this) g3
def Gx (P : Program) (f : FuncId) (pre : List AObj) (A : Array Value) {R : Type} (V : R → Value) (Po : R → List (Option AObj)) (o : Option R) : Prop :=
 ∀ r, o = some r → LSpec P f A pre (V r) (Po r)
variable {f : FuncId}
theorem Zay : Gx P f pre A V Po none := fun _ h => by cases h
theorem Zn {c : Prop} [Decidable c] {B C : Option R} (h1 : c → Gx P f pre A V Po B) (h2 : ¬ c → Gx P f pre A V Po C) : Gx P f pre A V Po (if c then B else C) := by
 by_cases h : c
 ·rw [if_pos h]; exact h1 h
 ·rw [if_neg h]; exact h2 h
theorem ZaO {α : Type} {o : Option α} {k : α → Option R} (h : ∀ r, o = some r → Gx P f pre A V Po (k r)) : Gx P f pre A V Po (o.bind k) := by
 cases o with
 | none => exact Zay
 | some r => exact h r rfl
theorem Zm (F : Fit P ext) {r : R} {u : Value} (hev : ZqK live (ZqV P ext f pre A fu orc) = some (u, bl, ob)) (ho : ∀ p ∈ ob, p.1 = p.2) (hl : live.length = (Po r).length) (hn : live.Nodup) (hk : Ze4 pre.length live = true) (hv : V r = ZaZ (rho live far) 3 u ∧ ZaM 3 u = true) (hbl : ZcI (rho live far) bl (Po r)) (hle : (Po r).length ≤ far) : Gx P f pre A V Po (some r) := by
 intro r' hr
 obtain rfl := Option.some.inj hr
 obtain ⟨s, h1, rfl, rfl, h4⟩ := ZrW hev
 exact ZrZ F h1 ho h4 hle live ⟨hl, hn, hk, hv, Zfn hbl⟩
end
end Ev
end Go.Proofs.YtelfeeoobdpmkaaGreat
/- Records, and the program's functions as plain ones. -/
namespace Go.Proofs.YtelfeeoobdpmkaaGreat
open Go.RowKit
namespace Ev
set_option linter.unusedVariables false
inductive Zdu where
 | r0

def ZiE  (N : Nat) : Option Zdu :=
 some (.r0 : Zdu)
end Ev
end Go.Proofs.YtelfeeoobdpmkaaGreat
/- How records are written, and which functions are told. -/
namespace Go.Proofs.YtelfeeoobdpmkaaGreat
open Go.RowKit
namespace Ev
set_option linter.unusedVariables false
abbrev vq : Value := .int .i64 0
abbrev vf : Value := .bool false
abbrev vT : Value := .bool true
abbrev vn : Value := .slice none 0 0
abbrev vtt : Value := .tuple #[]
noncomputable abbrev dS {α : Type} (a : α) : Bool := dP (a = a)
theorem ltA {p : Prop} (h : p := by first | omega | (simp only [List.length_set, List.length_append, List.length_cons, List.length_nil, List.length_replicate, List.length_take, List.length_drop] at * <;> omega)) : p := h
theorem eqA {p : Prop} (h : p := by first | rfl | omega | (simp only [List.length_set, List.length_append, List.length_cons, List.length_nil, List.length_replicate, List.length_take, List.length_drop] at * <;> omega)) : p := h
theorem rr {p q : Prop} (h : p := by rfl) (h2 : q := by rfl) : p ∧ q := ⟨h, h2⟩
section
variable {l : List (Bool × Bool)}
theorem oT {a b : Int} (hl : ∀ q ∈ l, q.1 = q.2) (h : a = b := by omega) : ∀ q ∈ ((a == b), true) :: l, q.1 = q.2 := Za (bT h) hl
theorem oF {a b : Int} (hl : ∀ q ∈ l, q.1 = q.2) (h : ¬ a = b := by omega) : ∀ q ∈ ((a == b), false) :: l, q.1 = q.2 := Za (bF h) hl
theorem oD {a b : Int} (hl : ∀ q ∈ l, q.1 = q.2) (h : a ≠ b := by omega) : ∀ q ∈ ((a != b), true) :: l, q.1 = q.2 := Za (bne_iff_ne.2 h) hl
theorem oE {a b : Int} (hl : ∀ q ∈ l, q.1 = q.2) (h : a = b := by omega) : ∀ q ∈ ((a != b), false) :: l, q.1 = q.2 := Za (bne_eq_false_iff_eq.2 h) hl
theorem oY {p : Prop} [Decidable p] (hl : ∀ q ∈ l, q.1 = q.2) (h : p := by omega) : ∀ q ∈ (decide p, true) :: l, q.1 = q.2 := Za (decide_eq_true h) hl
theorem oN {p : Prop} [Decidable p] (hl : ∀ q ∈ l, q.1 = q.2) (h : ¬ p := by omega) : ∀ q ∈ (decide p, false) :: l, q.1 = q.2 := Za (decide_eq_false h) hl
theorem oR {α : Type} {a b : α} (hl : ∀ q ∈ l, q.1 = q.2) (h : a = b := by rfl) : ∀ q ∈ (dP (a = b), true) :: l, q.1 = q.2 := Za (Zg h) hl
theorem oB {a b : Nat} (hl : ∀ q ∈ l, q.1 = q.2) (h : a < b := by omega) : ∀ q ∈ (Nat.blt a b, true) :: l, q.1 = q.2 := Za (Zv8 h) hl
theorem oI {a b : Int} (hl : ∀ q ∈ l, q.1 = q.2) (h : a = b := by first | rfl | exact Zjh (by omega)) : ∀ q ∈ ((a == b), true) :: l, q.1 = q.2 := Za (bT h) hl
end
def ZuS : FuncId → Bool := fun f => Nat.beq f 12
noncomputable def ZvB : FuncId → Option Ext := ZqJ (Ztp ZqH) ZuS
theorem ZvC : Fit Tryz.prog ZvB := fitT (fitS Zov) (fun f h => by
 simp only [ZuS, Bool.or_eq_true] at h
 simp only [Nat.beq_eq] at h
 rcases h with rfl
 ·exact ⟨_, _, Tryz.func12, rfl⟩
 )
end Ev
end Go.Proofs.YtelfeeoobdpmkaaGreat
/- Calls do what the plain functions say. -/
namespace Go.Proofs.YtelfeeoobdpmkaaGreat
open Go.RowKit
namespace Ev
set_option linter.unusedVariables false
set_option maxRecDepth 100000
noncomputable def Zlr  : Zdu → Value
 | .r0 => vT
noncomputable def ZjX  : Zdu → List (Option AObj)
 | .r0 => []

theorem Zox  (N : Nat) : Gx Tryz.prog 12 [] #[] (Zlr ) (ZjX ) (ZiE  N) := by
 unfold ZiE
 exact Zm ZvC (r := (.r0 : Zdu)) (fu := 4000) (orc := (Zi [] [] [] [] [])) (live := []) (u := vT) (bl := []) (ob := []) (by kernel_rfl) Ze rfl (by decide) (by rfl) rr trivial (Zj _ rfl)

theorem Znh  (N : Nat) (r : Zdu) (h : ZiE  N = some r) : LSpec Tryz.prog 12 #[] [] (Zlr  r) (ZjX  r) :=
 (Zox  N) r h

end Ev
end Go.Proofs.YtelfeeoobdpmkaaGreat
/- Records, and the program's functions as plain ones. -/
namespace Go.Proofs.YtelfeeoobdpmkaaGreat
open Go.RowKit
namespace Ev
set_option linter.unusedVariables false
structure R_ii where
 a0 : Int
 a1 : Int
def R_ii.z : R_ii := ⟨0, 0⟩
structure RA where
 a0 : Int
 a1 : Int
 a2 : Int
 a3 : Int
def RA.z : RA := ⟨0, 0, 0, 0⟩
inductive Zbm where
 | r0
 | r1 (w0 : List (List RA))

inductive Za9 where
 | h1m0
 | h1m1 (v1 : List (List RA)) (v2 : Nat)

def Zgr (L0 : List (List RA)) (N : Nat) : Option (Za9 ⊕ Zbm) :=
 if 0 < (L0.length : Int) then
  some (.inl (.h1m1 (([((L0.getD 0 []).take ((if 60 < (((L0.getD 0 []).length : Nat) : Int) then (60 : Int) else (((L0.getD 0 []).length : Nat) : Int))).toNat)] : List (List RA))) (1) : Za9))
 else
 some (.inr (.r0 : Zbm))

def Zgs (L0 : List (List RA)) (N : Nat) (v1 : List (List RA)) (v2 : Nat) : Option (Za9 ⊕ Zbm) :=
 if (v2 : Int) < (L0.length : Int) then
  if (v2 : Int) < 4 then
   if v1.length ≤ 100000 then
    some (.inl (.h1m1 ((v1 ++ ([((L0.getD v2 []).take ((if 60 < (((L0.getD v2 []).length : Nat) : Int) then (60 : Int) else (((L0.getD v2 []).length : Nat) : Int))).toNat)] : List (List RA)))) ((v2 + 1)) : Za9))
   else
   none
  else
  some (.inr (.r1 (v1) : Zbm))
 else
 some (.inr (.r1 (v1) : Zbm))

def ZcR (L0 : List (List RA)) (N : Nat) : Za9 → Option (Za9 ⊕ Zbm)
 | .h1m0 => Zgr L0 N
 | .h1m1 v1 v2 => Zgs L0 N v1 v2

def ZiF (L0 : List (List RA)) (N : Nat) : Option (Za9 ⊕ Zbm) :=
 some (.inl (.h1m0 : Za9))

def Zfo (L0 : List (List RA)) (N : Nat) : Option Zbm := goM (ZcR L0 N) N (ZiF L0 N)

inductive ZdY where
 | r0

def Zf5  (N : Nat) : Option ZdY :=
 some (.r0 : ZdY)

inductive Zdv where
 | r0

def ZeN  (N : Nat) : Option Zdv :=
 some (.r0 : Zdv)

inductive Z6 where
 | r0
 | r1
 | r2
 | r3
 | r4
 | r5
 | r6
 | r7
 | r8
 | r9
 | r10
 | r11
 | r12
 | r13
 | r14
 | r15
 | r16
 | r17
 | r18
 | r19
 | r20

def Zap (a0 : Int) (N : Nat) : Option Z6 :=
 if a0 < 0 then
  some (.r0 : Z6)
 else
 if 21 ≤ a0 then
  some (.r0 : Z6)
 else
 if a0 = 0 then
  some (.r0 : Z6)
 else
 if a0 = 1 then
  some (.r1 : Z6)
 else
 if a0 = 2 then
  some (.r2 : Z6)
 else
 if a0 = 3 then
  some (.r3 : Z6)
 else
 if a0 = 4 then
  some (.r4 : Z6)
 else
 if a0 = 5 then
  some (.r5 : Z6)
 else
 if a0 = 6 then
  some (.r6 : Z6)
 else
 if a0 = 7 then
  some (.r7 : Z6)
 else
 if a0 = 8 then
  some (.r8 : Z6)
 else
 if a0 = 9 then
  some (.r9 : Z6)
 else
 if a0 = 10 then
  some (.r10 : Z6)
 else
 if a0 = 11 then
  some (.r11 : Z6)
 else
 if a0 = 12 then
  some (.r12 : Z6)
 else
 if a0 = 13 then
  some (.r13 : Z6)
 else
 if a0 = 14 then
  some (.r14 : Z6)
 else
 if a0 = 15 then
  some (.r15 : Z6)
 else
 if a0 = 16 then
  some (.r16 : Z6)
 else
 if a0 = 17 then
  some (.r17 : Z6)
 else
 if a0 = 18 then
  some (.r18 : Z6)
 else
 if a0 = 19 then
  some (.r19 : Z6)
 else
 some (.r20 : Z6)

inductive Zs where
 | r0 (w0 : Bool)

def ZQ (a0 : Int) (a1 : Int) (a2 : Int) (N : Nat) : Option Zs :=
 if a0 = 1 then
  if 0 ≤ a1 then
   if a1 ≤ 7 then
    some (.r0 (true) : Zs)
   else
   some (.r0 (false) : Zs)
  else
  some (.r0 (false) : Zs)
 else
 if a0 = 2 then
  if 0 ≤ a1 then
   if a1 ≤ 15 then
    some (.r0 (true) : Zs)
   else
   some (.r0 (false) : Zs)
  else
  some (.r0 (false) : Zs)
 else
 if a0 = 3 then
  if 1 ≤ a1 then
   if a1 ≤ 16 then
    some (.r0 (true) : Zs)
   else
   some (.r0 (false) : Zs)
  else
  some (.r0 (false) : Zs)
 else
 if a0 = 4 then
  if 0 ≤ a1 then
   if a1 ≤ 512 then
    some (.r0 (true) : Zs)
   else
   some (.r0 (false) : Zs)
  else
  some (.r0 (false) : Zs)
 else
 if a0 = 5 then
  if 0 ≤ a2 then
   if a2 ≤ 64 then
    if 0 ≤ a1 then
     if a1 ≤ (IntKind.i64.wrap ((IntKind.i64.wrap ((1 : Int) * (2 ^ (a2).toNat : Int))) - (1 : Int))) then
      some (.r0 (true) : Zs)
     else
     some (.r0 (false) : Zs)
    else
    some (.r0 (false) : Zs)
   else
   none
  else
  none
 else
 if a0 = 6 then
  if (-1099511627776 : Int) ≤ a1 then
   if a1 ≤ 1099511627776 then
    some (.r0 (true) : Zs)
   else
   some (.r0 (false) : Zs)
  else
  some (.r0 (false) : Zs)
 else
 if 0 ≤ a1 then
  if a1 ≤ 0 then
   some (.r0 (true) : Zs)
  else
  some (.r0 (false) : Zs)
 else
 some (.r0 (false) : Zs)

inductive Zar where
 | r0 (w0 : Int)

inductive Zq where
 | h1m0 (v1 : Nat) (v2 : Nat) (v3 : Nat)
 | h1m1 (v1 : Nat) (v2 : Nat) (v3 : Nat)
 | h1m2 (v1 : Nat) (v2 : Nat) (v3 : Nat)
 | h1m3 (v1 : Nat) (v2 : Nat) (v3 : Nat)

def ZbS (a0 : Int) (a1 : Int) (a2 : Int) (a3 : Int) (N : Nat) (v1 : Nat) (v2 : Nat) (v3 : Nat) : Option (Zq ⊕ Zar) :=
 ((ZQ ((v1 : Int)) (a1) (0) N).bind fun r => match r with
 | .r0 y0_0 =>
  if ¬ (y0_0 = true) then
   some (.inr (.r0 (100) : Zar))
  else
  some (.inl (.h1m1 (v1) (v2) (v3) : Zq))
 )

def ZbT (a0 : Int) (a1 : Int) (a2 : Int) (a3 : Int) (N : Nat) (v1 : Nat) (v2 : Nat) (v3 : Nat) : Option (Zq ⊕ Zar) :=
 ((ZQ ((v2 : Int)) (a2) (a1) N).bind fun r => match r with
 | .r0 y0_0 =>
  if ¬ (y0_0 = true) then
   some (.inr (.r0 (100) : Zar))
  else
  some (.inl (.h1m2 (v1) (v2) (v3) : Zq))
 )

def ZbU (a0 : Int) (a1 : Int) (a2 : Int) (a3 : Int) (N : Nat) (v1 : Nat) (v2 : Nat) (v3 : Nat) : Option (Zq ⊕ Zar) :=
 ((ZQ ((v3 : Int)) (a3) (a2) N).bind fun r => match r with
 | .r0 y0_0 =>
  if ¬ (y0_0 = true) then
   some (.inr (.r0 (100) : Zar))
  else
  some (.inl (.h1m3 (v1) (v2) (v3) : Zq))
 )

def ZdH (a0 : Int) (a1 : Int) (a2 : Int) (a3 : Int) (N : Nat) (v1 : Nat) (v2 : Nat) (v3 : Nat) : Option (Zq ⊕ Zar) :=
 some (.inr (.r0 (0) : Zar))

def ZbJ (a0 : Int) (a1 : Int) (a2 : Int) (a3 : Int) (N : Nat) : Zq → Option (Zq ⊕ Zar)
 | .h1m0 v1 v2 v3 => ZbS a0 a1 a2 a3 N v1 v2 v3
 | .h1m1 v1 v2 v3 => ZbT a0 a1 a2 a3 N v1 v2 v3
 | .h1m2 v1 v2 v3 => ZbU a0 a1 a2 a3 N v1 v2 v3
 | .h1m3 v1 v2 v3 => ZdH a0 a1 a2 a3 N v1 v2 v3

def ZdM (a0 : Int) (a1 : Int) (a2 : Int) (a3 : Int) (N : Nat) : Option (Zq ⊕ Zar) :=
 ((Zap (a0) N).bind fun r => match r with
 | .r0 =>
  some (.inr (.r0 (100) : Zar))
 | .r1 =>
  some (.inl (.h1m0 (1) (6) (0) : Zq))
 | .r2 =>
  some (.inl (.h1m0 (1) (0) (0) : Zq))
 | .r3 =>
  some (.inl (.h1m0 (1) (1) (0) : Zq))
 | .r4 =>
  some (.inl (.h1m0 (1) (1) (1) : Zq))
 | .r5 =>
  some (.inl (.h1m0 (1) (1) (1) : Zq))
 | .r6 =>
  some (.inl (.h1m0 (1) (1) (1) : Zq))
 | .r7 =>
  some (.inl (.h1m0 (1) (1) (1) : Zq))
 | .r8 =>
  some (.inl (.h1m0 (4) (0) (0) : Zq))
 | .r9 =>
  some (.inl (.h1m0 (1) (4) (0) : Zq))
 | .r10 =>
  some (.inl (.h1m0 (1) (0) (0) : Zq))
 | .r11 =>
  some (.inl (.h1m0 (1) (3) (5) : Zq))
 | .r12 =>
  some (.inl (.h1m0 (1) (0) (0) : Zq))
 | .r13 =>
  some (.inl (.h1m0 (1) (1) (2) : Zq))
 | .r14 =>
  some (.inl (.h1m0 (1) (2) (1) : Zq))
 | .r15 =>
  some (.inl (.h1m0 (0) (0) (0) : Zq))
 | .r16 =>
  some (.inl (.h1m0 (0) (0) (0) : Zq))
 | .r17 =>
  some (.inl (.h1m0 (0) (0) (0) : Zq))
 | .r18 =>
  some (.inl (.h1m0 (0) (0) (0) : Zq))
 | .r19 =>
  some (.inl (.h1m0 (1) (0) (0) : Zq))
 | .r20 =>
  some (.inl (.h1m0 (0) (0) (0) : Zq))
 )

def Z2 (a0 : Int) (a1 : Int) (a2 : Int) (a3 : Int) (N : Nat) : Option Zar := goM (ZbJ a0 a1 a2 a3 N) N (ZdM a0 a1 a2 a3 N)

inductive ZB where
 | r0 (w0 : Int)

def Zbf (a0 : Int) (a1 : Int) (a2 : Int) (a3 : Int) (L4 : List RA) (a5 : Int) (a6 : Int) (a7 : Int) (N : Nat) : Option ZB :=
 if a0 = 15 then
  ((Z2 (a0) (a1) (a2) (a3) N).bind fun r => match r with
  | .r0 y1_0 =>
   if ¬ (y1_0 = 0) then
    some (.r0 (120) : ZB)
   else
   some (.r0 (0) : ZB)
  )
 else
 if a0 = 16 then
  some (.r0 (120) : ZB)
 else
 if a0 = 17 then
  some (.r0 (120) : ZB)
 else
 if a0 = 18 then
  some (.r0 (120) : ZB)
 else
 ((Z2 (a0) (a1) (a2) (a3) N).bind fun r => match r with
 | .r0 y5_0 =>
  if ¬ (y5_0 = 0) then
   some (.r0 (120) : ZB)
  else
  some (.r0 (0) : ZB)
 )

inductive Zbe where
 | r0

def Zb4 (L0 : List RA) (a1 : Int) (a2 : Int) (a3 : Int) (N : Nat) : Option Zbe :=
 some (.r0 : Zbe)

inductive ZaQ where
 | r0
 | r1

def ZbK (a0 : Int) (a1 : Int) (L2 : List RA) (a3 : Int) (a4 : Int) (a5 : Int) (N : Nat) : Option ZaQ :=
 ((Zb4 (L2) (a3) (a4) (a5) N).bind fun r => match r with
 | .r0 =>
  if a1 = 15 then
   some (.r0 : ZaQ)
  else
  if a1 = 16 then
   none
  else
  if a1 = 17 then
   none
  else
  some (.r1 : ZaQ)
 )

inductive Zb7 where
 | r0 (w0 : Int) (w1 : Bool)

def Zbi (a0 : Int) (a1 : Int) (a2 : Int) (a3 : Int) (N : Nat) : Option Zb7 :=
 if a0 = 8 then
  some (.r0 (a1) (true) : Zb7)
 else
 if a0 = 9 then
  some (.r0 (a2) (true) : Zb7)
 else
 some (.r0 (0) (false) : Zb7)

inductive Zae where
 | r0 (w3 : Int) (w4 : Int)

inductive ZU where
 | h1m0 (v3 : Nat)

def check_scan_aims_h1m0 (L0 : List RA) (L1 : List R_ii) (a2 : Int) (a3 : Int) (a4 : Int) (N : Nat) (v3 : Nat) : Option (ZU ⊕ Zae) :=
 if (v3 : Int) < (L0.length : Int) then
  ((Zbi ((L0.getD v3 RA.z).a0) ((L0.getD v3 RA.z).a1) ((L0.getD v3 RA.z).a2) ((L0.getD v3 RA.z).a3) N).bind fun r => match r with
  | .r0 y1_0 y1_1 =>
   if y1_1 = true then
    if (L0.length : Int) < y1_0 then
     some (.inr (.r0 ((v3 : Int)) (120) : Zae))
    else
    if 0 ≤ y1_0 then
     if (y1_0).toNat < L1.length then
      if v3 < L1.length then
       if ¬ (((L1.getD (y1_0).toNat R_ii.z).a0 = (L1.getD v3 R_ii.z).a0 ∧ (L1.getD (y1_0).toNat R_ii.z).a1 = (L1.getD v3 R_ii.z).a1)) then
        some (.inr (.r0 ((v3 : Int)) (120) : Zae))
       else
       if (((v3 + 1) : Nat) : Int) ≤ 9223372036854775807 then
        some (.inl (.h1m0 ((v3 + 1)) : ZU))
       else
       none
      else
      none
     else
     none
    else
    none
   else
   if (((v3 + 1) : Nat) : Int) ≤ 9223372036854775807 then
    some (.inl (.h1m0 ((v3 + 1)) : ZU))
   else
   none
  )
 else
 some (.inr (.r0 (a3) (a4) : Zae))

def check_scan_aimsStep (L0 : List RA) (L1 : List R_ii) (a2 : Int) (a3 : Int) (a4 : Int) (N : Nat) : ZU → Option (ZU ⊕ Zae)
 | .h1m0 v3 => check_scan_aims_h1m0 L0 L1 a2 a3 a4 N v3

def Zc5 (L0 : List RA) (L1 : List R_ii) (a2 : Int) (a3 : Int) (a4 : Int) (N : Nat) : Option (ZU ⊕ Zae) :=
 some (.inl (.h1m0 (0) : ZU))

def check_scan_aims (L0 : List RA) (L1 : List R_ii) (a2 : Int) (a3 : Int) (a4 : Int) (N : Nat) : Option Zae := goM (check_scan_aimsStep L0 L1 a2 a3 a4 N) N (Zc5 L0 L1 a2 a3 a4 N)

inductive Zk where
 | r0 (w4 : Int)

def ZaT (a0 : Int) (a1 : Int) (a2 : Int) (a3 : Int) (L4 : List R_ii) (L5 : List RA) (L6 : List R_ii) (L7 : List Int) (L8 : List Int) (a9 : Int) (a10 : Int) (a11 : Int) (N : Nat) : Option Zk :=
 if a0 = 15 then
  if 8 ≤ (L4.length : Int) then
   ((Z2 (a0) (a1) (a2) (a3) N).bind fun r => match r with
   | .r0 y2_0 =>
    if y2_0 = 0 then
     some (.r0 (140) : Zk)
    else
    ((Z2 (a0) (a1) (a2) (a3) N).bind fun r => match r with
    | .r0 y4_0 =>
     if ¬ (y4_0 = 0) then
      some (.r0 (120) : Zk)
     else
     some (.r0 (0) : Zk)
    )
   )
  else
  ((Z2 (a0) (a1) (a2) (a3) N).bind fun r => match r with
  | .r0 y2_0 =>
   if ¬ (y2_0 = 0) then
    some (.r0 (120) : Zk)
   else
   some (.r0 (0) : Zk)
  )
 else
 if a0 = 16 then
  if (L4.length : Int) = 0 then
   some (.r0 (120) : Zk)
  else
  if ((L4.length : Int) - (1 : Int)) ≤ 9223372036854775807 then
   if 0 ≤ (L4.getD (L4.length - 1) R_ii.z).a1 then
    some (.r0 (120) : Zk)
   else
   ((Z2 (a0) (a1) (a2) (a3) N).bind fun r => match r with
   | .r0 y5_0 =>
    if ¬ (y5_0 = 0) then
     some (.r0 (120) : Zk)
    else
    some (.r0 (0) : Zk)
   )
  else
  none
 else
 if a0 = 17 then
  if (L4.length : Int) = 0 then
   some (.r0 (120) : Zk)
  else
  ((Z2 (a0) (a1) (a2) (a3) N).bind fun r => match r with
  | .r0 y4_0 =>
   if ¬ (y4_0 = 0) then
    some (.r0 (120) : Zk)
   else
   some (.r0 (0) : Zk)
  )
 else
 if a0 = 18 then
  if (L4.length : Int) = 0 then
   some (.r0 (120) : Zk)
  else
  ((Z2 (a0) (a1) (a2) (a3) N).bind fun r => match r with
  | .r0 y5_0 =>
   if ¬ (y5_0 = 0) then
    some (.r0 (120) : Zk)
   else
   some (.r0 (0) : Zk)
  )
 else
 if a0 = 20 then
  if 0 < (L4.length : Int) then
   some (.r0 (120) : Zk)
  else
  ((Z2 (a0) (a1) (a2) (a3) N).bind fun r => match r with
  | .r0 y6_0 =>
   if ¬ (y6_0 = 0) then
    some (.r0 (120) : Zk)
   else
   some (.r0 (0) : Zk)
  )
 else
 ((Z2 (a0) (a1) (a2) (a3) N).bind fun r => match r with
 | .r0 y5_0 =>
  if ¬ (y5_0 = 0) then
   some (.r0 (120) : Zk)
  else
  some (.r0 (0) : Zk)
 )

inductive Zak where
 | r0 (w4 : Int) (w5 : Int)

def Za1 (L0 : List R_ii) (L1 : List RA) (L2 : List R_ii) (L3 : List Int) (L4 : List Int) (a5 : Int) (a6 : Int) (a7 : Int) (N : Nat) : Option Zak :=
 if (L0.length : Int) = 0 then
  some (.r0 ((-1 : Int)) (0) : Zak)
 else
 if ((L0.length : Int) - (1 : Int)) ≤ 9223372036854775807 then
  if 0 ≤ (L0.getD (L0.length - 1) R_ii.z).a1 then
   some (.r0 ((L0.getD (L0.length - 1) R_ii.z).a0) (1) : Zak)
  else
  some (.r0 ((L0.getD (L0.length - 1) R_ii.z).a0) (0) : Zak)
 else
 none

inductive Zb5 where
 | r0

def Zba (L0 : List R_ii) (L1 : List RA) (L2 : List R_ii) (L3 : List Int) (L4 : List Int) (a5 : Int) (a6 : Int) (a7 : Int) (N : Nat) : Option Zb5 :=
 if ((L0.length : Int) - (1 : Int)) ≤ 9223372036854775807 then
  if 0 ≤ ((L0.length : Int) - (1 : Int)) then
   some (.r0 : Zb5)
  else
  none
 else
 none

inductive ZN where
 | r0 (w2 : List R_ii)
 | r1 (w1 : List R_ii) (w3 : List R_ii) (w4 : List Int) (w5 : Int)
 | r2 (w0 : List R_ii) (w3 : List R_ii) (w4 : List Int)

def ZaL (a0 : Int) (a1 : Int) (L2 : List R_ii) (L3 : List RA) (L4 : List R_ii) (L5 : List Int) (L6 : List Int) (a7 : Int) (a8 : Int) (a9 : Int) (N : Nat) : Option ZN :=
 ((Za1 (L2) (L3) (L4) (L5) (L6) (a7) (a8) (a9) N).bind fun r => match r with
 | .r0 y0_0 y0_1 =>
  if L4.length ≤ 100000 then
   if L5.length ≤ 100000 then
    if a1 = 15 then
     if (L2.length : Int) = 0 then
      if L6.length ≤ 100000 then
       some (.r0 ((L4 ++ ([(⟨y0_0, y0_1⟩ : R_ii)] : List R_ii))) : ZN)
      else
      none
     else
     if L2.length ≤ 100000 then
      some (.r1 ((L2 ++ ([(⟨a0, (-1 : Int)⟩ : R_ii)] : List R_ii))) ((L4 ++ ([(⟨y0_0, y0_1⟩ : R_ii)] : List R_ii))) ((L5 ++ [(-1 : Int)])) ((if (((L2.length + 1) : Nat) : Int) > a7 then (((L2.length + 1) : Nat) : Int) else a7)) : ZN)
     else
     none
    else
    if a1 = 16 then
     if ((L2.length : Int) - (1 : Int)) ≤ 9223372036854775807 then
      if 0 ≤ ((L2.length : Int) - (1 : Int)) then
       if 0 ≤ (L2.getD (((L2.length : Int) - (1 : Int))).toNat R_ii.z).a0 then
        if ((L2.getD (((L2.length : Int) - (1 : Int))).toNat R_ii.z).a0).toNat < (L5.length + 1) then
         some (.r2 ((L2.set (((L2.length : Int) - (1 : Int))).toNat (⟨(L2.getD (((L2.length : Int) - (1 : Int))).toNat R_ii.z).a0, a0⟩ : R_ii))) ((L4 ++ ([(⟨y0_0, y0_1⟩ : R_ii)] : List R_ii))) (((L5 ++ [(-1 : Int)]).set ((L2.getD (((L2.length : Int) - (1 : Int))).toNat R_ii.z).a0).toNat a0)) : ZN)
        else
        none
       else
       none
      else
      none
     else
     none
    else
    if a1 = 17 then
     if ((L2.length : Int) - (1 : Int)) ≤ 9223372036854775807 then
      if 0 ≤ ((L2.length : Int) - (1 : Int)) then
       if 0 ≤ (L2.getD (((L2.length : Int) - (1 : Int))).toNat R_ii.z).a1 then
        if ((L2.getD (((L2.length : Int) - (1 : Int))).toNat R_ii.z).a1).toNat < (L5.length + 1) then
         if 0 ≤ a0 then
          if (a0).toNat < (L5.length + 1) then
           ((Zba (L2) (L3) ((L4 ++ ([(⟨y0_0, y0_1⟩ : R_ii)] : List R_ii))) ((((L5 ++ [(-1 : Int)]).set ((L2.getD (((L2.length : Int) - (1 : Int))).toNat R_ii.z).a1).toNat a0).set (a0).toNat (L2.getD (((L2.length : Int) - (1 : Int))).toNat R_ii.z).a0)) (L6) (a7) (a8) (a9) N).bind fun r => match r with
           | .r0 =>
            some (.r1 ((L2.take (((L2.length : Int) - (1 : Int))).toNat)) ((L4 ++ ([(⟨y0_0, y0_1⟩ : R_ii)] : List R_ii))) ((((L5 ++ [(-1 : Int)]).set ((L2.getD (((L2.length : Int) - (1 : Int))).toNat R_ii.z).a1).toNat a0).set (a0).toNat (L2.getD (((L2.length : Int) - (1 : Int))).toNat R_ii.z).a0)) (a7) : ZN)
           )
          else
          none
         else
         none
        else
        none
       else
       if 0 ≤ (L2.getD (((L2.length : Int) - (1 : Int))).toNat R_ii.z).a0 then
        if ((L2.getD (((L2.length : Int) - (1 : Int))).toNat R_ii.z).a0).toNat < (L5.length + 1) then
         if 0 ≤ a0 then
          if (a0).toNat < (L5.length + 1) then
           ((Zba (L2) (L3) ((L4 ++ ([(⟨y0_0, y0_1⟩ : R_ii)] : List R_ii))) ((((L5 ++ [(-1 : Int)]).set ((L2.getD (((L2.length : Int) - (1 : Int))).toNat R_ii.z).a0).toNat a0).set (a0).toNat (L2.getD (((L2.length : Int) - (1 : Int))).toNat R_ii.z).a0)) (L6) (a7) (a8) (a9) N).bind fun r => match r with
           | .r0 =>
            some (.r1 ((L2.take (((L2.length : Int) - (1 : Int))).toNat)) ((L4 ++ ([(⟨y0_0, y0_1⟩ : R_ii)] : List R_ii))) ((((L5 ++ [(-1 : Int)]).set ((L2.getD (((L2.length : Int) - (1 : Int))).toNat R_ii.z).a0).toNat a0).set (a0).toNat (L2.getD (((L2.length : Int) - (1 : Int))).toNat R_ii.z).a0)) (a7) : ZN)
           )
          else
          none
         else
         none
        else
        none
       else
       none
      else
      none
     else
     none
    else
    some (.r2 (L2) ((L4 ++ ([(⟨y0_0, y0_1⟩ : R_ii)] : List R_ii))) ((L5 ++ [(-1 : Int)])) : ZN)
   else
   none
  else
  none
 )

inductive Z3 where
 | r0 (w2 : Int)

def ZaU (a0 : Int) (a1 : Int) (a2 : Int) (a3 : Int) (L4 : List RA) (L5 : List R_ii) (L6 : List Int) (a7 : Int) (a8 : Int) (a9 : Int) (N : Nat) : Option Z3 :=
 if a0 = 15 then
  ((Z2 (a0) (a1) (a2) (a3) N).bind fun r => match r with
  | .r0 y1_0 =>
   if ¬ (y1_0 = 0) then
    some (.r0 (120) : Z3)
   else
   some (.r0 (0) : Z3)
  )
 else
 if a0 = 16 then
  some (.r0 (120) : Z3)
 else
 if a0 = 17 then
  some (.r0 (120) : Z3)
 else
 if a0 = 18 then
  some (.r0 (120) : Z3)
 else
 ((Z2 (a0) (a1) (a2) (a3) N).bind fun r => match r with
 | .r0 y5_0 =>
  if ¬ (y5_0 = 0) then
   some (.r0 (120) : Z3)
  else
  some (.r0 (0) : Z3)
 )

inductive ZaW where
 | r0

def Zbn (L0 : List RA) (L1 : List R_ii) (L2 : List Int) (a3 : Int) (a4 : Int) (a5 : Int) (N : Nat) : Option ZaW :=
 some (.r0 : ZaW)

inductive ZaC where
 | r0
 | r1

def Zby (a0 : Int) (a1 : Int) (L2 : List RA) (L3 : List R_ii) (L4 : List Int) (a5 : Int) (a6 : Int) (a7 : Int) (N : Nat) : Option ZaC :=
 ((Zbn (L2) (L3) (L4) (a5) (a6) (a7) N).bind fun r => match r with
 | .r0 =>
  if L3.length ≤ 100000 then
   if L4.length ≤ 100000 then
    if a1 = 15 then
     some (.r0 : ZaC)
    else
    if a1 = 16 then
     none
    else
    if a1 = 17 then
     none
    else
    some (.r1 : ZaC)
   else
   none
  else
  none
 )

inductive ZV where
 | r0 (w4 : Int) (w5 : Int)

inductive ZO where
 | h1m0 (v4 : Nat)

def check_scan_aims_2_h1m0 (L0 : List RA) (L1 : List R_ii) (L2 : List Int) (a3 : Int) (a4 : Int) (a5 : Int) (N : Nat) (v4 : Nat) : Option (ZO ⊕ ZV) :=
 if (v4 : Int) < (L0.length : Int) then
  ((Zbi ((L0.getD v4 RA.z).a0) ((L0.getD v4 RA.z).a1) ((L0.getD v4 RA.z).a2) ((L0.getD v4 RA.z).a3) N).bind fun r => match r with
  | .r0 y1_0 y1_1 =>
   if y1_1 = true then
    if (L0.length : Int) < y1_0 then
     some (.inr (.r0 ((v4 : Int)) (120) : ZV))
    else
    if 0 ≤ y1_0 then
     if (y1_0).toNat < L1.length then
      if v4 < L1.length then
       if ¬ (((L1.getD (y1_0).toNat R_ii.z).a0 = (L1.getD v4 R_ii.z).a0 ∧ (L1.getD (y1_0).toNat R_ii.z).a1 = (L1.getD v4 R_ii.z).a1)) then
        some (.inr (.r0 ((v4 : Int)) (120) : ZV))
       else
       if (((v4 + 1) : Nat) : Int) ≤ 9223372036854775807 then
        some (.inl (.h1m0 ((v4 + 1)) : ZO))
       else
       none
      else
      none
     else
     none
    else
    none
   else
   if (((v4 + 1) : Nat) : Int) ≤ 9223372036854775807 then
    some (.inl (.h1m0 ((v4 + 1)) : ZO))
   else
   none
  )
 else
 some (.inr (.r0 (a4) (a5) : ZV))

def check_scan_aims_2Step (L0 : List RA) (L1 : List R_ii) (L2 : List Int) (a3 : Int) (a4 : Int) (a5 : Int) (N : Nat) : ZO → Option (ZO ⊕ ZV)
 | .h1m0 v4 => check_scan_aims_2_h1m0 L0 L1 L2 a3 a4 a5 N v4

def Zcr (L0 : List RA) (L1 : List R_ii) (L2 : List Int) (a3 : Int) (a4 : Int) (a5 : Int) (N : Nat) : Option (ZO ⊕ ZV) :=
 some (.inl (.h1m0 (0) : ZO))

def check_scan_aims_2 (L0 : List RA) (L1 : List R_ii) (L2 : List Int) (a3 : Int) (a4 : Int) (a5 : Int) (N : Nat) : Option ZV := goM (check_scan_aims_2Step L0 L1 L2 a3 a4 a5 N) N (Zcr L0 L1 L2 a3 a4 a5 N)

inductive ZW where
 | r0 (w6 : Int) (w7 : Int)

inductive ZP where
 | h1m0 (v6 : Nat)

def check_scan_aims_3_h1m0 (L0 : List R_ii) (L1 : List RA) (L2 : List R_ii) (L3 : List Int) (L4 : List Int) (a5 : Int) (a6 : Int) (a7 : Int) (N : Nat) (v6 : Nat) : Option (ZP ⊕ ZW) :=
 if (v6 : Int) < (L1.length : Int) then
  ((Zbi ((L1.getD v6 RA.z).a0) ((L1.getD v6 RA.z).a1) ((L1.getD v6 RA.z).a2) ((L1.getD v6 RA.z).a3) N).bind fun r => match r with
  | .r0 y1_0 y1_1 =>
   if y1_1 = true then
    if (L1.length : Int) < y1_0 then
     some (.inr (.r0 ((v6 : Int)) (120) : ZW))
    else
    if 0 ≤ y1_0 then
     if (y1_0).toNat < L2.length then
      if v6 < L2.length then
       if ¬ (((L2.getD (y1_0).toNat R_ii.z).a0 = (L2.getD v6 R_ii.z).a0 ∧ (L2.getD (y1_0).toNat R_ii.z).a1 = (L2.getD v6 R_ii.z).a1)) then
        some (.inr (.r0 ((v6 : Int)) (120) : ZW))
       else
       if (((v6 + 1) : Nat) : Int) ≤ 9223372036854775807 then
        some (.inl (.h1m0 ((v6 + 1)) : ZP))
       else
       none
      else
      none
     else
     none
    else
    none
   else
   if (((v6 + 1) : Nat) : Int) ≤ 9223372036854775807 then
    some (.inl (.h1m0 ((v6 + 1)) : ZP))
   else
   none
  )
 else
 some (.inr (.r0 (a6) (a7) : ZW))

def check_scan_aims_3Step (L0 : List R_ii) (L1 : List RA) (L2 : List R_ii) (L3 : List Int) (L4 : List Int) (a5 : Int) (a6 : Int) (a7 : Int) (N : Nat) : ZP → Option (ZP ⊕ ZW)
 | .h1m0 v6 => check_scan_aims_3_h1m0 L0 L1 L2 L3 L4 a5 a6 a7 N v6

def Zcs (L0 : List R_ii) (L1 : List RA) (L2 : List R_ii) (L3 : List Int) (L4 : List Int) (a5 : Int) (a6 : Int) (a7 : Int) (N : Nat) : Option (ZP ⊕ ZW) :=
 some (.inl (.h1m0 (0) : ZP))

def check_scan_aims_3 (L0 : List R_ii) (L1 : List RA) (L2 : List R_ii) (L3 : List Int) (L4 : List Int) (a5 : Int) (a6 : Int) (a7 : Int) (N : Nat) : Option ZW := goM (check_scan_aims_3Step L0 L1 L2 L3 L4 a5 a6 a7 N) N (Zcs L0 L1 L2 L3 L4 a5 a6 a7 N)

inductive Z5 where
 | r0 (w3 : Int)
 | r1 (w3 : Int) (w4 : Int)
 | r2 (w0 : List R_ii) (w2 : List R_ii) (w3 : List Int) (w4 : List Int) (w5 : Int) (w6 : Int) (w7 : Int)
 | r3 (w1 : List R_ii) (w2 : List Int) (w4 : Int) (w5 : Int)

inductive Z8 where
 | h1m0
 | h1m1 (v3 : Nat) (v4 : List R_ii) (v6 : List R_ii) (v7 : List Int) (v8 : List Int) (v9 : Int)
 | h1m2 (v3 : Nat) (v5 : List R_ii) (v6 : List Int)

def check_look_h1m0 (L0 : List RA) (N : Nat) : Option (Z8 ⊕ Z5) :=
 if 0 < (L0.length : Int) then
  ((Zbf ((L0.getD 0 RA.z).a0) ((L0.getD 0 RA.z).a1) ((L0.getD 0 RA.z).a2) ((L0.getD 0 RA.z).a3) (L0) (0) ((-1 : Int)) (0) N).bind fun r => match r with
  | .r0 y1_0 =>
   if ¬ (y1_0 = 0) then
    some (.inr (.r0 (y1_0) : Z5))
   else
   ((ZbK (0) ((L0.getD 0 RA.z).a0) (L0) (0) ((-1 : Int)) (0) N).bind fun r => match r with
   | .r0 =>
    some (.inl (.h1m1 (1) (([(⟨(0 : Int), (-1 : Int)⟩ : R_ii)] : List R_ii)) (([(⟨(-1 : Int), (0 : Int)⟩ : R_ii)] : List R_ii)) ([(-1 : Int)]) (([(0 : Int)] : List Int)) ((if (1 : Int) > (0 : Int) then (1 : Int) else (0 : Int))) : Z8))
   | .r1 =>
    some (.inl (.h1m2 (1) (([(⟨(-1 : Int), (0 : Int)⟩ : R_ii)] : List R_ii)) ([(-1 : Int)]) : Z8))
   )
  )
 else
 ((check_scan_aims (L0) (([(⟨(-1 : Int), (0 : Int)⟩ : R_ii)] : List R_ii)) (0) ((-1 : Int)) (0) N).bind fun r => match r with
 | .r0 y1_0 y1_1 =>
  some (.inr (.r1 (y1_0) (y1_1) : Z5))
 )

def check_look_h1m1 (L0 : List RA) (N : Nat) (v3 : Nat) (v4 : List R_ii) (v6 : List R_ii) (v7 : List Int) (v8 : List Int) (v9 : Int) : Option (Z8 ⊕ Z5) :=
 if (v3 : Int) < (L0.length : Int) then
  ((ZaT ((L0.getD v3 RA.z).a0) ((L0.getD v3 RA.z).a1) ((L0.getD v3 RA.z).a2) ((L0.getD v3 RA.z).a3) (v4) (L0) (v6) (v7) (v8) (v9) ((-1 : Int)) (0) N).bind fun r => match r with
  | .r0 y1_0 =>
   if ¬ (y1_0 = 0) then
    some (.inr (.r2 (v4) (v6) (v7) (v8) (v9) ((v3 : Int)) (y1_0) : Z5))
   else
   ((ZaL ((v3 : Int)) ((L0.getD v3 RA.z).a0) (v4) (L0) (v6) (v7) (v8) (v9) ((-1 : Int)) (0) N).bind fun r => match r with
   | .r0 y3_0 =>
    if (((v3 + 1) : Nat) : Int) ≤ 9223372036854775807 then
     some (.inl (.h1m1 ((v3 + 1)) ((v4 ++ ([(⟨(v3 : Int), (-1 : Int)⟩ : R_ii)] : List R_ii))) (y3_0) ((v7 ++ [(-1 : Int)])) ((v8 ++ ([(v3 : Int)] : List Int))) ((if (((v4.length + 1) : Nat) : Int) > v9 then (((v4.length + 1) : Nat) : Int) else v9)) : Z8))
    else
    none
   | .r1 y3_0 y3_1 y3_2 y3_3 =>
    if (((v3 + 1) : Nat) : Int) ≤ 9223372036854775807 then
     some (.inl (.h1m1 ((v3 + 1)) (y3_0) (y3_1) (y3_2) (v8) (y3_3) : Z8))
    else
    none
   | .r2 y3_0 y3_1 y3_2 =>
    if (((v3 + 1) : Nat) : Int) ≤ 9223372036854775807 then
     some (.inl (.h1m1 ((v3 + 1)) (y3_0) (y3_1) (y3_2) (v8) (v9) : Z8))
    else
    none
   )
  )
 else
 if 0 < (v4.length : Int) then
  some (.inr (.r2 (v4) (v6) (v7) (v8) (v9) ((L0.length : Int)) (120) : Z5))
 else
 if v6.length ≤ 100000 then
  ((check_scan_aims_3 (v4) (L0) ((v6 ++ ([(⟨(-1 : Int), (0 : Int)⟩ : R_ii)] : List R_ii))) (v7) (v8) (v9) ((-1 : Int)) (0) N).bind fun r => match r with
  | .r0 y3_0 y3_1 =>
   some (.inr (.r2 (v4) ((v6 ++ ([(⟨(-1 : Int), (0 : Int)⟩ : R_ii)] : List R_ii))) (v7) (v8) (v9) (y3_0) (y3_1) : Z5))
  )
 else
 none

def check_look_h1m2 (L0 : List RA) (N : Nat) (v3 : Nat) (v5 : List R_ii) (v6 : List Int) : Option (Z8 ⊕ Z5) :=
 if (v3 : Int) < (L0.length : Int) then
  ((ZaU ((L0.getD v3 RA.z).a0) ((L0.getD v3 RA.z).a1) ((L0.getD v3 RA.z).a2) ((L0.getD v3 RA.z).a3) (L0) (v5) (v6) (0) ((-1 : Int)) (0) N).bind fun r => match r with
  | .r0 y1_0 =>
   if ¬ (y1_0 = 0) then
    some (.inr (.r3 (v5) (v6) ((v3 : Int)) (y1_0) : Z5))
   else
   ((Zby ((v3 : Int)) ((L0.getD v3 RA.z).a0) (L0) (v5) (v6) (0) ((-1 : Int)) (0) N).bind fun r => match r with
   | .r0 =>
    if (((v3 + 1) : Nat) : Int) ≤ 9223372036854775807 then
     some (.inl (.h1m1 ((v3 + 1)) (([(⟨(v3 : Int), (-1 : Int)⟩ : R_ii)] : List R_ii)) ((v5 ++ ([(⟨(-1 : Int), (0 : Int)⟩ : R_ii)] : List R_ii))) ((v6 ++ [(-1 : Int)])) (([(v3 : Int)] : List Int)) ((if (1 : Int) > (0 : Int) then (1 : Int) else (0 : Int))) : Z8))
    else
    none
   | .r1 =>
    if (((v3 + 1) : Nat) : Int) ≤ 9223372036854775807 then
     some (.inl (.h1m2 ((v3 + 1)) ((v5 ++ ([(⟨(-1 : Int), (0 : Int)⟩ : R_ii)] : List R_ii))) ((v6 ++ [(-1 : Int)])) : Z8))
    else
    none
   )
  )
 else
 if v5.length ≤ 100000 then
  ((check_scan_aims_2 (L0) ((v5 ++ ([(⟨(-1 : Int), (0 : Int)⟩ : R_ii)] : List R_ii))) (v6) (0) ((-1 : Int)) (0) N).bind fun r => match r with
  | .r0 y2_0 y2_1 =>
   some (.inr (.r3 ((v5 ++ ([(⟨(-1 : Int), (0 : Int)⟩ : R_ii)] : List R_ii))) (v6) (y2_0) (y2_1) : Z5))
  )
 else
 none

def check_lookStep (L0 : List RA) (N : Nat) : Z8 → Option (Z8 ⊕ Z5)
 | .h1m0 => check_look_h1m0 L0 N
 | .h1m1 v3 v4 v6 v7 v8 v9 => check_look_h1m1 L0 N v3 v4 v6 v7 v8 v9
 | .h1m2 v3 v5 v6 => check_look_h1m2 L0 N v3 v5 v6

def ZcJ (L0 : List RA) (N : Nat) : Option (Z8 ⊕ Z5) :=
 if (L0.length : Int) = 0 then
  some (.inr (.r0 (120) : Z5))
 else
 if 512 < (L0.length : Int) then
  some (.inr (.r0 (120) : Z5))
 else
 some (.inl (.h1m0 : Z8))

def check_look (L0 : List RA) (N : Nat) : Option Z5 := goM (check_lookStep L0 N) N (ZcJ L0 N)

inductive ZaD where
 | r0 (w0 : Int)

def check_Check (L0 : List RA) (N : Nat) : Option ZaD :=
 ((check_look (L0) N).bind fun r => match r with
 | .r0 y0_0 =>
  some (.r0 (y0_0) : ZaD)
 | .r1 y0_0 y0_1 =>
  some (.r0 (y0_1) : ZaD)
 | .r2 y0_0 y0_1 y0_2 y0_3 y0_4 y0_5 y0_6 =>
  some (.r0 (y0_6) : ZaD)
 | .r3 y0_0 y0_1 y0_2 y0_3 =>
  some (.r0 (y0_3) : ZaD)
 )

inductive ZaV where
 | r0 (w0 : Bool)

inductive Zbb where
 | h1m0 (v2 : Nat)

def Zgt (L0 : List RA) (N : Nat) (v2 : Nat) : Option (Zbb ⊕ ZaV) :=
 if (v2 : Int) < (L0.length : Int) then
  ((Zbi ((L0.getD v2 RA.z).a0) ((L0.getD v2 RA.z).a1) ((L0.getD v2 RA.z).a2) ((L0.getD v2 RA.z).a3) N).bind fun r => match r with
  | .r0 y1_0 y1_1 =>
   if y1_1 = true then
    if y1_0 ≤ (v2 : Int) then
     some (.inr (.r0 (false) : ZaV))
    else
    if (L0.getD v2 RA.z).a0 = 18 then
     some (.inr (.r0 (false) : ZaV))
    else
    if (((v2 + 1) : Nat) : Int) ≤ 9223372036854775807 then
     some (.inl (.h1m0 ((v2 + 1)) : Zbb))
    else
    none
   else
   if (L0.getD v2 RA.z).a0 = 18 then
    some (.inr (.r0 (false) : ZaV))
   else
   if (((v2 + 1) : Nat) : Int) ≤ 9223372036854775807 then
    some (.inl (.h1m0 ((v2 + 1)) : Zbb))
   else
   none
  )
 else
 some (.inr (.r0 (true) : ZaV))

def ZdN (L0 : List RA) (N : Nat) : Zbb → Option (Zbb ⊕ ZaV)
 | .h1m0 v2 => Zgt L0 N v2

def ZiG (L0 : List RA) (N : Nat) : Option (Zbb ⊕ ZaV) :=
 ((check_Check (L0) N).bind fun r => match r with
 | .r0 y0_0 =>
  if ¬ (y0_0 = 0) then
   some (.inr (.r0 (false) : ZaV))
  else
  some (.inl (.h1m0 (0) : Zbb))
 )

def ZgM (L0 : List RA) (N : Nat) : Option ZaV := goM (ZdN L0 N) N (ZiG L0 N)

inductive Zbc where
 | r0
 | r1 (w0 : Bool)

def Zcf (a0 : Int) (a1 : Int) (a2 : Int) (a3 : Int) (a4 : Int) (N : Nat) : Option Zbc :=
 if a0 = 15 then
  some (.r0 : Zbc)
 else
 if a0 = 16 then
  some (.r1 (false) : Zbc)
 else
 if a0 = 17 then
  some (.r1 (false) : Zbc)
 else
 if a0 = 18 then
  some (.r1 (false) : Zbc)
 else
 some (.r1 (true) : Zbc)

inductive ZJ where
 | r0 (w0 : Int) (w1 : Int) (w2 : Int) (w3 : Bool)

def Zdd (a0 : Int) (N : Nat) : Option ZJ :=
 if a0 = 1 then
  some (.r0 (1) (2) (0) (true) : ZJ)
 else
 if a0 = 2 then
  some (.r0 (1) (0) (0) (true) : ZJ)
 else
 if a0 = 10 then
  some (.r0 (1) (0) (0) (true) : ZJ)
 else
 if a0 = 12 then
  some (.r0 (1) (0) (0) (true) : ZJ)
 else
 if a0 = 19 then
  some (.r0 (1) (0) (0) (true) : ZJ)
 else
 if a0 = 3 then
  some (.r0 (1) (1) (0) (true) : ZJ)
 else
 if a0 = 4 then
  some (.r0 (1) (1) (1) (true) : ZJ)
 else
 if a0 = 5 then
  some (.r0 (1) (1) (1) (true) : ZJ)
 else
 if a0 = 6 then
  some (.r0 (1) (1) (1) (true) : ZJ)
 else
 if a0 = 7 then
  some (.r0 (1) (1) (1) (true) : ZJ)
 else
 if a0 = 8 then
  some (.r0 (3) (0) (0) (true) : ZJ)
 else
 if a0 = 9 then
  some (.r0 (1) (3) (0) (true) : ZJ)
 else
 if a0 = 11 then
  some (.r0 (1) (5) (6) (true) : ZJ)
 else
 if a0 = 13 then
  some (.r0 (1) (1) (4) (true) : ZJ)
 else
 if a0 = 14 then
  some (.r0 (1) (4) (1) (true) : ZJ)
 else
 if a0 = 15 then
  some (.r0 (0) (0) (0) (true) : ZJ)
 else
 if a0 = 16 then
  some (.r0 (0) (0) (0) (true) : ZJ)
 else
 if a0 = 17 then
  some (.r0 (0) (0) (0) (true) : ZJ)
 else
 if a0 = 18 then
  some (.r0 (0) (0) (0) (true) : ZJ)
 else
 if a0 = 20 then
  some (.r0 (0) (0) (0) (true) : ZJ)
 else
 some (.r0 (0) (0) (0) (false) : ZJ)

inductive ZA where
 | r0 (w0 : Bool)

def Zal (a0 : Int) (a1 : Int) (a2 : Int) (N : Nat) : Option ZA :=
 if a0 = 1 then
  if 0 ≤ a1 then
   if a1 < 8 then
    some (.r0 (true) : ZA)
   else
   some (.r0 (false) : ZA)
  else
  some (.r0 (false) : ZA)
 else
 if a0 = 2 then
  if (-1099511627776 : Int) ≤ a1 then
   if a1 ≤ 1099511627776 then
    some (.r0 (true) : ZA)
   else
   some (.r0 (false) : ZA)
  else
  some (.r0 (false) : ZA)
 else
 if a0 = 3 then
  if 0 ≤ a1 then
   if a1 ≤ 512 then
    some (.r0 (true) : ZA)
   else
   some (.r0 (false) : ZA)
  else
  some (.r0 (false) : ZA)
 else
 if a0 = 4 then
  if 0 ≤ a1 then
   if a1 < 16 then
    some (.r0 (true) : ZA)
   else
   some (.r0 (false) : ZA)
  else
  some (.r0 (false) : ZA)
 else
 if a0 = 5 then
  if 1 ≤ a1 then
   if a1 ≤ 16 then
    some (.r0 (true) : ZA)
   else
   some (.r0 (false) : ZA)
  else
  some (.r0 (false) : ZA)
 else
 if a0 = 6 then
  if 1 ≤ a2 then
   if a2 ≤ 16 then
    if 0 ≤ a1 then
     if a1 < (IntKind.i64.wrap ((1 : Int) * (2 ^ (a2).toNat : Int))) then
      some (.r0 (true) : ZA)
     else
     some (.r0 (false) : ZA)
    else
    some (.r0 (false) : ZA)
   else
   some (.r0 (false) : ZA)
  else
  some (.r0 (false) : ZA)
 else
 if a1 = 0 then
  some (.r0 (true) : ZA)
 else
 some (.r0 (false) : ZA)

inductive ZbL where
 | r0 (w0 : Bool)

def Zag (a0 : Int) (a1 : Int) (a2 : Int) (a3 : Int) (N : Nat) : Option ZbL :=
 ((Zdd (a0) N).bind fun r => match r with
 | .r0 y0_0 y0_1 y0_2 y0_3 =>
  if y0_3 = true then
   ((Zal (y0_0) (a1) (0) N).bind fun r => match r with
   | .r0 y2_0 =>
    if y2_0 = true then
     ((Zal (y0_1) (a2) (0) N).bind fun r => match r with
     | .r0 y4_0 =>
      if y4_0 = true then
       ((Zal (y0_2) (a3) (a2) N).bind fun r => match r with
       | .r0 y6_0 =>
        if y6_0 = true then
         some (.r0 (true) : ZbL)
        else
        some (.r0 (false) : ZbL)
       )
      else
      some (.r0 (false) : ZbL)
     )
    else
    some (.r0 (false) : ZbL)
   )
  else
  some (.r0 (false) : ZbL)
 )

inductive ZM where
 | r0 (w1 : Bool)
 | r1 (w1 : List R_ii)
 | r2

def Zbo (L0 : List R_ii) (a1 : Int) (a2 : Int) (a3 : Int) (a4 : Int) (a5 : Int) (N : Nat) : Option ZM :=
 if a1 = 15 then
  if 8 ≤ (L0.length : Int) then
   some (.r0 (false) : ZM)
  else
  if L0.length = 0 then
   some (.r1 (([(⟨a5, (0 : Int)⟩ : R_ii)] : List R_ii)) : ZM)
  else
  some (.r1 ((L0 ++ ([(⟨a5, (0 : Int)⟩ : R_ii)] : List R_ii))) : ZM)
 else
 if a1 = 16 then
  if (L0.length : Int) = 0 then
   some (.r0 (false) : ZM)
  else
  if ((L0.length : Int) - (1 : Int)) ≤ 9223372036854775807 then
   if (L0.getD (L0.length - 1) R_ii.z).a1 = 1 then
    some (.r0 (false) : ZM)
   else
   if ((L0.length - 1) - 0) = 0 then
    some (.r1 (([(⟨(L0.getD (L0.length - 1) R_ii.z).a0, (1 : Int)⟩ : R_ii)] : List R_ii)) : ZM)
   else
   if ((L0.length - 1) - 0) ≤ 100000 then
    some (.r1 (((L0.take ((L0.length - 1) - 0)) ++ ([(⟨(L0.getD (L0.length - 1) R_ii.z).a0, (1 : Int)⟩ : R_ii)] : List R_ii))) : ZM)
   else
   none
  else
  none
 else
 if a1 = 17 then
  if (L0.length : Int) = 0 then
   some (.r0 (false) : ZM)
  else
  if ((L0.length : Int) - (1 : Int)) ≤ 9223372036854775807 then
   some (.r2 : ZM)
  else
  none
 else
 if a1 = 18 then
  if 0 < (L0.length : Int) then
   some (.r0 (true) : ZM)
  else
  some (.r0 (false) : ZM)
 else
 if a1 = 20 then
  if (L0.length : Int) = 0 then
   some (.r0 (true) : ZM)
  else
  some (.r0 (false) : ZM)
 else
 some (.r0 (true) : ZM)

inductive Zb8 where
 | r0 (w0 : Int) (w1 : Bool)

def Zcg (a0 : Int) (a1 : Int) (a2 : Int) (a3 : Int) (N : Nat) : Option Zb8 :=
 if a0 = 8 then
  some (.r0 (a1) (true) : Zb8)
 else
 if a0 = 9 then
  some (.r0 (a2) (true) : Zb8)
 else
 some (.r0 (0) (false) : Zb8)

inductive Zah where
 | r0
 | r1 (w0 : List R_ii)

inductive ZK where
 | h1m0 (v2 : Nat)
 | h1m1 (v2 : List R_ii) (v3 : Nat)

def ref12_opens_h1m0 (L0 : List RA) (a1 : Int) (N : Nat) (v2 : Nat) : Option (ZK ⊕ Zah) :=
 if (v2 : Int) < a1 then
  if (v2 : Int) < (L0.length : Int) then
   ((Zcf ((L0.getD v2 RA.z).a0) ((L0.getD v2 RA.z).a1) ((L0.getD v2 RA.z).a2) ((L0.getD v2 RA.z).a3) ((v2 : Int)) N).bind fun r => match r with
   | .r0 =>
    if (((v2 + 1) : Nat) : Int) ≤ 9223372036854775807 then
     some (.inl (.h1m1 (([(⟨(v2 : Int), (0 : Int)⟩ : R_ii)] : List R_ii)) ((v2 + 1)) : ZK))
    else
    none
   | .r1 y2_0 =>
    if (((v2 + 1) : Nat) : Int) ≤ 9223372036854775807 then
     some (.inl (.h1m0 ((v2 + 1)) : ZK))
    else
    none
   )
  else
  some (.inr (.r0 : Zah))
 else
 some (.inr (.r0 : Zah))

def ref12_opens_h1m1 (L0 : List RA) (a1 : Int) (N : Nat) (v2 : List R_ii) (v3 : Nat) : Option (ZK ⊕ Zah) :=
 if (v3 : Int) < a1 then
  if (v3 : Int) < (L0.length : Int) then
   ((Zbo (v2) ((L0.getD v3 RA.z).a0) ((L0.getD v3 RA.z).a1) ((L0.getD v3 RA.z).a2) ((L0.getD v3 RA.z).a3) ((v3 : Int)) N).bind fun r => match r with
   | .r0 y2_0 =>
    if (((v3 + 1) : Nat) : Int) ≤ 9223372036854775807 then
     some (.inl (.h1m1 (v2) ((v3 + 1)) : ZK))
    else
    none
   | .r1 y2_0 =>
    if (((v3 + 1) : Nat) : Int) ≤ 9223372036854775807 then
     some (.inl (.h1m1 (y2_0) ((v3 + 1)) : ZK))
    else
    none
   | .r2 =>
    if (((v3 + 1) : Nat) : Int) ≤ 9223372036854775807 then
     some (.inl (.h1m1 ((v2.take (v2.length - 1))) ((v3 + 1)) : ZK))
    else
    none
   )
  else
  some (.inr (.r1 (v2) : Zah))
 else
 some (.inr (.r1 (v2) : Zah))

def ref12_opensStep (L0 : List RA) (a1 : Int) (N : Nat) : ZK → Option (ZK ⊕ Zah)
 | .h1m0 v2 => ref12_opens_h1m0 L0 a1 N v2
 | .h1m1 v2 v3 => ref12_opens_h1m1 L0 a1 N v2 v3

def ZdO (L0 : List RA) (a1 : Int) (N : Nat) : Option (ZK ⊕ Zah) :=
 some (.inl (.h1m0 (0) : ZK))

def ref12_opens (L0 : List RA) (a1 : Int) (N : Nat) : Option Zah := goM (ref12_opensStep L0 a1 N) N (ZdO L0 a1 N)

inductive ZaP where
 | r0 (w0 : Int) (w1 : Int)

def ref12_branch (L0 : List RA) (a1 : Int) (N : Nat) : Option ZaP :=
 ((ref12_opens (L0) (a1) N).bind fun r => match r with
 | .r0 =>
  some (.r0 ((-1 : Int)) (0) : ZaP)
 | .r1 y0_0 =>
  if (y0_0.length : Int) = 0 then
   some (.r0 ((-1 : Int)) (0) : ZaP)
  else
  if ((y0_0.length : Int) - (1 : Int)) ≤ 9223372036854775807 then
   some (.r0 ((y0_0.getD (y0_0.length - 1) R_ii.z).a0) ((y0_0.getD (y0_0.length - 1) R_ii.z).a1) : ZaP)
  else
  none
 )

inductive Zw where
 | r0 (w0 : Int)

inductive Zx where
 | h1m0 (v1 : Nat)
 | h1m1 (v1 : List R_ii) (v2 : Nat)
 | h2m0 (v1 : Nat)

def ref12_Wrong_h1m0 (L0 : List RA) (N : Nat) (v1 : Nat) : Option (Zx ⊕ Zw) :=
 if (v1 : Int) < (L0.length : Int) then
  ((Zcf ((L0.getD v1 RA.z).a0) ((L0.getD v1 RA.z).a1) ((L0.getD v1 RA.z).a2) ((L0.getD v1 RA.z).a3) ((v1 : Int)) N).bind fun r => match r with
  | .r0 =>
   ((Zag ((L0.getD v1 RA.z).a0) ((L0.getD v1 RA.z).a1) ((L0.getD v1 RA.z).a2) ((L0.getD v1 RA.z).a3) N).bind fun r => match r with
   | .r0 y2_0 =>
    if ¬ (y2_0 = true) then
     some (.inr (.r0 ((v1 : Int)) : Zw))
    else
    if (((v1 + 1) : Nat) : Int) ≤ 9223372036854775807 then
     some (.inl (.h1m1 (([(⟨(v1 : Int), (0 : Int)⟩ : R_ii)] : List R_ii)) ((v1 + 1)) : Zx))
    else
    none
   )
  | .r1 y1_0 =>
   ((Zag ((L0.getD v1 RA.z).a0) ((L0.getD v1 RA.z).a1) ((L0.getD v1 RA.z).a2) ((L0.getD v1 RA.z).a3) N).bind fun r => match r with
   | .r0 y2_0 =>
    if ¬ (y2_0 = true) then
     some (.inr (.r0 ((v1 : Int)) : Zw))
    else
    if ¬ (y1_0 = true) then
     some (.inr (.r0 ((v1 : Int)) : Zw))
    else
    if (((v1 + 1) : Nat) : Int) ≤ 9223372036854775807 then
     some (.inl (.h1m0 ((v1 + 1)) : Zx))
    else
    none
   )
  )
 else
 some (.inl (.h2m0 (0) : Zx))

def ref12_Wrong_h1m1 (L0 : List RA) (N : Nat) (v1 : List R_ii) (v2 : Nat) : Option (Zx ⊕ Zw) :=
 if (v2 : Int) < (L0.length : Int) then
  ((Zbo (v1) ((L0.getD v2 RA.z).a0) ((L0.getD v2 RA.z).a1) ((L0.getD v2 RA.z).a2) ((L0.getD v2 RA.z).a3) ((v2 : Int)) N).bind fun r => match r with
  | .r0 y1_0 =>
   ((Zag ((L0.getD v2 RA.z).a0) ((L0.getD v2 RA.z).a1) ((L0.getD v2 RA.z).a2) ((L0.getD v2 RA.z).a3) N).bind fun r => match r with
   | .r0 y2_0 =>
    if ¬ (y2_0 = true) then
     some (.inr (.r0 ((v2 : Int)) : Zw))
    else
    if ¬ (y1_0 = true) then
     some (.inr (.r0 ((v2 : Int)) : Zw))
    else
    if (((v2 + 1) : Nat) : Int) ≤ 9223372036854775807 then
     some (.inl (.h1m1 (v1) ((v2 + 1)) : Zx))
    else
    none
   )
  | .r1 y1_0 =>
   ((Zag ((L0.getD v2 RA.z).a0) ((L0.getD v2 RA.z).a1) ((L0.getD v2 RA.z).a2) ((L0.getD v2 RA.z).a3) N).bind fun r => match r with
   | .r0 y2_0 =>
    if ¬ (y2_0 = true) then
     some (.inr (.r0 ((v2 : Int)) : Zw))
    else
    if (((v2 + 1) : Nat) : Int) ≤ 9223372036854775807 then
     some (.inl (.h1m1 (y1_0) ((v2 + 1)) : Zx))
    else
    none
   )
  | .r2 =>
   ((Zag ((L0.getD v2 RA.z).a0) ((L0.getD v2 RA.z).a1) ((L0.getD v2 RA.z).a2) ((L0.getD v2 RA.z).a3) N).bind fun r => match r with
   | .r0 y2_0 =>
    if ¬ (y2_0 = true) then
     some (.inr (.r0 ((v2 : Int)) : Zw))
    else
    if (((v2 + 1) : Nat) : Int) ≤ 9223372036854775807 then
     some (.inl (.h1m1 ((v1.take (v1.length - 1))) ((v2 + 1)) : Zx))
    else
    none
   )
  )
 else
 if 0 < (v1.length : Int) then
  some (.inr (.r0 ((L0.length : Int)) : Zw))
 else
 some (.inl (.h2m0 (0) : Zx))

def ref12_Wrong_h2m0 (L0 : List RA) (N : Nat) (v1 : Nat) : Option (Zx ⊕ Zw) :=
 if (v1 : Int) < (L0.length : Int) then
  ((Zcg ((L0.getD v1 RA.z).a0) ((L0.getD v1 RA.z).a1) ((L0.getD v1 RA.z).a2) ((L0.getD v1 RA.z).a3) N).bind fun r => match r with
  | .r0 y1_0 y1_1 =>
   if y1_1 = true then
    if (L0.length : Int) < y1_0 then
     some (.inr (.r0 ((v1 : Int)) : Zw))
    else
    ((ref12_branch (L0) (y1_0) N).bind fun r => match r with
    | .r0 y4_0 y4_1 =>
     ((ref12_branch (L0) ((v1 : Int)) N).bind fun r => match r with
     | .r0 y5_0 y5_1 =>
      if ¬ ((y4_0 = y5_0 ∧ y4_1 = y5_1)) then
       some (.inr (.r0 ((v1 : Int)) : Zw))
      else
      if (((v1 + 1) : Nat) : Int) ≤ 9223372036854775807 then
       some (.inl (.h2m0 ((v1 + 1)) : Zx))
      else
      none
     )
    )
   else
   if (((v1 + 1) : Nat) : Int) ≤ 9223372036854775807 then
    some (.inl (.h2m0 ((v1 + 1)) : Zx))
   else
   none
  )
 else
 some (.inr (.r0 ((-1 : Int)) : Zw))

def ref12_WrongStep (L0 : List RA) (N : Nat) : Zx → Option (Zx ⊕ Zw)
 | .h1m0 v1 => ref12_Wrong_h1m0 L0 N v1
 | .h1m1 v1 v2 => ref12_Wrong_h1m1 L0 N v1 v2
 | .h2m0 v1 => ref12_Wrong_h2m0 L0 N v1

def Zcq (L0 : List RA) (N : Nat) : Option (Zx ⊕ Zw) :=
 if (L0.length : Int) < 1 then
  some (.inr (.r0 (0) : Zw))
 else
 if 512 < (L0.length : Int) then
  some (.inr (.r0 (0) : Zw))
 else
 some (.inl (.h1m0 (0) : Zx))

def ref12_Wrong (L0 : List RA) (N : Nat) : Option Zw := goM (ref12_WrongStep L0 N) N (Zcq L0 N)

inductive ref12_CheckR where
 | r0 (w0 : Int)

def ref12_Check (L0 : List RA) (N : Nat) : Option ref12_CheckR :=
 ((ref12_Wrong (L0) N).bind fun r => match r with
 | .r0 y0_0 =>
  if y0_0 < 0 then
   some (.r0 (0) : ref12_CheckR)
  else
  if y0_0 < (L0.length : Int) then
   if (L0.length : Int) ≤ 512 then
    if ((L0.getD (y0_0).toNat RA.z).a0 = 15 ∧ (L0.getD (y0_0).toNat RA.z).a1 = 0 ∧ (L0.getD (y0_0).toNat RA.z).a2 = 0 ∧ (L0.getD (y0_0).toNat RA.z).a3 = 0) then
     some (.r0 (140) : ref12_CheckR)
    else
    some (.r0 (120) : ref12_CheckR)
   else
   some (.r0 (120) : ref12_CheckR)
  else
  some (.r0 (120) : ref12_CheckR)
 )

inductive ZaJ where
 | r0 (w0 : Bool)

inductive ZaN where
 | h1m0 (v1 : Nat)

def Zf6 (L0 : List RA) (N : Nat) (v1 : Nat) : Option (ZaN ⊕ ZaJ) :=
 if (v1 : Int) < (L0.length : Int) then
  ((Zcg ((L0.getD v1 RA.z).a0) ((L0.getD v1 RA.z).a1) ((L0.getD v1 RA.z).a2) ((L0.getD v1 RA.z).a3) N).bind fun r => match r with
  | .r0 y1_0 y1_1 =>
   if y1_1 = true then
    if y1_0 ≤ (v1 : Int) then
     some (.inr (.r0 (false) : ZaJ))
    else
    if (L0.getD v1 RA.z).a0 = 18 then
     some (.inr (.r0 (false) : ZaJ))
    else
    if (((v1 + 1) : Nat) : Int) ≤ 9223372036854775807 then
     some (.inl (.h1m0 ((v1 + 1)) : ZaN))
    else
    none
   else
   if (L0.getD v1 RA.z).a0 = 18 then
    some (.inr (.r0 (false) : ZaJ))
   else
   if (((v1 + 1) : Nat) : Int) ≤ 9223372036854775807 then
    some (.inl (.h1m0 ((v1 + 1)) : ZaN))
   else
   none
  )
 else
 some (.inr (.r0 (true) : ZaJ))

def Zdw (L0 : List RA) (N : Nat) : ZaN → Option (ZaN ⊕ ZaJ)
 | .h1m0 v1 => Zf6 L0 N v1

def ZhR (L0 : List RA) (N : Nat) : Option (ZaN ⊕ ZaJ) :=
 ((ref12_Check (L0) N).bind fun r => match r with
 | .r0 y0_0 =>
  if ¬ (y0_0 = 0) then
   some (.inr (.r0 (false) : ZaJ))
  else
  some (.inl (.h1m0 (0) : ZaN))
 )

def Zf7 (L0 : List RA) (N : Nat) : Option ZaJ := goM (Zdw L0 N) N (ZhR L0 N)

inductive Zax where
 | r0
 | r1 (w0 : List Int)

def ZcK (L0 : List RA) (N : Nat) : Option Zax :=
 ((check_look (L0) N).bind fun r => match r with
 | .r0 y0_0 =>
  some (.r0 : Zax)
 | .r1 y0_0 y0_1 =>
  some (.r0 : Zax)
 | .r2 y0_0 y0_1 y0_2 y0_3 y0_4 y0_5 y0_6 =>
  if ¬ (y0_6 = 0) then
   some (.r0 : Zax)
  else
  some (.r1 (y0_3) : Zax)
 | .r3 y0_0 y0_1 y0_2 y0_3 =>
  some (.r0 : Zax)
 )

inductive Zb9 where
 | r0 (w0 : Int)

inductive ZR where
 | h1m0 (v0 : Nat) (v1 : Int) (v4 : Nat)

def Zf8 (L0 : List RA) (N : Nat) (v0 : Nat) (v1 : Int) (v4 : Nat) : Option (ZR ⊕ Zb9) :=
 if (v4 : Int) < (L0.length : Int) then
  if (L0.getD v4 RA.z).a0 = 15 then
   if (((v4 + 1) : Nat) : Int) ≤ 9223372036854775807 then
    some (.inl (.h1m0 (v0) ((IntKind.i64.wrap (v1 + (1 : Int)))) ((v4 + 1)) : ZR))
   else
   none
  else
  if (L0.getD v4 RA.z).a0 = 17 then
   if (((v4 + 1) : Nat) : Int) ≤ 9223372036854775807 then
    some (.inl (.h1m0 (v0) ((IntKind.i64.wrap (v1 - (1 : Int)))) ((v4 + 1)) : ZR))
   else
   none
  else
  if (L0.getD v4 RA.z).a0 = 11 then
   if v1 = 0 then
    if (((v0 + 1) : Nat) : Int) ≤ 9223372036854775807 then
     if (((v4 + 1) : Nat) : Int) ≤ 9223372036854775807 then
      some (.inl (.h1m0 ((v0 + 1)) (v1) ((v4 + 1)) : ZR))
     else
     none
    else
    none
   else
   if (((v4 + 1) : Nat) : Int) ≤ 9223372036854775807 then
    some (.inl (.h1m0 (v0) (v1) ((v4 + 1)) : ZR))
   else
   none
  else
  if (L0.getD v4 RA.z).a0 = 12 then
   if v1 = 0 then
    if (((v0 + 1) : Nat) : Int) ≤ 9223372036854775807 then
     if (((v4 + 1) : Nat) : Int) ≤ 9223372036854775807 then
      some (.inl (.h1m0 ((v0 + 1)) (v1) ((v4 + 1)) : ZR))
     else
     none
    else
    none
   else
   if (((v4 + 1) : Nat) : Int) ≤ 9223372036854775807 then
    some (.inl (.h1m0 (v0) (v1) ((v4 + 1)) : ZR))
   else
   none
  else
  if (L0.getD v4 RA.z).a0 = 13 then
   if v1 = 0 then
    if (((v0 + 1) : Nat) : Int) ≤ 9223372036854775807 then
     if (((v4 + 1) : Nat) : Int) ≤ 9223372036854775807 then
      some (.inl (.h1m0 ((v0 + 1)) (v1) ((v4 + 1)) : ZR))
     else
     none
    else
    none
   else
   if (((v4 + 1) : Nat) : Int) ≤ 9223372036854775807 then
    some (.inl (.h1m0 (v0) (v1) ((v4 + 1)) : ZR))
   else
   none
  else
  if (L0.getD v4 RA.z).a0 = 14 then
   if v1 = 0 then
    if (((v0 + 1) : Nat) : Int) ≤ 9223372036854775807 then
     if (((v4 + 1) : Nat) : Int) ≤ 9223372036854775807 then
      some (.inl (.h1m0 ((v0 + 1)) (v1) ((v4 + 1)) : ZR))
     else
     none
    else
    none
   else
   if (((v4 + 1) : Nat) : Int) ≤ 9223372036854775807 then
    some (.inl (.h1m0 (v0) (v1) ((v4 + 1)) : ZR))
   else
   none
  else
  if (((v4 + 1) : Nat) : Int) ≤ 9223372036854775807 then
   some (.inl (.h1m0 (v0) (v1) ((v4 + 1)) : ZR))
  else
  none
 else
 some (.inr (.r0 ((v0 : Int)) : Zb9))

def Zdx (L0 : List RA) (N : Nat) : ZR → Option (ZR ⊕ Zb9)
 | .h1m0 v0 v1 v4 => Zf8 L0 N v0 v1 v4

def ZhS (L0 : List RA) (N : Nat) : Option (ZR ⊕ Zb9) :=
 ((check_Check (L0) N).bind fun r => match r with
 | .r0 y0_0 =>
  if ¬ (y0_0 = 0) then
   some (.inr (.r0 (0) : Zb9))
  else
  ((ZcK (L0) N).bind fun r => match r with
  | .r0 =>
   some (.inl (.h1m0 (0) (0) (0) : ZR))
  | .r1 y2_0 =>
   some (.inl (.h1m0 (y2_0.length) (0) (0) : ZR))
  )
 )

def Zf9 (L0 : List RA) (N : Nat) : Option Zb9 := goM (Zdx L0 N) N (ZhS L0 N)

inductive Zbp where
 | r0 (w0 : Int)

inductive ZL where
 | h1m0 (v1 : Nat) (v2 : Int) (v3 : Nat)

def Zfh (L0 : List RA) (N : Nat) (v1 : Nat) (v2 : Int) (v3 : Nat) : Option (ZL ⊕ Zbp) :=
 if (v3 : Int) < (L0.length : Int) then
  if (L0.getD v3 RA.z).a0 = 15 then
   if v2 = 0 then
    if (((v1 + 1) : Nat) : Int) ≤ 9223372036854775807 then
     if (((v3 + 1) : Nat) : Int) ≤ 9223372036854775807 then
      some (.inl (.h1m0 ((v1 + 1)) ((v2 + (1 : Int))) ((v3 + 1)) : ZL))
     else
     none
    else
    none
   else
   if (((v3 + 1) : Nat) : Int) ≤ 9223372036854775807 then
    some (.inl (.h1m0 (v1) ((IntKind.i64.wrap (v2 + (1 : Int)))) ((v3 + 1)) : ZL))
   else
   none
  else
  if (L0.getD v3 RA.z).a0 = 17 then
   if (((v3 + 1) : Nat) : Int) ≤ 9223372036854775807 then
    some (.inl (.h1m0 (v1) ((IntKind.i64.wrap (v2 - (1 : Int)))) ((v3 + 1)) : ZL))
   else
   none
  else
  if (L0.getD v3 RA.z).a0 = 11 then
   if v2 = 0 then
    if (((v1 + 1) : Nat) : Int) ≤ 9223372036854775807 then
     if (((v3 + 1) : Nat) : Int) ≤ 9223372036854775807 then
      some (.inl (.h1m0 ((v1 + 1)) (v2) ((v3 + 1)) : ZL))
     else
     none
    else
    none
   else
   if (((v3 + 1) : Nat) : Int) ≤ 9223372036854775807 then
    some (.inl (.h1m0 (v1) (v2) ((v3 + 1)) : ZL))
   else
   none
  else
  if (L0.getD v3 RA.z).a0 = 12 then
   if v2 = 0 then
    if (((v1 + 1) : Nat) : Int) ≤ 9223372036854775807 then
     if (((v3 + 1) : Nat) : Int) ≤ 9223372036854775807 then
      some (.inl (.h1m0 ((v1 + 1)) (v2) ((v3 + 1)) : ZL))
     else
     none
    else
    none
   else
   if (((v3 + 1) : Nat) : Int) ≤ 9223372036854775807 then
    some (.inl (.h1m0 (v1) (v2) ((v3 + 1)) : ZL))
   else
   none
  else
  if (L0.getD v3 RA.z).a0 = 13 then
   if v2 = 0 then
    if (((v1 + 1) : Nat) : Int) ≤ 9223372036854775807 then
     if (((v3 + 1) : Nat) : Int) ≤ 9223372036854775807 then
      some (.inl (.h1m0 ((v1 + 1)) (v2) ((v3 + 1)) : ZL))
     else
     none
    else
    none
   else
   if (((v3 + 1) : Nat) : Int) ≤ 9223372036854775807 then
    some (.inl (.h1m0 (v1) (v2) ((v3 + 1)) : ZL))
   else
   none
  else
  if (L0.getD v3 RA.z).a0 = 14 then
   if v2 = 0 then
    if (((v1 + 1) : Nat) : Int) ≤ 9223372036854775807 then
     if (((v3 + 1) : Nat) : Int) ≤ 9223372036854775807 then
      some (.inl (.h1m0 ((v1 + 1)) (v2) ((v3 + 1)) : ZL))
     else
     none
    else
    none
   else
   if (((v3 + 1) : Nat) : Int) ≤ 9223372036854775807 then
    some (.inl (.h1m0 (v1) (v2) ((v3 + 1)) : ZL))
   else
   none
  else
  if (((v3 + 1) : Nat) : Int) ≤ 9223372036854775807 then
   some (.inl (.h1m0 (v1) (v2) ((v3 + 1)) : ZL))
  else
  none
 else
 some (.inr (.r0 ((v1 : Int)) : Zbp))

def Zde (L0 : List RA) (N : Nat) : ZL → Option (ZL ⊕ Zbp)
 | .h1m0 v1 v2 v3 => Zfh L0 N v1 v2 v3

def Zhe (L0 : List RA) (N : Nat) : Option (ZL ⊕ Zbp) :=
 ((ref12_Check (L0) N).bind fun r => match r with
 | .r0 y0_0 =>
  if ¬ (y0_0 = 0) then
   some (.inr (.r0 (0) : Zbp))
  else
  some (.inl (.h1m0 (0) (0) (0) : ZL))
 )

def ZeO (L0 : List RA) (N : Nat) : Option Zbp := goM (Zde L0 N) N (Zhe L0 N)

inductive Za8 where
 | r0 (w1 : Int) (w2 : Int)

inductive ZaK where
 | h1m0 (v2 : Int) (v3 : Int) (v5 : Nat)

def ZeF (L0 : List (List RA)) (N : Nat) (v2 : Int) (v3 : Int) (v5 : Nat) : Option (ZaK ⊕ Za8) :=
 if (v5 : Int) < (L0.length : Int) then
  ((ZgM ((L0.getD v5 [])) N).bind fun r => match r with
  | .r0 y1_0 =>
   if ¬ (y1_0 = true) then
    some (.inr (.r0 (0) (270) : Za8))
   else
   ((Zf9 ((L0.getD v5 [])) N).bind fun r => match r with
   | .r0 y3_0 =>
    if (((v5 + 1) : Nat) : Int) ≤ 9223372036854775807 then
     some (.inl (.h1m0 ((IntKind.i64.wrap (v2 + y3_0))) ((if (((L0.getD v5 []).length : Nat) : Int) > v3 then (((L0.getD v5 []).length : Nat) : Int) else v3)) ((v5 + 1)) : ZaK))
    else
    none
   )
  )
 else
 some (.inr (.r0 ((IntKind.i64.wrap ((IntKind.i64.wrap ((L0.length : Int) * (IntKind.i64.wrap (v2 + (L0.length : Int))))) * (IntKind.i64.wrap ((IntKind.i64.wrap ((IntKind.i64.wrap ((4 : Int) * v3)) * v3)) + (400 : Int)))))) (0) : Za8))

def ZcL (L0 : List (List RA)) (N : Nat) : ZaK → Option (ZaK ⊕ Za8)
 | .h1m0 v2 v3 v5 => ZeF L0 N v2 v3 v5

def Zgu (L0 : List (List RA)) (N : Nat) : Option (ZaK ⊕ Za8) :=
 if 1 ≤ (L0.length : Int) then
  if (L0.length : Int) ≤ 64 then
   some (.inl (.h1m0 (0) (0) (0) : ZaK))
  else
  some (.inr (.r0 (0) (270) : Za8))
 else
 some (.inr (.r0 (0) (270) : Za8))

def ZfA (L0 : List (List RA)) (N : Nat) : Option Za8 := goM (ZcL L0 N) N (Zgu L0 N)

inductive Za2 where
 | r0 (w1 : Int) (w2 : Int)

inductive Za6 where
 | h1m0 (v2 : Int) (v3 : Int) (v4 : Nat)

def Zep (L0 : List (List RA)) (N : Nat) (v2 : Int) (v3 : Int) (v4 : Nat) : Option (Za6 ⊕ Za2) :=
 if (v4 : Int) < (L0.length : Int) then
  ((Zf7 ((L0.getD v4 [])) N).bind fun r => match r with
  | .r0 y1_0 =>
   if ¬ (y1_0 = true) then
    some (.inr (.r0 (0) (270) : Za2))
   else
   ((ZeO ((L0.getD v4 [])) N).bind fun r => match r with
   | .r0 y3_0 =>
    if (((v4 + 1) : Nat) : Int) ≤ 9223372036854775807 then
     some (.inl (.h1m0 ((IntKind.i64.wrap (v2 + y3_0))) ((if (((L0.getD v4 []).length : Nat) : Int) > v3 then (((L0.getD v4 []).length : Nat) : Int) else v3)) ((v4 + 1)) : Za6))
    else
    none
   )
  )
 else
 some (.inr (.r0 ((IntKind.i64.wrap ((IntKind.i64.wrap ((L0.length : Int) * (IntKind.i64.wrap (v2 + (L0.length : Int))))) * (IntKind.i64.wrap ((IntKind.i64.wrap ((IntKind.i64.wrap ((4 : Int) * v3)) * v3)) + (400 : Int)))))) (0) : Za2))

def Zc6 (L0 : List (List RA)) (N : Nat) : Za6 → Option (Za6 ⊕ Za2)
 | .h1m0 v2 v3 v4 => Zep L0 N v2 v3 v4

def ZfB (L0 : List (List RA)) (N : Nat) : Option (Za6 ⊕ Za2) :=
 if (L0.length : Int) < 1 then
  some (.inr (.r0 (0) (270) : Za2))
 else
 if 64 < (L0.length : Int) then
  some (.inr (.r0 (0) (270) : Za2))
 else
 some (.inl (.h1m0 (0) (0) (0) : Za6))

def ZeZ (L0 : List (List RA)) (N : Nat) : Option Za2 := goM (Zc6 L0 N) N (ZfB L0 N)

inductive Zab where
 | r0 (w0 : Bool)

inductive Zac where
 | h1m0
 | h1m1 (v0 : List (List RA)) (v1 : Nat)

def Zdy (L0 : List (List RA)) (N : Nat) : Option (Zac ⊕ Zab) :=
 ((Zf5 N).bind fun r => match r with
 | .r0 =>
  ((ZeN N).bind fun r => match r with
  | .r0 =>
   some (.inr (.r0 (true) : Zab))
  )
 )

def Zdz (L0 : List (List RA)) (N : Nat) (v0 : List (List RA)) (v1 : Nat) : Option (Zac ⊕ Zab) :=
 if (v1 : Int) < (v0.length : Int) then
  ((ZgM ((v0.getD v1 [])) N).bind fun r => match r with
  | .r0 y1_0 =>
   ((Zf7 ((v0.getD v1 [])) N).bind fun r => match r with
   | .r0 y2_0 =>
    if ¬ (y1_0 = y2_0) then
     some (.inr (.r0 (false) : Zab))
    else
    ((Zf9 ((v0.getD v1 [])) N).bind fun r => match r with
    | .r0 y4_0 =>
     ((ZeO ((v0.getD v1 [])) N).bind fun r => match r with
     | .r0 y5_0 =>
      if ¬ (y4_0 = y5_0) then
       some (.inr (.r0 (false) : Zab))
      else
      if (((v1 + 1) : Nat) : Int) ≤ 9223372036854775807 then
       some (.inl (.h1m1 (v0) ((v1 + 1)) : Zac))
      else
      none
     )
    )
   )
  )
 else
 ((ZfA (v0) N).bind fun r => match r with
 | .r0 y1_0 y1_1 =>
  ((ZeZ (v0) N).bind fun r => match r with
  | .r0 y2_0 y2_1 =>
   if y1_0 = y2_0 then
    if y1_1 = y2_1 then
     some (.inr (.r0 (true) : Zab))
    else
    some (.inr (.r0 (false) : Zab))
   else
   some (.inr (.r0 (false) : Zab))
  )
 )

def ZbB (L0 : List (List RA)) (N : Nat) : Zac → Option (Zac ⊕ Zab)
 | .h1m0 => Zdy L0 N
 | .h1m1 v0 v1 => Zdz L0 N v0 v1

def Zeq (L0 : List (List RA)) (N : Nat) : Option (Zac ⊕ Zab) :=
 ((Zfo (L0) N).bind fun r => match r with
 | .r0 =>
  some (.inl (.h1m0 : Zac))
 | .r1 y0_0 =>
  some (.inl (.h1m1 (y0_0) (0) : Zac))
 )

def ZhT (L0 : List (List RA)) (N : Nat) : Option Zab := goM (ZbB L0 N) N (Zeq L0 N)
end Ev
end Go.Proofs.YtelfeeoobdpmkaaGreat
/- How records are written, and which functions are told. -/
namespace Go.Proofs.YtelfeeoobdpmkaaGreat
open Go.RowKit
namespace Ev
set_option linter.unusedVariables false
abbrev nF (a b : Int) : Bool × Bool := (a == b, false)
abbrev nT (a b : Int) : Bool × Bool := (a == b, true)
section
variable {l : List (Bool × Bool)}
end
def Zd : Enc R_ii := ⟨fun x => [.i x.a0, .i x.a1], 2, R_ii.z, fun _ => rfl, fun _ => rfl⟩
def E_iiii : Enc RA := ⟨fun x => [.i x.a0, .i x.a1, .i x.a2, .i x.a3], 4, RA.z, fun _ => rfl, fun _ => rfl⟩
instance : Inhabited R_ii := ⟨R_ii.z⟩
instance : Inhabited RA := ⟨RA.z⟩
def Ztu : FuncId → Option (List Value → Option Value) := fun f =>
 bif Nat.beq f 12 then some (fun l => match l with | [] => some (.bool true) | _ => none) else
 none
theorem Zud (w : World) : Calls Tryz.prog 12 #[] w (Ret (.bool true) w) := ZtT (Znh 1000 .r0 (by rfl)) Zs0 rfl
theorem ZvD : ZnI Ztu := fun f g h => by
 unfold Ztu at h
 cases hb : Nat.beq f 12 with
 | true =>
  rw [hb] at h
  obtain rfl := Nat.eq_of_beq_eq_true hb
  simp only [cond_true, Option.some.injEq] at h
  subst h
  refine ⟨⟨_, _, Tryz.func12, rfl⟩, fun args v ha hv w => ?_⟩
  obtain ⟨l⟩ := args
  cases l with
  | nil =>
   change some (Value.bool true) = some v at hv
   injection hv with hv
   subst hv
   exact Zud w
  | cons x l => change (none : Option Value) = some v at hv; cases hv
 | false =>
  rw [hb] at h
  simp only [cond_false] at h
  cases h
def ZuT : FuncId → Bool := fun f => Nat.beq f 38 || Nat.beq f 34 || Nat.beq f 35 || Nat.beq f 51 || Nat.beq f 53 || Nat.beq f 60 || Nat.beq f 23 || Nat.beq f 19 || Nat.beq f 28 || Nat.beq f 10 || Nat.beq f 6 || Nat.beq f 8 || Nat.beq f 5 || Nat.beq f 3 || Nat.beq f 54 || Nat.beq f 40 || Nat.beq f 22 || Nat.beq f 55 || Nat.beq f 21 || Nat.beq f 29 || Nat.beq f 41 || Nat.beq f 56 || Nat.beq f 39 || Nat.beq f 11 || Nat.beq f 7 || Nat.beq f 9 || Nat.beq f 49 || Nat.beq f 20 || Nat.beq f 59
noncomputable def ZG : FuncId → Option Ext := ZqJ (Ztp Ztu) ZuT
theorem Zl : Fit Tryz.prog ZG := fitT (fitS ZvD) (fun f h => by
 simp only [ZuT, Bool.or_eq_true] at h
 simp only [Nat.beq_eq] at h
 rcases h with (((((((((((((((((((((((((((rfl | rfl) | rfl) | rfl) | rfl) | rfl) | rfl) | rfl) | rfl) | rfl) | rfl) | rfl) | rfl) | rfl) | rfl) | rfl) | rfl) | rfl) | rfl) | rfl) | rfl) | rfl) | rfl) | rfl) | rfl) | rfl) | rfl) | rfl) | rfl
 ·exact ⟨_, _, Tryz.func38, rfl⟩
 ·exact ⟨_, _, Tryz.func34, rfl⟩
 ·exact ⟨_, _, Tryz.func35, rfl⟩
 ·exact ⟨_, _, Tryz.func51, rfl⟩
 ·exact ⟨_, _, Tryz.func53, rfl⟩
 ·exact ⟨_, _, Tryz.func60, rfl⟩
 ·exact ⟨_, _, Tryz.func23, rfl⟩
 ·exact ⟨_, _, Tryz.func19, rfl⟩
 ·exact ⟨_, _, Tryz.func28, rfl⟩
 ·exact ⟨_, _, Tryz.func10, rfl⟩
 ·exact ⟨_, _, Tryz.func6, rfl⟩
 ·exact ⟨_, _, Tryz.func8, rfl⟩
 ·exact ⟨_, _, Tryz.func5, rfl⟩
 ·exact ⟨_, _, Tryz.func3, rfl⟩
 ·exact ⟨_, _, Tryz.func54, rfl⟩
 ·exact ⟨_, _, Tryz.func40, rfl⟩
 ·exact ⟨_, _, Tryz.func22, rfl⟩
 ·exact ⟨_, _, Tryz.func55, rfl⟩
 ·exact ⟨_, _, Tryz.func21, rfl⟩
 ·exact ⟨_, _, Tryz.func29, rfl⟩
 ·exact ⟨_, _, Tryz.func41, rfl⟩
 ·exact ⟨_, _, Tryz.func56, rfl⟩
 ·exact ⟨_, _, Tryz.func39, rfl⟩
 ·exact ⟨_, _, Tryz.func11, rfl⟩
 ·exact ⟨_, _, Tryz.func7, rfl⟩
 ·exact ⟨_, _, Tryz.func9, rfl⟩
 ·exact ⟨_, _, Tryz.func49, rfl⟩
 ·exact ⟨_, _, Tryz.func20, rfl⟩
 ·exact ⟨_, _, Tryz.func59, rfl⟩
 )
end Ev
end Go.Proofs.YtelfeeoobdpmkaaGreat
