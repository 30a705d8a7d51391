/- Part 3. -/
import Derived.Test.YtifdgbbbojccdaaGreatZab
import Derived.SizedLaws
import Derived.Deep.Slices
import Derived.Deep.Fields
import Derived.Carry
import Derived.RangeFuncLeaves
import Derived.OrdersIn
import Derived.LoopNIn
import Derived.TacticsIn
import Derived.RangeFuncRecord
import Derived.Shelf.SlicesE.Clone
import Derived.Shelf.SlSortCmp.WholeK
import Derived.Shelf.SlSortCmp.NoneTotal
import Derived.Ground.SlgnProg
import Derived.Ground.SlsfProg
import Derived.Ground.SlgcProg
import Derived.Shelf.SlicesG.Cmp
/- The frame of every law, over any program: from 'called with whatever can be read, it hands back true and leaves what was there alone' to the row's own step. And how arguments are opened. -/
namespace Go.Proofs.YtifdgbbbojccdaaGreat
open Go.ChangeShapes Go.WideShapes Go.ChangeAt Go.RowKit

section
variable {H : Type} {enc : TypeId × Value → H} {P : Program}

theorem Zgz (hl : laidOutB P = true) {W W' : World} (hb : Below W.heap.size W W') : ∀ {ts : List TypeId} {vs : List Value} {ds : List (DataW H)} {ps : List MemPlace},
  (ts.all fun t => P.readableRec t && decide (t < P.types.size)) = true → DataW.TrodAll enc P W 0 (fun _ => true) true ts vs ds ps → (∀ x ∈ ps, x.block < W.heap.size) →
  DataW.TrodAll enc P W' 0 (fun b => decide (b < W.heap.size)) true ts vs ds ps
 | [], vs, ds, ps, _, h, _ => by
  obtain ⟨rfl, rfl, rfl⟩ := trodAll_nil h
  exact trodAll_mk0
 | t :: ts, vs, ds, ps, ha, h, hlt => by
  obtain ⟨v, vs', d, ds', p, q, rfl, rfl, rfl, h0, r0⟩ := trodAll_cons h
  simp only [List.all_cons, Bool.and_eq_true, decide_eq_true_eq] at ha
  exact trodAll_cons_mk (Below.trod hl ha.1.1 ha.1.2 h0 hb fun x hx => hlt x (List.mem_append_left _ hx))
   (Zgz hl hb (by simpa using ha.2) r0 fun x hx => hlt x (List.mem_append_right _ hx))

theorem Zmq {C : Checked} {os : Os} {F : FuncId} {fn : Func} {s : ChangeSpec} {tb : TypeId}
  (own : ownKnob C.prog.godebug = none) (started : os.Started) (noInit : C.prog.inits.idxOf? F = none) (hfn : C.prog.funcs[F]? = some fn)
  (hv : s.vars = []) (hrt : fn.resultTypes = #[tb]) (hub : C.prog.underlying tb = some .bool)
  (hspec : ∀ ds : List (DataW H), ds.length = fn.params.size → s.fn H ds = { results := [.lit (.bool true)], args := ds })
  (hl : laidOutB C.prog = true) (hr : (fn.params.toList.all fun t => C.prog.readableRec t && decide (t < C.prog.types.size)) = true)
  (witness : ∃ (w : World) (tape : Tape) (i : Input), w.os = os ∧ (w.forCall tape i).Shaped C.prog ∧ i.vars = [] ∧ Input.okWide C.prog (w.forCall tape i) .any w.heap.size F i ∧
   s.pre6 enc C.prog fn [] false (w.forCall tape i).memory i.args ∧ ({} : Assume).holds C.prog (lone (Frame.enter C.prog F i.args .normal) [] (w.forCall tape i)))
  (walk : ∀ (W : World) (base : Nat) (args : Array Value) (ds : List (DataW H)) (p : List MemPlace),
   (∀ (j : Nat) t v, fn.params[j]? = some t → args[j]? = some v → Value.okWide C.prog W .any base t v) →
   DataW.TrodAll enc C.prog W 0 (fun _ => true) true fn.params.toList args.toList ds p → (∀ x ∈ p, x.block < W.heap.size) →
   (DataW.weightsEach C.prog fn.params.toList ds).all (· ≤ reachBytes) = true →
   Calls C.prog F args W (Ret (.bool true) W)) :
  ReturnsInHanded {} C os F .any (s.pre6 enc C.prog fn [] false) (s.post enc C.prog fn false true false false) := by
 refine returnsInHanded_of_change_sized own started noInit hfn witness ?_
 intro W base args ds gs before hval hW _ hsz _
 have hlt : ∀ x ∈ before, x.block < W.heap.size := fun x hx => hW.lt x hx
 obtain ⟨p, q, hA, hV, hps, hfz, hnd⟩ := id hW
 rw [hv] at hV
 obtain ⟨rfl, rfl⟩ := trodVars_none hV
 rw [List.append_nil] at hps
 subst hps
 have hvt : s.plain.varTypes C.prog = [] := by simp [ChangeSpec.plain, DataSpec.varTypes, hv]
 rw [hvt, List.append_nil, List.append_nil] at hsz
 refine (walk W base args ds before hval hA hlt hsz).mono fun e W' ⟨he, hb⟩ => ⟨_, he, ?_⟩
 have hlen : ds.length = fn.params.size := by
  have : ∀ {ts : List TypeId} {vs : List Value} {ds : List (DataW H)} {ps : List MemPlace}, DataW.TrodAll enc C.prog W 0 (fun _ => true) true ts vs ds ps → ds.length = ts.length := by
   intro ts
   induction ts with
   | nil => intro vs ds ps h; obtain ⟨_, rfl, _⟩ := trodAll_nil h; rfl
   | cons t ts ih => intro vs ds ps h; obtain ⟨_, _, _, _, _, _, _, rfl, _, _, r⟩ := trodAll_cons h; simp [ih r]
  simpa using this hA
 have hs := hspec (ds ++ []) (by simpa using hlen)
 refine ⟨ds, [], before, [], before, [], by simpa [hv] using hW, ?_, ?_, ?_, World.keptBut_mono (fun x hx => ⟨hx, .inr (.inl hx)⟩) (hb.frame (· ∈ before)), fun h => by cases h⟩
 ·rw [hs, hrt]
  exact trodAll_mk1 (shut_bool hub true)
 ·rw [hs]
  simpa using Zgz hl hb hr hA hlt
 ·rw [hs, hv]
  rfl
end
end Go.Proofs.YtifdgbbbojccdaaGreat
/- A round's frame: what the runner says of code holds there too. -/
namespace Go.Proofs.YtifdgbbbojccdaaGreat
open Go.RowKit
namespace Ev
def Zew (o : Oper) : Bool := match o.op with | .defer _ => false | _ => true
def Zbo : Code → Bool
 | .seq a b => Zbo a && Zbo b
 | .cond _ a b => Zbo a && Zbo b
 | .block _ a => Zbo a
 | .loop a => Zbo a
 | .region _ ops _ => Zj Zew ops.toList
 | .scope _ => false
 | _ => true
abbrev Fr (r : Option Nat) : Fence := { Fence.wide with round := r }
theorem ZeR {o : Oper} (h : Zew o = true) : ∀ c, o.op ≠ .defer c := fun c e => by unfold Zew at h; rw [e] at h; cases h
section
variable {P : Program} {ext : FuncId → Option Ext} {r : Option Nat}
theorem ZnC {n : Nat} {row : String} {args : Array Value} {w : World} {R : Value → World → Prop} (h : Rows P row args w R) : RowsIn (Fr r) n P row args w R := fun c cs _ => by
 obtain ⟨v, w', q, s⟩ := h c cs
 exact ⟨v, w', q, stepsIn_wide.2 s⟩
theorem ZmR {n f : Nat} {args : Array Value} {w : World} {R : Ending → World → Prop} (h : Calls P f args w R) : CallsIn (Fr r) n P f args w R := (callsIn_wide (n := n)).2 h
theorem Zis {o : Oper} {a : Act} {w : World} {K : Act → World → Prop} {Q0 Q : Exit → Act → World → Prop} (hq : ∀ e a w, e ≠ .normal → ¬ Q0 e a w) (hnd : ∀ c, o.op ≠ .defer c) (h : o.wp P a w K Q0) : o.wpIn (Fr r) 0 P a w K Q := by
 refine ⟨fun _ _ => trivial, ?_⟩
 rw [Oper.semAt_eq _ _ _ hnd]
 unfold Oper.wp at h
 generalize (execOp a.eval o).run P w = x at h ⊢
 have no : ∀ (e : Exit) (a : Act) (w : World), e ≠ .normal → Q0 e a w → False := fun e a w he hx => hq e a w he hx
 cases x with
 | ok nx w' =>
  cases nx with
  | value v => exact h
  | skip => exact h
  | defer d => exact h
  | enter f args =>
   refine ⟨fun e => (by cases e), ZmR (Calls.mono h ?_)⟩
   intro e w2 h2
   cases e with
   | returned v => exact h2
   | panicked chain => exact (no _ _ _ (by simp) h2).elim
   | outgrown => obtain ⟨a0, w0, h0⟩ := h2; exact (no _ _ _ (by simp) h0).elim
  | row row args => exact ⟨fun e => (by cases e), ZnC h⟩
  | _ => exact h.elim
 | halt x w' =>
  cases x with
  | panic v => exact (no _ _ _ (by simp) h).elim
  | _ => exact h.elim
def ZlF (Q : Exit → Act → World → Prop) : Exit → Act → World → Prop := fun e a w => e = .normal ∧ Q .normal a w
theorem ZjS {Q : Exit → Act → World → Prop} : ∀ e a w, e ≠ .normal → ¬ ZlF Q e a w := fun e a w he h => he h.1
theorem Zit {ops : Array Oper} {Q : Exit → Act → World → Prop} : ∀ (l : List Oper) (a : Act) (w : World), Zj Zew l = true → wpList P ops (ZlF Q) l a w → wpListIn (Fr r) 0 P ops Q l a w
 | [], a, w, _, h => h.2
 | o :: l, a, w, hn, h => by
  have ho := ZeR (ZB hn o (List.mem_cons_self ..))
  have hl : Zj Zew l = true := Zio fun x hx => ZB hn x (List.mem_cons_of_mem _ hx)
  unfold wpList at h
  unfold wpListIn
  split
  ·rename_i hw
   rw [if_pos hw] at h
   rcases h with h | ⟨_, a0, w0, h0⟩
   ·exact Zis ZjS ho (Oper.wp_mono (fun a w => Zit l a w hl) h)
   ·cases h0.1
  ·rename_i hw
   rw [if_neg hw] at h
   exact ⟨fun _ _ => trivial, Zit l _ w hl h⟩
theorem ZhN {ops : Array Oper} {Q : Exit → Act → World → Prop} {md : Region.Mode} (hn : Zj Zew ops.toList = true) : ∀ (fuel : Nat) (listed : Array Bool) (a : Act) (w : World), wpAny P md ops (ZlF Q) fuel listed a w → wpAnyIn (Fr r) 0 P md ops Q fuel listed a w
 | 0, listed, a, w, h => ⟨h.1, h.2.2⟩
 | fuel + 1, listed, a, w, h => by
  refine ⟨fun e => (h.1 e).2, fun i hi => ?_⟩
  have hi := h.2 i hi
  unfold wpOp at hi
  unfold wpOpIn
  split
  ·rename_i ho
   rw [ho] at hi
   exact ZhN hn fuel _ a w hi
  ·rename_i o ho
   rw [ho] at hi
   simp only at hi
   have hd := ZeR (ZB hn o (by simpa using Array.mem_of_getElem? ho))
   split
   ·rename_i hw
    rw [if_pos hw] at hi
    rcases hi with hi | ⟨_, a0, w0, h0⟩
    ·exact Zis ZjS hd (Oper.wp_mono (fun a w => ZhN hn fuel _ a w) hi)
    ·cases h0.1
   ·rename_i hw
    rw [if_neg hw] at hi
    exact ⟨fun _ _ => trivial, ZhN hn fuel _ _ w hi⟩
theorem ZdP {c : Code} {Q Q' : Exit → Act → World → Prop} (hq : ∀ e a w, Q e a w → Q' e a w) : ∀ (n : Nat) (a : Act) (w : World), Code.roundsIn (Fr r) 0 P c Q n a w → Code.roundsIn (Fr r) 0 P c Q' n a w
 | 0, _, _, h => h
 | n + 1, a, w, h => by
  rw [roundsIn_succ] at h ⊢
  refine wpIn_mono h ?_
  intro e a1 w1 h1
  cases e with
  | normal => exact ZdP hq n a1 w1 h1
  | _ => exact hq _ _ _ h1
theorem ZjT (F : Fit P ext) : ∀ fu : Nat,
  (∀ nt c T s e T' s', Z7 P ext nt fu c T s = some (e, T', s') → Zbo c = true → (∀ p ∈ s'.ob, p.1 = p.2) → ∀ ι D a w, TR ι nt D T a → Emb P ι s.h.get w → Fresh ι s.n s'.n → c.wpIn (Fr r) 0 P (ZbJ P ι s w nt D e T' s') a w) ∧
  (∀ nt c T s e T' s', Z7 P ext nt fu (.loop c) T s = some (e, T', s') → Zbo c = true → (∀ p ∈ s'.ob, p.1 = p.2) → ∀ ι D a w, TR ι nt D T a → Emb P ι s.h.get w → Fresh ι s.n s'.n → Code.roundsIn (Fr r) 0 P c (ZbJ P ι s w nt D e T' s') fu a w) := by
 intro fu
 induction fu with
 | zero => exact ⟨fun _ _ _ _ _ _ _ h => by simp [Z7] at h, fun _ _ _ _ _ _ _ h => by simp [Z7] at h⟩
 | succ fu ih =>
  obtain ⟨ihC, ihL⟩ := ih
  obtain ⟨upC, upO, upP, upF, upD, upE⟩ := ZaT (P := P) (ext := ext) (fun f g hg => (F.hp f g hg).up) fu
  have loops : ∀ nt c T s e T' s', Z7 P ext nt (fu + 1) (.loop c) T s = some (e, T', s') → Zbo c = true → (∀ p ∈ s'.ob, p.1 = p.2) → ∀ ι D a w, TR ι nt D T a → Emb P ι s.h.get w → Fresh ι s.n s'.n → Code.roundsIn (Fr r) 0 P c (ZbJ P ι s w nt D e T' s') (fu + 1) a w := by
   intro nt x T s e T' s' h hn ho ι D a w hT he hf
   simp only [Z7] at h
   rw [roundsIn_succ]
   split at h
   ·rename_i T1 s1 h1
    have u1 := upC _ _ _ _ _ _ _ h1
    have u2 := upC _ _ _ _ _ _ _ h
    refine wpIn_mono (ihC nt x T s .normal T1 s1 h1 hn (ZR u2.ob ho) ι D a w hT he (hf.mono (Nat.le_refl _) u2.n)) ?_
    rintro ex a1 w1 ⟨rfl, ι1, g1, g2, g3⟩
    refine ZdP ?_ fu a1 w1 (ihL nt x T1 s1 e T' s' h hn ho ι1 D a1 w1 g3 g1.emb (hf.after g2 u1.n))
    rintro ex2 a2 w2 ⟨rfl, ι2, k1, k2, k3⟩
    exact ⟨rfl, ι2, g1.trans k1, g2.trans k2 u1.n u2.n, k3⟩
   ·rename_i i T1 s1 h1
    injection h with h; simp only [Prod.mk.injEq] at h; obtain ⟨rfl, rfl, rfl⟩ := h
    refine wpIn_mono (ihC nt x T s _ _ _ h1 hn ho ι D a w hT he hf) ?_
    rintro ex a1 w1 ⟨rfl, hq⟩
    exact ⟨rfl, hq⟩
   ·rename_i T1 s1 h1
    injection h with h; simp only [Prod.mk.injEq] at h; obtain ⟨rfl, rfl, rfl⟩ := h
    refine wpIn_mono (ihC nt x T s _ _ _ h1 hn ho ι D a w hT he hf) ?_
    rintro ex a1 w1 ⟨rfl, hq⟩
    exact ⟨rfl, hq⟩
   ·cases h
  refine ⟨fun nt c T s e T' s' h hn ho ι D a w hT he hf => ?_, loops⟩
  have base : ZbJ P ι s w nt D .normal T s .normal a w ∧ ZbJ P ι s w nt D .ret T s .ret a w ∧ ∀ i, ZbJ P ι s w nt D (.exit i) T s (.exit i) a w :=
   ⟨⟨rfl, ι, Step.refl he, Dom.refl, hT⟩, ⟨rfl, ι, Step.refl he, Dom.refl, hT⟩, fun i => ⟨rfl, ι, Step.refl he, Dom.refl, hT⟩⟩
  have chain : ∀ {s1 : St} {T1 : Tr Value} {c2 : Code} {a1 : Act} {w1 : World} {ι1 : Ren}, Zbo c2 = true → Up s s1 → Up s1 s' → Step P ι s.h.get w ι1 s1.h.get w1 → Dom ι ι1 s.n s1.n → TR ι1 nt D T1 a1 → Z7 P ext nt fu c2 T1 s1 = some (e, T', s') →
    c2.wpIn (Fr r) 0 P (ZbJ P ι s w nt D e T' s') a1 w1 := fun {s1 T1 c2 a1 w1 ι1} n2 u1 u2 h1 h2 h3 h4 => by
   refine wpIn_mono (ihC nt c2 T1 s1 e T' s' h4 n2 ho ι1 D a1 w1 h3 h1.emb ((hf.mono (Nat.le_refl _) (Nat.le_refl _)).after h2 u1.n)) ?_
   rintro ex a2 w2 ⟨rfl, ι2, g1, g2, g3⟩
   exact ⟨rfl, ι2, (Step.two ⟨h1, h2⟩ ⟨g1, g2⟩ u1.n u2.n).1, (Step.two ⟨h1, h2⟩ ⟨g1, g2⟩ u1.n u2.n).2, g3⟩
  have h0 := h
  cases c <;> simp only [Z7] at h
  case skip => injection h with h; simp only [Prod.mk.injEq] at h; obtain ⟨rfl, rfl, rfl⟩ := h; exact wpIn_skip base.1
  case label l => injection h with h; simp only [Prod.mk.injEq] at h; obtain ⟨rfl, rfl, rfl⟩ := h; exact wpIn_label base.1
  case scope c => cases hn
  case ret => injection h with h; simp only [Prod.mk.injEq] at h; obtain ⟨rfl, rfl, rfl⟩ := h; exact wpIn_ret base.2.1
  case exit id => injection h with h; simp only [Prod.mk.injEq] at h; obtain ⟨rfl, rfl, rfl⟩ := h; exact wpIn_exit (base.2.2 id)
  case seq x y =>
   simp only [Zbo, Bool.and_eq_true] at hn
   split at h
   ·rename_i T1 s1 h1
    have u1 := upC _ _ _ _ _ _ _ h1
    have u2 := upC _ _ _ _ _ _ _ h
    refine wpIn_seq (wpIn_mono (ihC nt x T s .normal T1 s1 h1 hn.1 (ZR u2.ob ho) ι D a w hT he (hf.mono (Nat.le_refl _) u2.n)) ?_)
    rintro ex a1 w1 ⟨rfl, ι1, g1, g2, g3⟩
    exact chain hn.2 u1 u2 g1 g2 g3 h
   ·rename_i i T1 s1 h1
    injection h with h; simp only [Prod.mk.injEq] at h; obtain ⟨rfl, rfl, rfl⟩ := h
    refine wpIn_seq (wpIn_mono (ihC nt x T s _ _ _ h1 hn.1 ho ι D a w hT he hf) ?_)
    rintro ex a1 w1 ⟨rfl, hq⟩
    exact ⟨rfl, hq⟩
   ·rename_i T1 s1 h1
    injection h with h; simp only [Prod.mk.injEq] at h; obtain ⟨rfl, rfl, rfl⟩ := h
    refine wpIn_seq (wpIn_mono (ihC nt x T s _ _ _ h1 hn.1 ho ι D a w hT he hf) ?_)
    rintro ex a1 w1 ⟨rfl, hq⟩
    exact ⟨rfl, hq⟩
   ·cases h
  case cond x y z =>
   simp only [Zbo, Bool.and_eq_true] at hn
   split at h
   ·rename_i t ht
    have hx : a.eval x = .bool t := Zc1 ((ht ▸ hT.opnd x : VR ι (.bool t) (Za2 a x)).bool_inv)
    split at h
    ·exact wpIn_cond_true hx (ihC nt y T s e T' s' h hn.1 ho ι D a w hT he hf)
    ·exact wpIn_cond_false hx (ihC nt z T s e T' s' h hn.2 ho ι D a w hT he hf)
   ·cases h
  case block id x =>
   simp only [Zbo] at hn
   split at h
   ·rename_i i T1 s1 h1
    cases hb : Nat.beq i id with
    | true =>
     rw [hb] at h
     injection h with h; simp only [Prod.mk.injEq] at h; obtain ⟨rfl, rfl, rfl⟩ := h
     refine wpIn_block (wpIn_mono (ihC nt x T s _ _ _ h1 hn ho ι D a w hT he hf) ?_)
     rintro ex a1 w1 ⟨rfl, hq⟩
     show if i = id then _ else _
     rw [if_pos (Nat.eq_of_beq_eq_true hb)]
     exact ⟨rfl, hq⟩
    | false =>
     rw [hb] at h
     injection h with h; simp only [Prod.mk.injEq] at h; obtain ⟨rfl, rfl, rfl⟩ := h
     refine wpIn_block (wpIn_mono (ihC nt x T s _ _ _ h1 hn ho ι D a w hT he hf) ?_)
     rintro ex a1 w1 ⟨rfl, hq⟩
     show if i = id then _ else _
     rw [if_neg (fun e => by rw [Zdr e] at hb; cases hb)]
     exact ⟨rfl, hq⟩
   ·rename_i T1 s1 h1
    injection h with h; simp only [Prod.mk.injEq] at h; obtain ⟨rfl, rfl, rfl⟩ := h
    refine wpIn_block (wpIn_mono (ihC nt x T s _ _ _ h1 hn ho ι D a w hT he hf) ?_)
    rintro ex a1 w1 ⟨rfl, hq⟩
    exact ⟨rfl, hq⟩
   ·rename_i T1 s1 h1
    injection h with h; simp only [Prod.mk.injEq] at h; obtain ⟨rfl, rfl, rfl⟩ := h
    refine wpIn_block (wpIn_mono (ihC nt x T s _ _ _ h1 hn ho ι D a w hT he hf) ?_)
    rintro ex a1 w1 ⟨rfl, hq⟩
    exact ⟨rfl, hq⟩
   ·cases h
  case loop x =>
   simp only [Zbo] at hn
   exact wpIn_loop_rounds (fu + 1) (loops nt x T s e T' s' h0 hn ho ι D a w hT he hf)
  case region id ops draw =>
   simp only [Zbo] at hn
   cases draw with
   | true =>
    simp only [cond_true] at h
    split at h
    ·rename_i es T1 s1 h1
     injection h with h; simp only [Prod.mk.injEq] at h; obtain ⟨rfl, rfl, rfl⟩ := h
     exact wpIn_region_any F.mixed (ZhN hn _ _ _ _ (ZjN F (fun fu' _ => (ZbD F fu').2.2.1) h1 ho hT he hf fun ι' a' w' g1 g2 g3 => ⟨rfl, rfl, ι', g1, g2, g3⟩))
    ·cases h
   | false =>
   simp only [cond_false] at h
   split at h
   ·rename_i T1 s1 h1
    injection h with h; simp only [Prod.mk.injEq] at h; obtain ⟨rfl, rfl, rfl⟩ := h
    exact wpIn_region_list (Zit _ _ _ hn ((ZbD F fu).2.1 nt ops ops.toList T s T1 s1 h1 ho ι D a w _ hT he hf fun ι' a' w' g1 g2 g3 => ⟨rfl, rfl, ι', g1, g2, g3⟩))
   ·cases h
  all_goals cases h
end
end Ev
end Go.Proofs.YtifdgbbbojccdaaGreat
/- Ranges over functions: the rounds, the iterator, the statement. -/
namespace Go.Proofs.YtifdgbbbojccdaaGreat
open Go.RowKit
namespace Ev
noncomputable section
structure Cx where
 nt : Nat
 T : Tr Value
 ps : Array Tmp
 asg : Code
 body : Code
def ZmS : List Tmp → List Value → Tr Value → Tr Value
 | t :: ts, v :: vs, T => ZmS ts vs (T.set t (some v))
 | _, _, T => T
def isN : Ex → Bool
 | .normal => true
 | _ => false
def pend : Ex → Option Ex
 | .normal => none
 | e => some e
def Zfn (P : Program) (ext : FuncId → Option Ext) (cx : Cx) (fu : Nat) (xs : List Value) (s : St) : Option (Ex × St) :=
 bif Nat.beq xs.length cx.ps.toList.length && Zj (fun t => Nat.blt t cx.nt) cx.ps.toList && Zbo cx.asg && Zbo cx.body then
  match Z7 P ext cx.nt fu cx.asg (ZmS cx.ps.toList xs cx.T) s with
  | some (.normal, T1, s1) => match Z7 P ext cx.nt fu cx.body T1 s1 with
   | some (e, _, s2) => some (e, s2)
   | none => none
  | _ => none
 else none
def ZkZ (ys : List Tmp) (o : Oper) : Option (Array Operand) :=
 match o.op with
 | .call c => match c.callee with
  | .value (.tmp t) => bif ZeL t ys then some c.args else none
  | _ => none
 | _ => none
def ZhO (ys : List Tmp) (o : Oper) : Bool :=
 match o.op with
 | .move (.tmp t) => ZeL t ys
 | _ => false
def ZlG (dst : Option Tmp) (ys : List Tmp) : List Tmp := match dst with | some d => ys.filter (fun t => !Nat.beq t d) | none => ys
def addY (dst : Option Tmp) (ys : List Tmp) : List Tmp := match dst with | some d => d :: ys | none => ys
def ZcH (P : Program) (ext : FuncId → Option Ext) (nt : Nat) (cx : Cx) (fu : Nat) (ops : Array Oper) : List Oper → Tr Value → St → List Tmp → Option Ex → Option (Tr Value × St × List Tmp × Option Ex)
 | [], T, s, ys, pe => some (T, s, ys, pe)
 | o :: l, T, s, ys, pe =>
  bif ZcL nt o.dst && Zj ZcE o.op.operands.toList && (Zew o && o.guard.isNone) then
   match ZkZ ys o with
   | some xs => match pe with
    | none => match Zfn P ext cx fu (xs.toList.map (opnd T)) s with
     | some (e, s1) => ZcH P ext nt cx fu ops l (Zbs T o.dst (.bool (isN e))) s1 (ZlG o.dst ys) (pend e)
     | none => none
    | some _ => none
   | none => bif ZhO ys o then ZcH P ext nt cx fu ops l (Zbs T o.dst (.chan (some 0))) s (addY o.dst ys) pe
    else match ZcN P ext fu (opnd T) o s with
     | some (v, s1) => ZcH P ext nt cx fu ops l (Zbs T o.dst v) s1 (ZlG o.dst ys) pe
     | none => none
  else none
def evI (P : Program) (ext : FuncId → Option Ext) (nt : Nat) (cx : Cx) : Nat → Code → Tr Value → St → List Tmp → Option Ex → Option (Ex × Tr Value × St × List Tmp × Option Ex)
 | 0, _, _, _, _, _ => none
 | fu + 1, c, T, s, ys, pe => match c with
  | .skip => some (.normal, T, s, ys, pe)
  | .ret => some (.ret, T, s, ys, pe)
  | .exit id => some (.exit id, T, s, ys, pe)
  | .seq a b => match evI P ext nt cx fu a T s ys pe with
   | some (.normal, T', s', ys', pe') => evI P ext nt cx fu b T' s' ys' pe'
   | some (.exit i, r) => some (.exit i, r)
   | some (.ret, r) => some (.ret, r)
   | none => none
  | .cond x a b => match opnd T x with
   | .bool t => match t with
    | true => evI P ext nt cx fu a T s ys pe
    | false => evI P ext nt cx fu b T s ys pe
   | _ => none
  | .block id a => match evI P ext nt cx fu a T s ys pe with
   | some (.exit i, r) => bif Nat.beq i id then some (.normal, r) else some (.exit i, r)
   | some (.normal, r) => some (.normal, r)
   | some (.ret, r) => some (.ret, r)
   | none => none
  | .loop a => match evI P ext nt cx fu a T s ys pe with
   | some (.normal, T', s', ys', pe') => evI P ext nt cx fu (.loop a) T' s' ys' pe'
   | some (.exit i, r) => some (.exit i, r)
   | some (.ret, r) => some (.ret, r)
   | none => none
  | .region _ ops draw => match draw with
   | true => none
   | false => match ZcH P ext nt cx fu ops ops.toList T s ys pe with
    | some (T', s', ys', pe') => some (.normal, T', s', ys', pe')
    | none => none
  | _ => none
def ZjU (P : Program) (ext : FuncId → Option Ext) (nt fu : Nat) (g : Operand) (ps : Array Tmp) (asg body : Code) (T : Tr Value) (s : St) : Option (Ex × St) :=
 match opnd T g with
 | .func (.func gf) av bv => match P.funcs[gf]? with
  | some fn => match fn.body with
   | some c => bif ZcE g && Nat.ble (av ++ #[Value.chan (some 0)] ++ bv).size fn.ntmps && Nat.beq fn.results.toList.length 0 then
     match evI P ext fn.ntmps ⟨nt, T, ps, asg, body⟩ fu c (Zcz 0 (av ++ #[Value.chan (some 0)] ++ bv).toList .nil) s [av.size] none with
     | some (.exit _, _) => none
     | some (_, _, s', _, none) => some (.normal, s')
     | some (_, _, s', _, some e) => bif isN e then none else some (e, s')
     | none => none
    else none
   | none => none
  | none => none
 | _ => none
def evR (P : Program) (ext : FuncId → Option Ext) (nt : Nat) : Nat → Code → Tr Value → St → Bool → Option (Ex × Tr Value × St × Bool)
 | 0, _, _, _, _ => none
 | fu + 1, c, T, s, m => match c with
  | .seq a b => match evR P ext nt fu a T s m with
   | some (.normal, T', s', m') => evR P ext nt fu b T' s' m'
   | some (.exit i, r) => some (.exit i, r)
   | some (.ret, r) => some (.ret, r)
   | none => none
  | .cond x a b => match opnd T x with
   | .bool t => match t with
    | true => evR P ext nt fu a T s m
    | false => evR P ext nt fu b T s m
   | _ => none
  | .block id a => match evR P ext nt fu a T s m with
   | some (.exit i, r) => bif Nat.beq i id then some (.normal, r) else some (.exit i, r)
   | some (.normal, r) => some (.normal, r)
   | some (.ret, r) => some (.ret, r)
   | none => none
  | .rangeFunc g ps asg body => bif m then none else match ZjU P ext nt fu g ps asg body T s with
   | some (e, s') => some (e, T, s', true)
   | none => none
  | .region i ops draw => match Z7 P ext nt (fu + 1) (.region i ops draw) T s with
   | some (e, T', s') => some (e, T', s', m)
   | none => none
  | .loop a => match Z7 P ext nt (fu + 1) (.loop a) T s with
   | some (e, T', s') => some (e, T', s', m)
   | none => none
  | .skip => some (.normal, T, s, m)
  | .ret => some (.ret, T, s, m)
  | .exit id => some (.exit id, T, s, m)
  | _ => none
def Zdw (P : Program) (ext : FuncId → Option Ext) (fu : Nat) (f : FuncId) (args : Array Value) (s : St) : Out :=
 match P.funcs[f]? with
 | some fn => match fn.body with
  | some c => bif Nat.ble args.size fn.ntmps then match evR P ext fn.ntmps fu c (Zcz 0 args.toList .nil) s false with
   | some (.exit _, _) => none
   | some (_, T, s', _) => match Zan P T s' fn.results.toList with
    | some [v] => some (v, s')
    | some vs => some (.tuple vs.toArray, s')
    | none => none
   | none => none
   else none
  | none => none
 | none => none
end
section
variable {P : Program} {ext : FuncId → Option Ext}
theorem Step.put {ι0 ι : Ren} {h0 h : AH} {w0 W : World} (st : Step P ι0 h0 w0 ι h W) {l : Nat} (hl : w0.heap.size ≤ l) (hn : ∀ k b, ι k = some b → b.1 ≠ l) (o : Obj) : Step P ι0 h0 w0 ι h (W.putObj l o) where
 ext := st.ext
 emb := ⟨fun k c t hk => by
   obtain ⟨b, C, q1, q2, q3⟩ := st.emb.obj k c t hk
   exact ⟨b, C, q1, (World.putObj_heap_other (hn k b q1)).trans q2, q3⟩,
  fun k O hk => by
   obtain ⟨b, q1, q2⟩ := st.emb.ro k O hk
   exact ⟨b, q1, q2.on (World.putObj_heap_other (hn k b q1))⟩, st.emb.inj, fun k b hk => by
   have := st.emb.lt k b hk
   simpa [World.putObj] using this, fun b base id q hq => by
   obtain ⟨m1, m2, m3⟩ := st.emb.mks b base id q hq
   exact ⟨m1, ⟨m2.1.ext (fun _ _ h => h) (World.putObj_heap_other (by rw [← m1]; exact hn _ q hq)), m2.2⟩, m3⟩⟩
 os := st.os
 tape := st.tape
 output := st.output
 size := by have := st.size; simpa [World.putObj] using this
 frame := fun b hb hc => (World.putObj_heap_other (by omega)).trans (st.frame b hb hc)
 new := st.new
 alive := st.alive
 kind := st.kind
structure IS (P : Program) (ι0 : Ren) (h0 : AH) (w0 : World) (n0 : Nat) (cn : Nat) (cT : Tr Value) (ac : Act) (l K : Nat) (R : Loop) (ι : Ren) (s : St) (W : World) : Prop where
 st : Step P ι0 h0 w0 ι s.h.get W
 dm : Dom ι0 ι n0 s.n
 hn : n0 ≤ s.n
 tr : TR ι cn [] cT { tmps := ac.tmps, defers := [] }
 lo : W.heap[l]? = some (.loop R)
 de : W.heap[K]? = some (.deferred (some []))
 ll : w0.heap.size ≤ l
 lk : K ≠ l
 nl : ∀ k b, ι k = some b → b.1 ≠ l ∧ b.1 ≠ K
theorem Zht {ι ι1 : Ren} {h h1 : AH} {W W1 : World} (g : Step P ι h W ι1 h1 W1) {l : Nat} (hl : l < W.heap.size) (hn : ∀ k b, ι k = some b → b.1 ≠ l) : (∀ k b, ι1 k = some b → b.1 ≠ l) ∧ W1.heap[l]? = W.heap[l]? := by
 refine ⟨fun k b hk => ?_, g.frame l hl fun k c _ hc => hn k c hc⟩
 cases hi : ι k with
 | some c =>
  have := g.ext k c hi
  rw [hk] at this
  injection this with this
  rw [this]; exact hn k c hi
 | none =>
  rcases g.new k b hi hk with h | ⟨j, c, _, hj, e⟩
  ·omega
  ·rw [← e]; exact hn j c hj
section
variable {ι0 : Ren} {h0 : AH} {w0 : World} {n0 cn : Nat} {cT : Tr Value} {ac : Act} {l K : Nat} {R : Loop}
theorem IS.step {ι ι1 : Ren} {s s1 : St} {W W1 : World} (I : IS P ι0 h0 w0 n0 cn cT ac l K R ι s W) (g1 : Step P ι s.h.get W ι1 s1.h.get W1) (g2 : Dom ι ι1 s.n s1.n) (hle : s.n ≤ s1.n) : IS P ι0 h0 w0 n0 cn cT ac l K R ι1 s1 W1 := by
 have hl : l < W.heap.size := (Array.getElem?_eq_some_iff.1 I.lo).1
 have hk : K < W.heap.size := (Array.getElem?_eq_some_iff.1 I.de).1
 obtain ⟨a1, a2⟩ := Zht g1 hl fun k b h => (I.nl k b h).1
 obtain ⟨b1, b2⟩ := Zht g1 hk fun k b h => (I.nl k b h).2
 exact ⟨I.st.trans g1, I.dm.trans g2 I.hn hle, Nat.le_trans I.hn hle, I.tr.on g1.ext, a2.trans I.lo, b2.trans I.de, I.ll, I.lk, fun k b h => ⟨a1 k b h, b1 k b h⟩⟩
theorem IS.put {ι : Ren} {s : St} {W : World} (I : IS P ι0 h0 w0 n0 cn cT ac l K R ι s W) (R' : Loop) : IS P ι0 h0 w0 n0 cn cT ac l K R' ι s (W.putObj l (.loop R')) := by
 have hl : l < W.heap.size := (Array.getElem?_eq_some_iff.1 I.lo).1
 exact ⟨I.st.put I.ll (fun k b h => (I.nl k b h).1) _, I.dm, I.hn, I.tr, World.putObj_heap_same hl, (World.putObj_heap_other I.lk).trans I.de, I.ll, I.lk, I.nl⟩
end
def ZnZ : Ex → Code
 | .exit i => .exit i
 | _ => .ret
def Rp (R : Loop) : Option Ex → Loop
 | none => { R with state := .ready, pending := none }
 | some e => { R with state := .done, pending := some (ZnZ e) }
theorem Zmr {ι : Ren} {nt : Nat} : ∀ (ps : List Tmp) (xs xs' : List Value) (T : Tr Value) (t : Array Value), TR ι nt [] T { tmps := t, defers := [] } → xs.length = ps.length → VRs ι xs.toArray xs'.toArray → Zj (fun t => Nat.blt t nt) ps = true →
  TR ι nt [] (ZmS ps xs T) { tmps := (ps.zip xs').foldl (fun t p => t.setIfInBounds p.1 p.2) t, defers := [] }
 | [], xs, xs', T, t, hT, hl, hx, hp => by
  cases xs with
  | nil => exact hT
  | cons x xs => simp at hl
 | p :: ps, [], xs', T, t, hT, hl, hx, hp => by simp at hl
 | p :: ps, x :: xs, [], T, t, hT, hl, hx, hp => by have := hx.1; simp at this
 | p :: ps, x :: xs, x' :: xs', T, t, hT, hl, hx, hp => by
  have hp1 : ZcL nt (some p) = true := ZB hp p (List.mem_cons_self ..)
  have hp2 : Zj (fun t => Nat.blt t nt) ps = true := Zio fun y hy => ZB hp y (List.mem_cons_of_mem _ hy)
  have h1 : VR ι x x' := hx.2 0 x x' (by simp) (by simp)
  have h2 : VRs ι xs.toArray xs'.toArray := ⟨by have := hx.1; simpa using this, fun i y y' hy hy' => hx.2 (i + 1) y y' (by simpa using hy) (by simpa using hy')⟩
  exact Zmr ps xs xs' (T.set p (some x)) (t.setIfInBounds p x') (hT.put (dst := some p) hp1 h1) (by simpa using hl) h2 hp2
section
variable {ι0 : Ren} {h0 : AH} {w0 : World} {n0 : Nat} {ac : Act} {l K : Nat} {R : Loop} {cx : Cx}
theorem ZkF (F : Fit P ext) {fu : Nat} {xs : List Value} {s s' : St} {e : Ex} (h : Zfn P ext cx fu xs s = some (e, s')) (ho : ∀ p ∈ s'.ob, p.1 = p.2) {ι : Ren} {W : World}
  (hR : R.tmps = ac.tmps ∧ R.params = cx.ps ∧ R.assign = cx.asg ∧ R.body = cx.body) (I : IS P ι0 h0 w0 n0 cx.nt cx.T ac l K (Rp R none) ι s W) (hf : Fresh ι s.n s'.n) {xs' : Array Value} (hx : VRs ι xs.toArray xs') :
  ∃ tm, (Instr.yield l xs').run P W = .ok (.round l R.fn tm cx.asg cx.body) W ∧
   RoundIn (Fr none) 0 P l R.fn tm cx.asg cx.body W fun en W' => en = .returned (.bool (isN e)) ∧ ∃ ι', (∀ k b, ι k = some b → ι' k = some b) ∧ Dom ι ι' s.n s'.n ∧ IS P ι0 h0 w0 n0 cx.nt cx.T ac l K (Rp R (pend e)) ι' s' W' := by
 unfold Zfn at h
 obtain ⟨hg, h⟩ := Zd h
 simp only [Bool.and_eq_true] at hg
 obtain ⟨⟨⟨hl, hps⟩, hna⟩, hnb⟩ := hg
 have hl := Nat.eq_of_beq_eq_true hl
 obtain ⟨upC, _⟩ := ZaT (P := P) (ext := ext) (fun f g hg => (F.hp f g hg).up) fu
 split at h
 ·rename_i T1 s1 h1
  split at h
  ·rename_i e' T2 s2 h2
   injection h with h; injection h with q1 q2; subst q1 q2
   have u1 := upC _ _ _ _ _ _ _ h1
   have u2 := upC _ _ _ _ _ _ _ h2
   have hy := run_yield (P := P) (args := xs') I.lo (by
    show xs'.size = R.params.size
    rw [hR.2.1]
    have a := hx.1
    have b := hl
    simp only [List.size_toArray, Array.length_toList] at a b
    omega)
   have e1 : (Rp R none).tmps = ac.tmps := hR.1
   have e2 : (Rp R none).params = cx.ps := hR.2.1
   have e3 : (Rp R none).assign = cx.asg := hR.2.2.1
   have e4 : (Rp R none).body = cx.body := hR.2.2.2
   have e5 : (Rp R none).fn = R.fn := rfl
   rw [e1, e2, e3, e4, e5] at hy
   refine ⟨_, hy, ?_⟩
   have htr := Zmr cx.ps.toList xs xs'.toList cx.T ac.tmps I.tr hl (by simpa using hx) hps
   have hfold : (cx.ps.zip xs').foldl (fun (tmps : Array Value) (x : Tmp × Value) => match x with | (t, a) => tmps.setIfInBounds t a) ac.tmps = (cx.ps.toList.zip xs'.toList).foldl (fun t p => t.setIfInBounds p.1 p.2) ac.tmps := by
    rw [← Array.foldl_toList, Array.toList_zip]
   rw [hfold]
   refine roundIn_of_wpIn (F := Fr none) trivial ?_
   refine wpIn_mono (((ZjT (r := some l) F fu).1 cx.nt cx.asg _ s .normal T1 s1 h1 hna (ZR u2.ob ho) ι [] _ W htr I.st.emb (hf.mono (Nat.le_refl _) u2.n)) : Code.wpIn (Fr (some l)) 0 P _ _ _ W) ?_
   rintro ex a1 w1 ⟨rfl, ι1, g1, g2, g3⟩
   have I1 := I.step g1 g2 u1.n
   refine ⟨_, run_beginRound I1.lo rfl, ?_⟩
   have I2 := I1.put { Rp R none with state := .busy }
   refine wpIn_mono (((ZjT (r := some l) F fu).1 cx.nt cx.body T1 s1 e' T2 s2 h2 hnb ho ι1 [] a1 _ g3 I2.st.emb (hf.after g2 u1.n)) : Code.wpIn (Fr (some l)) 0 P _ _ _ _) ?_
   rintro ex a2 w2 ⟨rfl, ι2, k1, k2, k3⟩
   have I3 := I2.step k1 k2 u2.n
   have hext : ∀ k b, ι k = some b → ι2 k = some b := fun k b hk => k1.ext k b (g1.ext k b hk)
   have hdom : Dom ι ι2 s.n s2.n := g2.trans k2 u1.n u2.n
   cases e' with
   | normal => exact ⟨_, _, run_endRound none I3.lo, rfl, ι2, hext, hdom, I3.put _⟩
   | ret => exact ⟨_, _, run_endRound (some .ret) I3.lo, rfl, ι2, hext, hdom, I3.put _⟩
   | exit i => exact ⟨_, _, run_endRound (some (.exit i)) I3.lo, rfl, ι2, hext, hdom, I3.put _⟩
  ·cases h
 ·cases h
end
end
end Ev
end Go.Proofs.YtifdgbbbojccdaaGreat
/- Ranges over functions: the iterator's code, the statement, the function. -/
namespace Go.Proofs.YtifdgbbbojccdaaGreat
open Go.RowKit
namespace Ev
section
variable {P : Program} {ext : FuncId → Option Ext}
theorem ZjV (F : Fit P ext) {cx : Cx} {fu : Nat} {xs : List Value} {s s' : St} {e : Ex} (h : Zfn P ext cx fu xs s = some (e, s')) : Up s s' := by
 unfold Zfn at h
 obtain ⟨_, h⟩ := Zd h
 obtain ⟨upC, _⟩ := ZaT (P := P) (ext := ext) (fun f g hg => (F.hp f g hg).up) fu
 split at h
 ·rename_i T1 s1 h1
  split at h
  ·rename_i e' T2 s2 h2
   injection h with h; injection h with q1 q2; subst q1 q2
   exact (upC _ _ _ _ _ _ _ h1).trans (upC _ _ _ _ _ _ _ h2)
  ·cases h
 ·cases h
theorem Zej (F : Fit P ext) {nt : Nat} {cx : Cx} {fu : Nat} {ops : Array Oper} : ∀ (l : List Oper) (T : Tr Value) (s : St) (ys : List Tmp) (pe : Option Ex) (T' : Tr Value) (s' : St) (ys' : List Tmp) (pe' : Option Ex), ZcH P ext nt cx fu ops l T s ys pe = some (T', s', ys', pe') → Up s s'
 | [], T, s, ys, pe, T', s', ys', pe', h => by
  simp only [ZcH] at h
  injection h with h; simp only [Prod.mk.injEq] at h; obtain ⟨rfl, rfl, rfl, rfl⟩ := h
  exact Up.refl _
 | o :: l, T, s, ys, pe, T', s', ys', pe', h => by
  simp only [ZcH] at h
  obtain ⟨_, h⟩ := Zd h
  split at h
  ·split at h
   ·split at h
    ·rename_i e s1 h1
     exact (ZjV F h1).trans (Zej F l _ _ _ _ _ _ _ _ h)
    ·cases h
   ·cases h
  ·cases hm : ZhO ys o with
   | true => rw [hm] at h; exact Zej F l _ _ _ _ _ _ _ _ h
   | false =>
    rw [hm] at h
    simp only [cond_false] at h
    split at h
    ·rename_i v s1 h1
     exact ((ZaT (P := P) (ext := ext) (fun f g hg => (F.hp f g hg).up) fu).2.2.1 _ _ _ _ _ h1).trans (Zej F l _ _ _ _ _ _ _ _ h)
    ·cases h
theorem Zb5 (F : Fit P ext) {nt : Nat} {cx : Cx} : ∀ (fu : Nat) (c : Code) (T : Tr Value) (s : St) (ys : List Tmp) (pe : Option Ex) (e : Ex) (T' : Tr Value) (s' : St) (ys' : List Tmp) (pe' : Option Ex), evI P ext nt cx fu c T s ys pe = some (e, T', s', ys', pe') → Up s s'
 | 0, _, _, _, _, _, _, _, _, _, _, h => by simp [evI] at h
 | fu + 1, c, T, s, ys, pe, e, T', s', ys', pe', h => by
  cases c <;> simp only [evI] at h
  case skip => injection h with h; simp only [Prod.mk.injEq] at h; obtain ⟨rfl, rfl, rfl, rfl, rfl⟩ := h; exact Up.refl _
  case ret => injection h with h; simp only [Prod.mk.injEq] at h; obtain ⟨rfl, rfl, rfl, rfl, rfl⟩ := h; exact Up.refl _
  case exit id => injection h with h; simp only [Prod.mk.injEq] at h; obtain ⟨rfl, rfl, rfl, rfl, rfl⟩ := h; exact Up.refl _
  case seq x y =>
   split at h
   ·rename_i T1 s1 ys1 pe1 h1; exact (Zb5 F fu _ _ _ _ _ _ _ _ _ _ h1).trans (Zb5 F fu _ _ _ _ _ _ _ _ _ _ h)
   ·rename_i i r h1; injection h with h; simp only [Prod.mk.injEq] at h; obtain ⟨rfl, rfl⟩ := h; exact Zb5 F fu _ _ _ _ _ _ _ _ _ _ h1
   ·rename_i r h1; injection h with h; simp only [Prod.mk.injEq] at h; obtain ⟨rfl, rfl⟩ := h; exact Zb5 F fu _ _ _ _ _ _ _ _ _ _ h1
   ·cases h
  case cond x y z =>
   split at h
   ·split at h
    ·exact Zb5 F fu _ _ _ _ _ _ _ _ _ _ h
    ·exact Zb5 F fu _ _ _ _ _ _ _ _ _ _ h
   ·cases h
  case block id x =>
   split at h
   ·rename_i i r h1
    cases hb : Nat.beq i id with
    | true => rw [hb] at h; injection h with h; simp only [Prod.mk.injEq] at h; obtain ⟨rfl, rfl⟩ := h; exact Zb5 F fu _ _ _ _ _ _ _ _ _ _ h1
    | false => rw [hb] at h; injection h with h; simp only [Prod.mk.injEq] at h; obtain ⟨rfl, rfl⟩ := h; exact Zb5 F fu _ _ _ _ _ _ _ _ _ _ h1
   ·rename_i r h1; injection h with h; simp only [Prod.mk.injEq] at h; obtain ⟨rfl, rfl⟩ := h; exact Zb5 F fu _ _ _ _ _ _ _ _ _ _ h1
   ·rename_i r h1; injection h with h; simp only [Prod.mk.injEq] at h; obtain ⟨rfl, rfl⟩ := h; exact Zb5 F fu _ _ _ _ _ _ _ _ _ _ h1
   ·cases h
  case loop x =>
   split at h
   ·rename_i T1 s1 ys1 pe1 h1; exact (Zb5 F fu _ _ _ _ _ _ _ _ _ _ h1).trans (Zb5 F fu _ _ _ _ _ _ _ _ _ _ h)
   ·rename_i i r h1; injection h with h; simp only [Prod.mk.injEq] at h; obtain ⟨rfl, rfl⟩ := h; exact Zb5 F fu _ _ _ _ _ _ _ _ _ _ h1
   ·rename_i r h1; injection h with h; simp only [Prod.mk.injEq] at h; obtain ⟨rfl, rfl⟩ := h; exact Zb5 F fu _ _ _ _ _ _ _ _ _ _ h1
   ·cases h
  case region id ops draw =>
   split at h
   ·cases h
   ·split at h
    ·rename_i T1 s1 ys1 pe1 h1
     injection h with h; simp only [Prod.mk.injEq] at h; obtain ⟨rfl, rfl, rfl, rfl, rfl⟩ := h
     exact Zej F _ _ _ _ _ _ _ _ _ h1
    ·cases h
  all_goals cases h
def YS (l : Nat) (ys : List Tmp) (a : Act) : Prop := ∀ t ∈ ys, a.tmps.getD t undef = .func (.yield l) #[] #[]
theorem YS.drop {l : Nat} {ys : List Tmp} {a : Act} {nt : Nat} (h : YS l ys a) (hs : a.tmps.size = nt) {dst : Option Tmp} (hd : ZcL nt dst = true) (v : Value) : YS l (ZlG dst ys) (a.put dst v) := fun t ht => by
 rw [Zhp hs hd]
 cases dst with
 | none => rw [if_neg (by simp)]; exact h t ht
 | some d =>
  have ht : t ∈ ys.filter (fun t => !Nat.beq t d) := ht
  obtain ⟨h1, h2⟩ := List.mem_filter.1 ht
  have : ¬ d = t := fun e => by subst e; simp at h2
  rw [if_neg (by simpa using this)]
  exact h t h1
theorem YS.add {l : Nat} {ys : List Tmp} {a : Act} {nt : Nat} (h : YS l ys a) (hs : a.tmps.size = nt) {dst : Option Tmp} (hd : ZcL nt dst = true) : YS l (addY dst ys) (a.put dst (.func (.yield l) #[] #[])) := fun t ht => by
 rw [Zhp hs hd]
 split
 ·rfl
 ·rename_i hne
  cases dst with
  | none => exact h t ht
  | some d =>
   rcases List.mem_cons.1 (show t ∈ d :: ys from ht) with rfl | ht
   ·exact absurd rfl hne
   ·exact h t ht
section
variable {ι0 : Ren} {h0 : AH} {w0 : World} {n0 : Nat} {ac : Act} {l0 K : Nat} {R : Loop} {cx : Cx}
theorem ZdX (F : Fit P ext) (hR : R.tmps = ac.tmps ∧ R.params = cx.ps ∧ R.assign = cx.asg ∧ R.body = cx.body) {nt fu : Nat} {ops : Array Oper} : ∀ (l : List Oper) (T : Tr Value) (s : St) (ys : List Tmp) (pe : Option Ex) (T' : Tr Value) (s' : St) (ys' : List Tmp) (pe' : Option Ex), ZcH P ext nt cx fu ops l T s ys pe = some (T', s', ys', pe') → (∀ p ∈ s'.ob, p.1 = p.2) →
  ∀ ι a W (Q : Exit → Act → World → Prop), TR ι nt [] T a → YS l0 ys a → IS P ι0 h0 w0 n0 cx.nt cx.T ac l0 K (Rp R pe) ι s W → Fresh ι s.n s'.n →
   (∀ ι' a' W', TR ι' nt [] T' a' → YS l0 ys' a' → IS P ι0 h0 w0 n0 cx.nt cx.T ac l0 K (Rp R pe') ι' s' W' → Dom ι ι' s.n s'.n → Q .normal a' W') → wpListIn (Fr none) 0 P ops Q l a W
 | [], T, s, ys, pe, T', s', ys', pe', h, ho, ι, a, W, Q, hT, hY, I, hf, hQ => by
  simp only [ZcH] at h
  injection h with h; simp only [Prod.mk.injEq] at h; obtain ⟨rfl, rfl, rfl, rfl⟩ := h
  exact hQ ι a W hT hY I Dom.refl
 | o :: l, T, s, ys, pe, T', s', ys', pe', h, ho, ι, a, W, Q, hT, hY, I, hf, hQ => by
  simp only [ZcH] at h
  obtain ⟨hg, h⟩ := Zd h
  simp only [Bool.and_eq_true] at hg
  obtain ⟨⟨hd, hgo⟩, hnd, hgu⟩ := hg
  have hnd := ZeR hnd
  have hgu : o.guard = none := by simpa using hgu
  have hwant : Region.wanted o (yielded ops a.tmps) = true := (Zb3 (ops := ops) (s := s) (s' := s) (b := true) (fun t _ => hT.2.2 t) (by simp [ZbX, hgu])).1
  unfold wpListIn
  rw [if_pos hwant]
  split at h
  ·rename_i xs hy
   have hy : ∃ c t, o.op = .call c ∧ c.callee = .value (.tmp t) ∧ t ∈ ys ∧ c.args = xs := by
    unfold ZkZ at hy
    split at hy
    ·rename_i c hop
     split at hy
     ·rename_i t hc
      obtain ⟨hm, hy⟩ := Zd hy
      injection hy with hy
      exact ⟨c, t, hop, hc, ZcO.1 hm, hy⟩
     ·cases hy
    ·cases hy
   obtain ⟨c, t, hop, hc, ht, rfl⟩ := hy
   split at h
   ·split at h
    ·rename_i e s1 h1
     have u1 := ZjV F h1
     have u2 := Zej F _ _ _ _ _ _ _ _ _ h
     have hx : VRs ι (c.args.toList.map (opnd T)).toArray (c.args.map (Za2 a)) := by
      have := Zef hT.opnd c.args
      rwa [show (c.args.toList.map (opnd T)).toArray = c.args.map (opnd T) by rw [← Array.toList_map]]
     obtain ⟨tm, hrun, hround⟩ := ZkF F h1 (ZR u2.ob ho) hR I (hf.mono (Nat.le_refl _) u2.n) hx
     have hex : (execOp a.eval o).run P W = .ok (.round l0 R.fn tm cx.asg cx.body) W := by
      rw [← ZdG (fun cs b e => by rw [hop] at e; cases e) hgo, ← hrun]
      have hv : Za2 a (.tmp t) = .func (.yield l0) #[] #[] := hY t ht
      simp [execOp, hop, resolve, hc, hv, Deferred.ofValue, invoke, Result.andThen, Sem.run]
     refine ⟨fun _ _ => trivial, ?_⟩
     rw [show (Fr none).round = none from rfl, Oper.semAt_none, hex, Oper.uponIn_round]
     refine ⟨fun e => (by cases e), hround.mono ?_⟩
     rintro en W' ⟨rfl, ι', hext, hdom, I'⟩
     refine ZdX F hR l _ s1 _ _ T' s' ys' pe' h ho ι' _ W' Q ((hT.on hext).put hd (VR.of_free rfl)) (hY.drop hT.1 hd _) I' (hf.after hdom u1.n) fun ι2 a2 W2 k1 k2 k3 k4 => hQ ι2 a2 W2 k1 k2 k3 (hdom.trans k4 u1.n u2.n)
    ·cases h
   ·cases h
  ·cases hm : ZhO ys o with
   | true =>
    rw [hm] at h
    simp only [cond_true] at h
    have hm : ∃ t, o.op = .move (.tmp t) ∧ t ∈ ys := by
     unfold ZhO at hm
     split at hm
     ·rename_i t hop; exact ⟨t, hop, ZcO.1 hm⟩
     ·cases hm
    obtain ⟨t, hop, ht⟩ := hm
    have hv : a.eval (.tmp t) = .func (.yield l0) #[] #[] := hY t ht
    refine ⟨fun _ _ => trivial, ?_⟩
    rw [show (Fr none).round = none from rfl, Oper.semAt_none]
    have hex : (execOp a.eval o).run P W = .ok (.value (.func (.yield l0) #[] #[])) W := by
     unfold execOp; rw [hop]; simp only; rw [hv]; rfl
    rw [hex, Oper.uponIn_value]
    exact ZdX F hR l _ s _ pe T' s' ys' pe' h ho ι _ W Q (hT.put hd (VR.glob rfl)) (hY.add hT.1 hd) I hf hQ
   | false =>
    rw [hm] at h
    simp only [cond_false] at h
    split at h
    ·rename_i v s1 hv
     have u1 := (ZaT (P := P) (ext := ext) (fun f g hg => (F.hp f g hg).up) fu).2.2.1 _ _ _ _ _ hv
     have u2 := Zej F _ _ _ _ _ _ _ _ _ h
     refine Zis (r := none) (Q0 := fun _ _ _ => False) (fun _ _ _ _ h => h) hnd ((ZbD F fu).2.2.1 (opnd T) (Za2 a) o s v s1 hv (ZR u2.ob ho) ι W hT.opnd I.st.emb (hf.mono (Nat.le_refl _) u2.n) a _ _ (ZdG (ZfD hv) hgo).symm fun v' w' ι' g1 g2 g3 => ?_)
     exact ZdX F hR l _ s1 _ pe T' s' ys' pe' h ho ι' _ w' Q ((hT.on g1.ext).put hd g3) (hY.drop hT.1 hd _) (I.step g1 g2 u1.n) (hf.after g2 u1.n) fun ι2 a2 W2 k1 k2 k3 k4 => hQ ι2 a2 W2 k1 k2 k3 (g2.trans k4 u1.n u2.n)
    ·cases h
end
end
end Ev
end Go.Proofs.YtifdgbbbojccdaaGreat
/- Ranges over functions: the iterator, the statement. -/
namespace Go.Proofs.YtifdgbbbojccdaaGreat
open Go.RowKit
namespace Ev
section
variable {P : Program} {ext : FuncId → Option Ext}
section
variable {ι0 : Ren} {h0 : AH} {w0 : World} {n0 : Nat} {ac : Act} {l0 K : Nat} {R : Loop} {cx : Cx}
def ZhP (P : Program) (ι0 : Ren) (h0 : AH) (w0 : World) (n0 : Nat) (cx : Cx) (ac : Act) (l0 K : Nat) (R : Loop) (nt : Nat) (ι : Ren) (s : St) (e : Ex) (T' : Tr Value) (s' : St) (ys' : List Tmp) (pe' : Option Ex) (ex : Exit) (a' : Act) (W' : World) : Prop :=
 ex = e.out ∧ ∃ ι', TR ι' nt [] T' a' ∧ YS l0 ys' a' ∧ IS P ι0 h0 w0 n0 cx.nt cx.T ac l0 K (Rp R pe') ι' s' W' ∧ Dom ι ι' s.n s'.n
theorem ZnD (F : Fit P ext) (hR : R.tmps = ac.tmps ∧ R.params = cx.ps ∧ R.assign = cx.asg ∧ R.body = cx.body) {nt : Nat} : ∀ fu : Nat,
  (∀ c T s ys pe e T' s' ys' pe', evI P ext nt cx fu c T s ys pe = some (e, T', s', ys', pe') → (∀ p ∈ s'.ob, p.1 = p.2) → ∀ ι a W, TR ι nt [] T a → YS l0 ys a → IS P ι0 h0 w0 n0 cx.nt cx.T ac l0 K (Rp R pe) ι s W → Fresh ι s.n s'.n →
   c.wpIn (Fr none) 0 P (ZhP P ι0 h0 w0 n0 cx ac l0 K R nt ι s e T' s' ys' pe') a W) ∧
  (∀ c T s ys pe e T' s' ys' pe', evI P ext nt cx fu (.loop c) T s ys pe = some (e, T', s', ys', pe') → (∀ p ∈ s'.ob, p.1 = p.2) → ∀ ι a W, TR ι nt [] T a → YS l0 ys a → IS P ι0 h0 w0 n0 cx.nt cx.T ac l0 K (Rp R pe) ι s W → Fresh ι s.n s'.n →
   Code.roundsIn (Fr none) 0 P c (ZhP P ι0 h0 w0 n0 cx ac l0 K R nt ι s e T' s' ys' pe') fu a W) := by
 intro fu
 induction fu with
 | zero => exact ⟨fun _ _ _ _ _ _ _ _ _ _ h => by simp [evI] at h, fun _ _ _ _ _ _ _ _ _ _ h => by simp [evI] at h⟩
 | succ fu ih =>
  obtain ⟨ihC, ihL⟩ := ih
  have two : ∀ {ι ι1 : Ren} {s s1 s' : St} {e : Ex} {T' : Tr Value} {ys' : List Tmp} {pe' : Option Ex}, Dom ι ι1 s.n s1.n → s.n ≤ s1.n → s1.n ≤ s'.n → ∀ ex a W, ZhP P ι0 h0 w0 n0 cx ac l0 K R nt ι1 s1 e T' s' ys' pe' ex a W → ZhP P ι0 h0 w0 n0 cx ac l0 K R nt ι s e T' s' ys' pe' ex a W :=
   fun hd h1 h2 ex a W ⟨hx, ι', k1, k2, k3, k4⟩ => ⟨hx, ι', k1, k2, k3, hd.trans k4 h1 h2⟩
  have loops : ∀ c T s ys pe e T' s' ys' pe', evI P ext nt cx (fu + 1) (.loop c) T s ys pe = some (e, T', s', ys', pe') → (∀ p ∈ s'.ob, p.1 = p.2) → ∀ ι a W, TR ι nt [] T a → YS l0 ys a → IS P ι0 h0 w0 n0 cx.nt cx.T ac l0 K (Rp R pe) ι s W → Fresh ι s.n s'.n →
    Code.roundsIn (Fr none) 0 P c (ZhP P ι0 h0 w0 n0 cx ac l0 K R nt ι s e T' s' ys' pe') (fu + 1) a W := by
   intro x T s ys pe e T' s' ys' pe' h ho ι a W hT hY I hf
   simp only [evI] at h
   rw [roundsIn_succ]
   split at h
   ·rename_i T1 s1 ys1 pe1 h1
    have u1 := Zb5 F fu _ _ _ _ _ _ _ _ _ _ h1
    have u2 := Zb5 F fu _ _ _ _ _ _ _ _ _ _ h
    refine wpIn_mono (ihC x T s ys pe .normal T1 s1 ys1 pe1 h1 (ZR u2.ob ho) ι a W hT hY I (hf.mono (Nat.le_refl _) u2.n)) ?_
    rintro ex a1 w1 ⟨rfl, ι1, g1, g2, g3, g4⟩
    exact ZdP (two g4 u1.n u2.n) fu a1 w1 (ihL x T1 s1 ys1 pe1 e T' s' ys' pe' h ho ι1 a1 w1 g1 g2 g3 (hf.after g4 u1.n))
   ·rename_i i r h1
    injection h with h; simp only [Prod.mk.injEq] at h; obtain ⟨rfl, rfl⟩ := h
    refine wpIn_mono (ihC x T s ys pe _ _ _ _ _ h1 ho ι a W hT hY I hf) ?_
    rintro ex a1 w1 ⟨rfl, hq⟩
    exact ⟨rfl, hq⟩
   ·rename_i r h1
    injection h with h; simp only [Prod.mk.injEq] at h; obtain ⟨rfl, rfl⟩ := h
    refine wpIn_mono (ihC x T s ys pe _ _ _ _ _ h1 ho ι a W hT hY I hf) ?_
    rintro ex a1 w1 ⟨rfl, hq⟩
    exact ⟨rfl, hq⟩
   ·cases h
  refine ⟨fun c T s ys pe e T' s' ys' pe' h ho ι a W hT hY I hf => ?_, loops⟩
  have h0' := h
  cases c <;> simp only [evI] at h
  case skip => injection h with h; simp only [Prod.mk.injEq] at h; obtain ⟨rfl, rfl, rfl, rfl, rfl⟩ := h; exact wpIn_skip ⟨rfl, ι, hT, hY, I, Dom.refl⟩
  case ret => injection h with h; simp only [Prod.mk.injEq] at h; obtain ⟨rfl, rfl, rfl, rfl, rfl⟩ := h; exact wpIn_ret ⟨rfl, ι, hT, hY, I, Dom.refl⟩
  case exit id => injection h with h; simp only [Prod.mk.injEq] at h; obtain ⟨rfl, rfl, rfl, rfl, rfl⟩ := h; exact wpIn_exit ⟨rfl, ι, hT, hY, I, Dom.refl⟩
  case seq x y =>
   split at h
   ·rename_i T1 s1 ys1 pe1 h1
    have u1 := Zb5 F fu _ _ _ _ _ _ _ _ _ _ h1
    have u2 := Zb5 F fu _ _ _ _ _ _ _ _ _ _ h
    refine wpIn_seq (wpIn_mono (ihC x T s ys pe .normal T1 s1 ys1 pe1 h1 (ZR u2.ob ho) ι a W hT hY I (hf.mono (Nat.le_refl _) u2.n)) ?_)
    rintro ex a1 w1 ⟨rfl, ι1, g1, g2, g3, g4⟩
    exact wpIn_mono (ihC y T1 s1 ys1 pe1 e T' s' ys' pe' h ho ι1 a1 w1 g1 g2 g3 (hf.after g4 u1.n)) (two g4 u1.n u2.n)
   ·rename_i i r h1
    injection h with h; simp only [Prod.mk.injEq] at h; obtain ⟨rfl, rfl⟩ := h
    refine wpIn_seq (wpIn_mono (ihC x T s ys pe _ _ _ _ _ h1 ho ι a W hT hY I hf) ?_)
    rintro ex a1 w1 ⟨rfl, hq⟩
    exact ⟨rfl, hq⟩
   ·rename_i r h1
    injection h with h; simp only [Prod.mk.injEq] at h; obtain ⟨rfl, rfl⟩ := h
    refine wpIn_seq (wpIn_mono (ihC x T s ys pe _ _ _ _ _ h1 ho ι a W hT hY I hf) ?_)
    rintro ex a1 w1 ⟨rfl, hq⟩
    exact ⟨rfl, hq⟩
   ·cases h
  case cond x y z =>
   split at h
   ·rename_i t ht
    have hx : a.eval x = .bool t := Zc1 ((ht ▸ hT.opnd x : VR ι (.bool t) (Za2 a x)).bool_inv)
    split at h
    ·exact wpIn_cond_true hx (ihC y T s ys pe e T' s' ys' pe' h ho ι a W hT hY I hf)
    ·exact wpIn_cond_false hx (ihC z T s ys pe e T' s' ys' pe' h ho ι a W hT hY I hf)
   ·cases h
  case block id x =>
   split at h
   ·rename_i i r h1
    cases hb : Nat.beq i id with
    | true =>
     rw [hb] at h
     injection h with h; simp only [Prod.mk.injEq] at h; obtain ⟨rfl, rfl⟩ := h
     refine wpIn_block (wpIn_mono (ihC x T s ys pe _ _ _ _ _ h1 ho ι a W hT hY I hf) ?_)
     rintro ex a1 w1 ⟨rfl, hq⟩
     show if i = id then _ else _
     rw [if_pos (Nat.eq_of_beq_eq_true hb)]
     exact ⟨rfl, hq⟩
    | false =>
     rw [hb] at h
     injection h with h; simp only [Prod.mk.injEq] at h; obtain ⟨rfl, rfl⟩ := h
     refine wpIn_block (wpIn_mono (ihC x T s ys pe _ _ _ _ _ h1 ho ι a W hT hY I hf) ?_)
     rintro ex a1 w1 ⟨rfl, hq⟩
     show if i = id then _ else _
     rw [if_neg (fun e => by rw [Zdr e] at hb; cases hb)]
     exact ⟨rfl, hq⟩
   ·rename_i r h1
    injection h with h; simp only [Prod.mk.injEq] at h; obtain ⟨rfl, rfl⟩ := h
    refine wpIn_block (wpIn_mono (ihC x T s ys pe _ _ _ _ _ h1 ho ι a W hT hY I hf) ?_)
    rintro ex a1 w1 ⟨rfl, hq⟩
    exact ⟨rfl, hq⟩
   ·rename_i r h1
    injection h with h; simp only [Prod.mk.injEq] at h; obtain ⟨rfl, rfl⟩ := h
    refine wpIn_block (wpIn_mono (ihC x T s ys pe _ _ _ _ _ h1 ho ι a W hT hY I hf) ?_)
    rintro ex a1 w1 ⟨rfl, hq⟩
    exact ⟨rfl, hq⟩
   ·cases h
  case loop x => exact wpIn_loop_rounds (fu + 1) (loops x T s ys pe e T' s' ys' pe' h0' ho ι a W hT hY I hf)
  case region id ops draw =>
   split at h
   ·cases h
   ·split at h
    ·rename_i T1 s1 ys1 pe1 h1
     injection h with h; simp only [Prod.mk.injEq] at h; obtain ⟨rfl, rfl, rfl, rfl, rfl⟩ := h
     exact wpIn_region_list (ZdX F hR ops.toList T s ys pe T1 s1 ys1 pe1 h1 ho ι a W _ hT hY I hf fun ι' a' W' k1 k2 k3 k4 => ⟨rfl, ι', k1, k2, k3, k4⟩)
    ·cases h
  all_goals cases h
end
def Mk (b : Nat) (m : Bool) (D : List Deferred) (ι : Ren) (w : World) : Prop := match m with
 | false => D = []
 | true => ∃ K, b ≤ K ∧ D = [{ target := .collected K, args := #[] }] ∧ w.heap[K]? = some (.deferred (some [])) ∧ ∀ k b, ι k = some b → b.1 ≠ K
theorem Mk.step {b : Nat} {m : Bool} {D : List Deferred} {ι ι1 : Ren} {h h1 : AH} {w w1 : World} (hm : Mk b m D ι w) (g : Step P ι h w ι1 h1 w1) : Mk b m D ι1 w1 := by
 cases m with
 | false => exact hm
 | true =>
  obtain ⟨K, hb, e, hk, hn⟩ := hm
  obtain ⟨a1, a2⟩ := Zht g (Array.getElem?_eq_some_iff.1 hk).1 hn
  exact ⟨K, hb, e, a2.trans hk, a1⟩
def ZfH (b : Nat) (P : Program) (ι : Ren) (s : St) (w : World) (nt : Nat) (e : Ex) (T' : Tr Value) (s' : St) (m' : Bool) (ex : Exit) (a' : Act) (w' : World) : Prop :=
 ex = e.out ∧ ∃ ι' D', Step P ι s.h.get w ι' s'.h.get w' ∧ Dom ι ι' s.n s'.n ∧ TR ι' nt D' T' a' ∧ Mk b m' D' ι' w'
theorem up_rf (F : Fit P ext) {nt fu : Nat} {g : Operand} {ps : Array Tmp} {asg body : Code} {T : Tr Value} {s s' : St} {e : Ex} (h : ZjU P ext nt fu g ps asg body T s = some (e, s')) : Up s s' := by
 unfold ZjU at h
 split at h
 ·split at h
  ·split at h
   ·obtain ⟨_, h⟩ := Zd h
    split at h
    ·cases h
    ·rename_i h1; injection h with h; injection h with q1 q2; subst q2; exact Zb5 F _ _ _ _ _ _ _ _ _ _ _ h1
    ·rename_i h1; obtain ⟨_, h⟩ := ZfB h; injection h with h; injection h with q1 q2; subst q2; exact Zb5 F _ _ _ _ _ _ _ _ _ _ _ h1
    ·cases h
   ·cases h
  ·cases h
 ·cases h
theorem ZmT (F : Fit P ext) {nt fu : Nat} {g : Operand} {ps : Array Tmp} {asg body : Code} {T : Tr Value} {s s' : St} {e : Ex} (h : ZjU P ext nt fu g ps asg body T s = some (e, s')) (ho : ∀ p ∈ s'.ob, p.1 = p.2) {b : Nat} {ι : Ren} {a : Act} {w : World} (hbw : b ≤ w.heap.size)
  (hT : TR ι nt [] T a) (he : Emb P ι s.h.get w) (hf : Fresh ι s.n s'.n) : (Code.rangeFunc g ps asg body).wpIn (Fr none) 0 P (ZfH b P ι s w nt e T s' true) a w := by
 unfold ZjU at h
 split at h
 ·rename_i gf av bv hg
  split at h
  ·rename_i fn hfn
   split at h
   ·rename_i c hb
    obtain ⟨hgd, h⟩ := Zd h
    simp only [Bool.and_eq_true] at hgd
    obtain ⟨⟨hgd, hsz⟩, hres⟩ := hgd
    have hsz := Nat.le_of_ble_eq_true hsz
    have hres := Nat.eq_of_beq_eq_true hres
    have key : ∃ e0 T1 ys1 pe, evI P ext fn.ntmps ⟨nt, T, ps, asg, body⟩ fu c (Zcz 0 (av ++ #[Value.chan (some 0)] ++ bv).toList .nil) s [av.size] none = some (e0, T1, s', ys1, pe) ∧ (e0 = .normal ∨ e0 = .ret) ∧ e = (match pe with | none => .normal | some e => e) ∧ (∀ e1, pe = some e1 → isN e1 = false) := by
     split at h
     ·cases h
     ·rename_i e0 T1 s1 ys1 hne h1
      injection h with h; injection h with q1 q2; subst q1 q2
      refine ⟨e0, T1, ys1, none, h1, ?_, rfl, fun e1 he => by cases he⟩
      cases e0 with
      | normal => exact .inl rfl
      | ret => exact .inr rfl
      | exit i => exact (hne i rfl).elim
     ·rename_i e0 T1 s1 ys1 e1 hne h1
      obtain ⟨hn1, h⟩ := ZfB h
      injection h with h; injection h with q1 q2; subst q1 q2
      refine ⟨e0, T1, ys1, some e1, h1, ?_, rfl, fun e2 he => by injection he with he; rw [← he]; exact hn1⟩
      cases e0 with
      | normal => exact .inl rfl
      | ret => exact .inr rfl
      | exit i => exact (hne i rfl).elim
     ·cases h
    obtain ⟨e0, T1, ys1, pe, h1, he0, hepe, hnn⟩ := key
    have hgv : ∃ av' bv', Za2 a g = .func (.func gf) av' bv' ∧ VRs ι av av' ∧ VRs ι bv bv' := by
     have hv := hg ▸ hT.opnd g
     generalize Za2 a g = x' at hv
     cases hv with
     | atom h =>
      simp [Ev.atom] at h
      obtain ⟨rfl, rfl⟩ := h
      exact ⟨_, _, rfl, ⟨rfl, fun i x y hx => by simp at hx⟩, ⟨rfl, fun i x y hx => by simp at hx⟩⟩
     | func hs ht h1 h2 => exact ⟨_, _, rfl, ⟨hs, h1⟩, ⟨ht, h2⟩⟩
    obtain ⟨av', bv', hgv, hav, hbv⟩ := hgv
    have hgv : a.eval g = .func (.func gf) av' bv' := by
     cases g with
     | const v => simp only [ZcE] at hgd; simpa [Za2, hgd, Act.eval] using hgv
     | _ => exact hgv
    refine wpIn_rangeFunc ?_
    intro fn0 _
    obtain ⟨R, hRd⟩ : ∃ R : Loop, R = { state := .ready, pending := none, fn := fn0, tmps := a.tmps, params := ps, assign := asg, body, defers := w.heap.size } := ⟨_, rfl⟩
    obtain ⟨W1, hW1⟩ : ∃ W1, (w.alloc (.deferred (some []))).alloc (.loop R) = W1 := ⟨_, rfl⟩
    have hL1 : W1.heap[w.heap.size + 1]? = some (.loop (Rp R none)) := by
     rw [show Rp R none = R by rw [hRd]; rfl]
     rw [← hW1]; have := World.alloc_heap_new (w.alloc (.deferred (some []))) (.loop R); rwa [World.size_alloc] at this
    have hK1 : W1.heap[w.heap.size]? = some (.deferred (some [])) := by
     rw [← hW1]; exact (Below.heap_alloc _ _ _ (by simp)).trans (World.alloc_heap_new w _)
    have hb1 : Below w.heap.size w W1 := by
     rw [← hW1]; exact ((Below.refl _ w).alloc (Nat.le_refl _) _).alloc (by simp) _
    have I1 : IS P ι s.h.get w s.n nt T a (w.heap.size + 1) w.heap.size (Rp R none) ι s W1 :=
     ⟨Step.below he hb1, Dom.refl, Nat.le_refl _, ⟨hT.1, rfl, hT.2.2⟩, hL1, hK1, by omega, by omega, fun k b hk => by have := he.lt k b hk; omega⟩
    have hargs : VRs ι (av ++ #[Value.chan (some 0)] ++ bv) (av' ++ #[Value.func (.yield (w.heap.size + 1)) #[] #[]] ++ bv') :=
     ZbK (ZbK hav ⟨rfl, fun i x y hx hy => by
      cases i with
      | zero => simp at hx hy; rw [← hx, ← hy]; exact .glob rfl
      | succ i => simp at hx⟩) hbv
    refine ⟨w.heap.size + 1, [{ target := .collected w.heap.size, args := #[] }], W1, { target := .fn (.func gf) bv', args := av' ++ #[.func (.yield (w.heap.size + 1)) #[] #[]] }, W1, gf,
     av' ++ #[.func (.yield (w.heap.size + 1)) #[] #[]] ++ bv', W1, ?_, ?_, fun _ _ => trivial, ?_, fun e => (by cases e), ?_⟩
    ·rw [← hW1, hRd]; exact run_enterLoop_outer _ _ _ _ _
    ·simp only [resolve, hgv]
     simp [go_sem, Deferred.ofValue]
    ·simp [invoke, Zbb hfn (F.go gf fn hfn) hb]
    ·refine callsIn_of_wp_marks hfn hb trivial ?_
     refine wpIn_mono ((ZnD (R := R) (cx := ⟨nt, T, ps, asg, body⟩) (ac := a) F ⟨by rw [hRd], by rw [hRd], by rw [hRd], by rw [hRd]⟩ fu).1 c _ s _ none e0 T1 s' ys1 pe h1 ho ι _ W1 (Zeg hargs hsz) ?_ I1 hf) ?_
     ·intro t ht
      rw [List.mem_singleton] at ht
      subst ht
      have hs := hav.1
      rw [Array.getD_eq_getD_getElem?, Array.getElem?_append_left (by simp; omega), Array.getElem?_append_left (by simp; omega), Array.getElem?_append_right (by omega)]
      simp [hs]
     ·rintro ex a2 w2 ⟨rfl, ι2, g1, _, I2, g4⟩
      have hr := run_endLoop (P := P) I2.lo (by cases pe <;> simp [Rp])
      have I3 := I2.put { Rp R pe with state := .exhausted }
      have hr2 : ∃ v', (results fn a2.tmps).run P w2 = .ok v' w2 := by
       have hnil : fn.results.toList = [] := List.eq_nil_of_length_eq_zero hres
       obtain ⟨v', q, _⟩ := Zbt (fn := fn) (v := .tuple #[]) g1 I2.st.emb (by rw [hnil]; rfl)
       exact ⟨v', q⟩
      obtain ⟨v', hrun⟩ := hr2
      have fin : LeavesInM (Fr none) (0 - 1) P fn a2.tmps (rangePost (Fr none) 0 P (w.heap.size + 1) (ZfH b P ι s w nt e T s' true) { a with defers := [{ target := .collected w.heap.size, args := #[] }] ++ a.defers }) a2.defers .returning w2 := by
       rw [g1.2.1]
       refine ⟨v', hrun, _, _, hr, ?_⟩
       have post : ZfH b P ι s w nt e T s' true e.out { a with defers := [{ target := .collected w.heap.size, args := #[] }] ++ a.defers } (w2.putObj (w.heap.size + 1) (.loop { Rp R pe with state := .exhausted })) := by
        refine ⟨rfl, ι2, _, I3.st, I3.dm, ⟨I3.tr.1, rfl, I3.tr.2.2⟩, w.heap.size, hbw, ?_, I3.de, fun k b hk => (I3.nl k b hk).2⟩
        rw [hT.2.1]; rfl
       cases pe with
       | none => rw [hepe] at post ⊢; exact post
       | some e1 =>
        cases e1 with
        | normal => exact absurd (hnn _ rfl) (by simp [isN])
        | ret => rw [hepe] at post ⊢; exact wpIn_ret post
        | exit i => rw [hepe] at post ⊢; exact wpIn_exit post
      rcases he0 with rfl | rfl
      ·exact fin
      ·exact fin
   ·cases h
  ·cases h
 ·cases h
end
end Ev
end Go.Proofs.YtifdgbbbojccdaaGreat
/- Functions with a range over a function do what the runner says of them. -/
namespace Go.Proofs.YtifdgbbbojccdaaGreat
open Go.RowKit
namespace Ev
section
variable {P : Program} {ext : FuncId → Option Ext}
theorem Zdx (F : Fit P ext) {nt : Nat} : ∀ (fu : Nat) (c : Code) (T : Tr Value) (s : St) (m : Bool) (e : Ex) (T' : Tr Value) (s' : St) (m' : Bool), evR P ext nt fu c T s m = some (e, T', s', m') → Up s s'
 | 0, _, _, _, _, _, _, _, _, h => by simp [evR] at h
 | fu + 1, c, T, s, m, e, T', s', m', h => by
  have upC := (ZaT (P := P) (ext := ext) (fun f g hg => (F.hp f g hg).up) (fu + 1)).1
  cases c <;> simp only [evR] at h
  case skip => injection h with h; simp only [Prod.mk.injEq] at h; obtain ⟨rfl, rfl, rfl, rfl⟩ := h; exact Up.refl _
  case ret => injection h with h; simp only [Prod.mk.injEq] at h; obtain ⟨rfl, rfl, rfl, rfl⟩ := h; exact Up.refl _
  case exit id => injection h with h; simp only [Prod.mk.injEq] at h; obtain ⟨rfl, rfl, rfl, rfl⟩ := h; exact Up.refl _
  case seq x y =>
   split at h
   ·rename_i T1 s1 m1 h1; exact (Zdx F fu _ _ _ _ _ _ _ _ h1).trans (Zdx F fu _ _ _ _ _ _ _ _ h)
   ·rename_i i r h1; injection h with h; simp only [Prod.mk.injEq] at h; obtain ⟨rfl, rfl⟩ := h; exact Zdx F fu _ _ _ _ _ _ _ _ h1
   ·rename_i r h1; injection h with h; simp only [Prod.mk.injEq] at h; obtain ⟨rfl, rfl⟩ := h; exact Zdx F fu _ _ _ _ _ _ _ _ h1
   ·cases h
  case cond x y z =>
   split at h
   ·split at h
    ·exact Zdx F fu _ _ _ _ _ _ _ _ h
    ·exact Zdx F fu _ _ _ _ _ _ _ _ h
   ·cases h
  case block id x =>
   split at h
   ·rename_i i r h1
    cases hb : Nat.beq i id with
    | true => rw [hb] at h; injection h with h; simp only [Prod.mk.injEq] at h; obtain ⟨rfl, rfl⟩ := h; exact Zdx F fu _ _ _ _ _ _ _ _ h1
    | false => rw [hb] at h; injection h with h; simp only [Prod.mk.injEq] at h; obtain ⟨rfl, rfl⟩ := h; exact Zdx F fu _ _ _ _ _ _ _ _ h1
   ·rename_i r h1; injection h with h; simp only [Prod.mk.injEq] at h; obtain ⟨rfl, rfl⟩ := h; exact Zdx F fu _ _ _ _ _ _ _ _ h1
   ·rename_i r h1; injection h with h; simp only [Prod.mk.injEq] at h; obtain ⟨rfl, rfl⟩ := h; exact Zdx F fu _ _ _ _ _ _ _ _ h1
   ·cases h
  case rangeFunc g ps asg body =>
   obtain ⟨_, h⟩ := ZfB h
   split at h
   ·rename_i e1 s1 h1
    injection h with h; simp only [Prod.mk.injEq] at h; obtain ⟨rfl, rfl, rfl, rfl⟩ := h
    exact up_rf F h1
   ·cases h
  case region id ops draw =>
   split at h
   ·rename_i e1 T1 s1 h1
    injection h with h; simp only [Prod.mk.injEq] at h; obtain ⟨rfl, rfl, rfl, rfl⟩ := h
    exact upC _ _ _ _ _ _ _ h1
   ·cases h
  case loop x =>
   split at h
   ·rename_i e1 T1 s1 h1
    injection h with h; simp only [Prod.mk.injEq] at h; obtain ⟨rfl, rfl, rfl, rfl⟩ := h
    exact upC _ _ _ _ _ _ _ h1
   ·cases h
  all_goals cases h
theorem Zb6 (F : Fit P ext) {nt : Nat} : ∀ (fu : Nat) (c : Code) (T : Tr Value) (s : St) (m : Bool) (e : Ex) (T' : Tr Value) (s' : St) (m' : Bool), evR P ext nt fu c T s m = some (e, T', s', m') → (∀ p ∈ s'.ob, p.1 = p.2) →
  ∀ b ι D a w, b ≤ w.heap.size → TR ι nt D T a → Mk b m D ι w → Emb P ι s.h.get w → Fresh ι s.n s'.n → c.wpIn (Fr none) 0 P (ZfH b P ι s w nt e T' s' m') a w
 | 0, _, _, _, _, _, _, _, _, h => by simp [evR] at h
 | fu + 1, c, T, s, m, e, T', s', m', h => by
  intro ho b ι D a w hbw hT hM he hf
  have code : ∀ {c : Code} {e1 : Ex} {T1 : Tr Value} {s1 : St}, Z7 P ext nt (fu + 1) c T s = some (e1, T1, s1) → (∀ p ∈ s1.ob, p.1 = p.2) → Fresh ι s.n s1.n → c.wpIn (Fr none) 0 P (ZfH b P ι s w nt e1 T1 s1 m) a w := fun h1 ho1 hf1 => by
   refine (wpIn_wide (n := 0)).2 (wp_mono ((ZbD F (fu + 1)).1 nt _ T s _ _ _ h1 ho1 ι D a w hT he hf1) ?_)
   rintro ex a1 w1 ⟨rfl, ι1, g1, g2, g3⟩
   exact ⟨rfl, ι1, D, g1, g2, g3, hM.step g1⟩
  have two : ∀ {ι1 : Ren} {s1 : St} {w1 : World}, Step P ι s.h.get w ι1 s1.h.get w1 → Dom ι ι1 s.n s1.n → s.n ≤ s1.n → s1.n ≤ s'.n → ∀ ex a W, ZfH b P ι1 s1 w1 nt e T' s' m' ex a W → ZfH b P ι s w nt e T' s' m' ex a W :=
   fun hS hd h1 h2 ex a W ⟨hx, ι', D', k1, k2, k3, k4⟩ => ⟨hx, ι', D', hS.trans k1, hd.trans k2 h1 h2, k3, k4⟩
  cases c <;> simp only [evR] at h
  case skip => injection h with h; simp only [Prod.mk.injEq] at h; obtain ⟨rfl, rfl, rfl, rfl⟩ := h; exact wpIn_skip ⟨rfl, ι, D, Step.refl he, Dom.refl, hT, hM⟩
  case ret => injection h with h; simp only [Prod.mk.injEq] at h; obtain ⟨rfl, rfl, rfl, rfl⟩ := h; exact wpIn_ret ⟨rfl, ι, D, Step.refl he, Dom.refl, hT, hM⟩
  case exit id => injection h with h; simp only [Prod.mk.injEq] at h; obtain ⟨rfl, rfl, rfl, rfl⟩ := h; exact wpIn_exit ⟨rfl, ι, D, Step.refl he, Dom.refl, hT, hM⟩
  case seq x y =>
   split at h
   ·rename_i T1 s1 m1 h1
    have u1 := Zdx F fu _ _ _ _ _ _ _ _ h1
    have u2 := Zdx F fu _ _ _ _ _ _ _ _ h
    refine wpIn_seq (wpIn_mono (Zb6 F fu x T s m .normal T1 s1 m1 h1 (ZR u2.ob ho) b ι D a w hbw hT hM he (hf.mono (Nat.le_refl _) u2.n)) ?_)
    rintro ex a1 w1 ⟨rfl, ι1, D1, g1, g2, g3, g4⟩
    exact wpIn_mono (Zb6 F fu y T1 s1 m1 e T' s' m' h ho b ι1 D1 a1 w1 (Nat.le_trans hbw g1.size) g3 g4 g1.emb (hf.after g2 u1.n)) (two g1 g2 u1.n u2.n)
   ·rename_i i r h1
    injection h with h; simp only [Prod.mk.injEq] at h; obtain ⟨rfl, rfl⟩ := h
    refine wpIn_seq (wpIn_mono (Zb6 F fu x T s m _ _ _ _ h1 ho b ι D a w hbw hT hM he hf) ?_)
    rintro ex a1 w1 ⟨rfl, hq⟩
    exact ⟨rfl, hq⟩
   ·rename_i r h1
    injection h with h; simp only [Prod.mk.injEq] at h; obtain ⟨rfl, rfl⟩ := h
    refine wpIn_seq (wpIn_mono (Zb6 F fu x T s m _ _ _ _ h1 ho b ι D a w hbw hT hM he hf) ?_)
    rintro ex a1 w1 ⟨rfl, hq⟩
    exact ⟨rfl, hq⟩
   ·cases h
  case cond x y z =>
   split at h
   ·rename_i t ht
    have hx : a.eval x = .bool t := Zc1 ((ht ▸ hT.opnd x : VR ι (.bool t) (Za2 a x)).bool_inv)
    split at h
    ·exact wpIn_cond_true hx (Zb6 F fu y T s m e T' s' m' h ho b ι D a w hbw hT hM he hf)
    ·exact wpIn_cond_false hx (Zb6 F fu z T s m e T' s' m' h ho b ι D a w hbw hT hM he hf)
   ·cases h
  case block id x =>
   split at h
   ·rename_i i r h1
    cases hb : Nat.beq i id with
    | true =>
     rw [hb] at h
     injection h with h; simp only [Prod.mk.injEq] at h; obtain ⟨rfl, rfl⟩ := h
     refine wpIn_block (wpIn_mono (Zb6 F fu x T s m _ _ _ _ h1 ho b ι D a w hbw hT hM he hf) ?_)
     rintro ex a1 w1 ⟨rfl, hq⟩
     show if i = id then _ else _
     rw [if_pos (Nat.eq_of_beq_eq_true hb)]
     exact ⟨rfl, hq⟩
    | false =>
     rw [hb] at h
     injection h with h; simp only [Prod.mk.injEq] at h; obtain ⟨rfl, rfl⟩ := h
     refine wpIn_block (wpIn_mono (Zb6 F fu x T s m _ _ _ _ h1 ho b ι D a w hbw hT hM he hf) ?_)
     rintro ex a1 w1 ⟨rfl, hq⟩
     show if i = id then _ else _
     rw [if_neg (fun e => by rw [Zdr e] at hb; cases hb)]
     exact ⟨rfl, hq⟩
   ·rename_i r h1
    injection h with h; simp only [Prod.mk.injEq] at h; obtain ⟨rfl, rfl⟩ := h
    refine wpIn_block (wpIn_mono (Zb6 F fu x T s m _ _ _ _ h1 ho b ι D a w hbw hT hM he hf) ?_)
    rintro ex a1 w1 ⟨rfl, hq⟩
    exact ⟨rfl, hq⟩
   ·rename_i r h1
    injection h with h; simp only [Prod.mk.injEq] at h; obtain ⟨rfl, rfl⟩ := h
    refine wpIn_block (wpIn_mono (Zb6 F fu x T s m _ _ _ _ h1 ho b ι D a w hbw hT hM he hf) ?_)
    rintro ex a1 w1 ⟨rfl, hq⟩
    exact ⟨rfl, hq⟩
   ·cases h
  case rangeFunc g ps asg body =>
   obtain ⟨hm, h⟩ := ZfB h
   split at h
   ·rename_i e1 s1 h1
    injection h with h; simp only [Prod.mk.injEq] at h; obtain ⟨rfl, rfl, rfl, rfl⟩ := h
    subst hm
    obtain rfl : D = [] := hM
    exact ZmT F h1 ho hbw hT he hf
   ·cases h
  case region id ops draw =>
   split at h
   ·rename_i e1 T1 s1 h1
    injection h with h; simp only [Prod.mk.injEq] at h; obtain ⟨rfl, rfl, rfl, rfl⟩ := h
    exact code h1 ho hf
   ·cases h
  case loop x =>
   split at h
   ·rename_i e1 T1 s1 h1
    injection h with h; simp only [Prod.mk.injEq] at h; obtain ⟨rfl, rfl, rfl, rfl⟩ := h
    exact code h1 ho hf
   ·cases h
  all_goals cases h
theorem ZdY (F : Fit P ext) {fu : Nat} {f : FuncId} {fn : Func} {c : Code} (hfn : P.funcs[f]? = some fn) (hb : fn.body = some c) : Zim P f (Zdw P ext fu f) := by
 refine ⟨⟨fn, c, hfn, hb⟩, fun args s v s' h => ?_, fun args s v s' h ho ι w args' ha he hf => ?_⟩
 ·unfold Zdw at h
  rw [hfn] at h
  simp only [hb] at h
  replace h := (Zd h).2
  split at h
  ·cases h
  ·rename_i h1
   have u := Zdx F fu _ _ _ _ _ _ _ _ h1
   split at h
   ·injection h with h; injection h with q1 q2; subst q2; exact u
   ·injection h with h; injection h with q1 q2; subst q2; exact u
   ·cases h
  ·cases h
 ·unfold Zdw at h
  rw [hfn] at h
  simp only [hb] at h
  obtain ⟨hsz, h⟩ := Zd h
  have hle : args.size ≤ fn.ntmps := Nat.le_of_ble_eq_true hsz
  split at h
  ·cases h
  ·rename_i ex T1 s1 m1 hne h1
   have hs : s' = s1 ∧ (match Zan P T1 s1 fn.results.toList with | some [v] => some v | some vs => some (.tuple vs.toArray) | none => none) = some v := by
    split at h
    ·rename_i hr; injection h with h; injection h with q1 q2; subst q1 q2; exact ⟨rfl, by first | rw [hr] | rfl⟩
    ·rename_i vs hn hr; injection h with h; injection h with q1 q2; subst q1 q2
     refine ⟨rfl, ?_⟩
     try rw [hr]
     rcases vs with _ | ⟨x, _ | ⟨y, vs⟩⟩
     ·rfl
     ·exact absurd rfl (hn x)
     ·rfl
    ·cases h
   obtain ⟨rfl, hres⟩ := hs
   refine (callsIn_wide (n := 0)).1 (callsIn_of_wp_marks hfn hb trivial (wpIn_mono (Zb6 F fu c _ s false ex T1 s' m1 h1 ho w.heap.size ι [] _ w (Nat.le_refl _) (Zeg ha hle) rfl he hf) ?_))
   rintro e2 a2 w2 ⟨rfl, ι2, D2, g1, g2, g3, g4⟩
   have fin : LeavesInM (Fr none) 0 P fn a2.tmps (ZgI P ι s w v s') a2.defers .returning w2 := by
    rw [g3.2.1]
    cases m1 with
    | false =>
     obtain rfl : D2 = [] := g4
     obtain ⟨v', hrun, hv⟩ := Zbt g3 g1.emb hres
     exact ⟨v', hrun, v', ι2, rfl, g1, g2, hv⟩
    | true =>
     obtain ⟨K, hKw, rfl, hk, hn⟩ := g4
     have g1' := g1.put hKw hn (.deferred none)
     obtain ⟨v', hrun, hv⟩ := Zbt g3 g1'.emb hres
     exact ⟨by simp, .inl ⟨K, _, rfl, run_takeDeferred hk, v', hrun, v', ι2, rfl, g1', g2, hv⟩⟩
   cases ex with
   | normal => exact fin
   | ret => exact fin
   | exit i => exact (hne i rfl).elim
  ·cases h
end
end Ev
end Go.Proofs.YtifdgbbbojccdaaGreat
/- The runner over this program. -/
namespace Go.Proofs.YtifdgbbbojccdaaGreat
open Go.RowKit
namespace Ev

def ZlH : FuncId → Option Ext := fun f =>
   none

theorem noGo : (Tryz.prog.funcs.toList.all fun fn => !(fn.name == "runtime.NumGoroutine")) = true := by kernel_rfl
theorem mixed : Tryz.prog.follows .mixedOrders = true := by kernel_rfl
def Ziu (sp : FuncId → Option (List Value → Option Value)) (hp : FuncId → Option (Array Value → St → Out)) : FuncId → Option Ext := fun f => match ZlH f with
  | some e => some e
  | none => match sp f with
    | some g => some (.fn g)
    | none => match hp f with
      | some g => some (.hp g)
      | none => none
def noHp : FuncId → Option (Array Value → St → Out) := fun _ => none
def extW (sp : FuncId → Option (List Value → Option Value)) : FuncId → Option Ext := Ziu sp noHp
def ZhQ (sp : FuncId → Option (List Value → Option Value)) : Prop := ∀ (f : Nat) (g : List Value → Option Value), sp f = some g → (∃ (fn : Func) (c : Code), Tryz.prog.funcs[f]? = some fn ∧ fn.body = some c) ∧
  ∀ (args : Array Value) (v : Value), Zj ZaU args.toList = true → g args.toList = some v → ∀ w, Calls Tryz.prog f args w fun e w' => e = .returned v ∧ Below w.heap.size w w'
def ZhR (hp : FuncId → Option (Array Value → St → Out)) : Prop := ∀ (f : Nat) (g : Array Value → St → Out), hp f = some g → Zim Tryz.prog f g
theorem ZmU : ZhR noHp := fun f g h => by cases h
theorem Zah {b : Bool} {x e : Ext} {y : Option Ext} (h : (bif b then some x else y) = some e) : (b = true ∧ x = e) ∨ y = some e := by
  cases b with
  | true => exact .inl ⟨rfl, by simpa using h⟩
  | false => exact .inr (by simpa using h)
theorem Zfo {f : Nat} {e : Ext} (he : ZlH f = some e) : (∀ (kk : IntKind) (c : Nat), e = .at kk c → ∃ fn : Func, Tryz.prog.funcs[f]? = some fn ∧ fn.body.isNone = true ∧ Extern.findNext fn = none ∧
    (c = 0 ∧ Extern.find fn = some (Extern.Atomic.loadT (.int kk)) ∨ c = 1 ∧ Extern.find fn = some Extern.Atomic.storeT ∨
     c = 2 ∧ Extern.find fn = some (Extern.Atomic.update (Op.intArith .add) kk true) ∨ c = 3 ∧ Extern.find fn = some (Extern.Atomic.casT (.int kk)))) ∧
    (∀ n : Nat, e = .mark n → ∃ fn : Func, Tryz.prog.funcs[f]? = some fn ∧ fn.body.isNone = true ∧ Extern.findNext fn = none ∧
    (n = 0 ∧ (∃ m : Mark, Extern.find fn = some (fun _ => do mark m; pure Extern.Race.none_)) ∨ n = 1 ∧ ∃ m : Addr → Mark, Extern.find fn = some (Extern.Race.marked m))) ∧ (∀ g, e ≠ .fn g) ∧ (∀ g, e ≠ .hp g) ∧ (∀ S, e ≠ .tc S) := by
  unfold ZlH at he
  cases he
theorem Zdl {sp : FuncId → Option (List Value → Option Value)} {hp : FuncId → Option (Array Value → St → Out)} {f : Nat} {e : Ext} (h : Ziu sp hp f = some e) : ZlH f = some e ∨ (∃ g, sp f = some g ∧ e = .fn g) ∨ ∃ g, hp f = some g ∧ e = .hp g := by
  unfold Ziu at h
  split at h
  · rename_i e' he'
    injection h with h; subst h
    exact .inl he'
  · split at h
    · rename_i g hg
      injection h with h; subst h
      exact .inr (.inl ⟨g, hg, rfl⟩)
    · split at h
      · rename_i g hg
        injection h with h; subst h
        exact .inr (.inr ⟨g, hg, rfl⟩)
      · cases h
theorem ZmV {sp : FuncId → Option (List Value → Option Value)} {hp : FuncId → Option (Array Value → St → Out)} (hsp : ZhQ sp) (hhp : ZhR hp) : Fit Tryz.prog (Ziu sp hp) := by
  refine ⟨mixed, fun f fn hf => ?_, fun f g hg => ?_, fun f g hg => ?_, fun f S hS => ?_, fun f n hn => ?_, fun f kk e he => ?_⟩
  · have := List.all_eq_true.1 noGo fn (by
      obtain ⟨h, rfl⟩ := Array.getElem?_eq_some_iff.1 hf
      simp)
    simpa using this
  · rcases Zdl hg with h | ⟨g', h, hx⟩ | ⟨g', h, hx⟩
    · exact ((Zfo h).2.2.1 g rfl).elim
    · injection hx with hx; subst hx; exact hsp f g h
    · cases hx
  · rcases Zdl hg with h | ⟨g', h, hx⟩ | ⟨g', h, hx⟩
    · exact ((Zfo h).2.2.2.1 g rfl).elim
    · cases hx
    · injection hx with hx; subst hx; exact hhp f g h
  · rcases Zdl hS with h | ⟨g', h, hx⟩ | ⟨g', h, hx⟩
    · exact ((Zfo h).2.2.2.2 S rfl).elim
    · cases hx
    · cases hx
  · rcases Zdl hn with h | ⟨g', h, hx⟩ | ⟨g', h, hx⟩
    · exact (Zfo h).2.1 n rfl
    · cases hx
    · cases hx
  · rcases Zdl he with h | ⟨g', h, hx⟩ | ⟨g', h, hx⟩
    · exact (Zfo h).1 kk e rfl
    · cases hx
    · cases hx
theorem fitW {sp : FuncId → Option (List Value → Option Value)} (hsp : ZhQ sp) : Fit Tryz.prog (extW sp) := ZmV hsp ZmU
def ZlI : FuncId → Option (List Value → Option Value) := fun _ => none
theorem Ziv : ZhQ ZlI := fun f g h => by cases h
def ext1 : FuncId → Option Ext := extW ZlI
theorem fit1 : Fit Tryz.prog ext1 := fitW Ziv
noncomputable def hp0 : FuncId → Option (Array Value → St → Out) := fun f =>
   none
theorem Zms : ZhR hp0 := by
  intro f g h
  unfold hp0 at h
  cases h
noncomputable def ZjW : FuncId → Option Ext := Ziu ZlI hp0
theorem ZlJ : Fit Tryz.prog ZjW := ZmV Ziv Zms
noncomputable def hp1 : FuncId → Option (Array Value → St → Out) := fun f =>
   hp0 f
theorem Zjq {β : Type} {b : Bool} {x e : β} {y : Option β} (h : (bif b then some x else y) = some e) : (b = true ∧ x = e) ∨ y = some e := by
  cases b with
  | true => injection h with h; exact .inl ⟨rfl, h⟩
  | false => exact .inr h
theorem Zoa : ZhR hp1 := by
  intro f g h
  unfold hp1 at h
  exact Zms f g h
noncomputable def ZmW (sp : FuncId → Option (List Value → Option Value)) : FuncId → Option Ext := Ziu sp hp1
theorem fitS {sp : FuncId → Option (List Value → Option Value)} (hsp : ZhQ sp) : Fit Tryz.prog (ZmW sp) := ZmV hsp Zoa
noncomputable def ext : FuncId → Option Ext := ZmW ZlI
theorem fit : Fit Tryz.prog ext := fitS Ziv
def ZlK (e : FuncId → Option Ext) (tc : FuncId → Bool) : FuncId → Option Ext := fun f => bif tc f then some (.tc (ZO Tryz.prog f)) else e f
theorem fitT {e : FuncId → Option Ext} {tc : FuncId → Bool} (F : Fit Tryz.prog e) (hb : ∀ f, tc f = true → ∃ (fn : Func) (c : Code), Tryz.prog.funcs[f]? = some fn ∧ fn.body = some c) : Fit Tryz.prog (ZlK e tc) := by
  have cs : ∀ {f : Nat} {x : Ext}, ZlK e tc f = some x → (tc f = true ∧ x = .tc (ZO Tryz.prog f)) ∨ e f = some x := fun {f x} h => by
    unfold ZlK at h
    cases ht : tc f with
    | true => rw [ht] at h; injection h with h; exact .inl ⟨rfl, h.symm⟩
    | false => rw [ht] at h; exact .inr h
  refine ⟨F.mixed, F.go, fun f g hg => ?_, fun f g hg => ?_, fun f S hS => ?_, fun f n hn => ?_, fun f kk x hx => ?_⟩
  · rcases cs hg with ⟨_, h⟩ | h
    · cases h
    · exact F.fn f g h
  · rcases cs hg with ⟨_, h⟩ | h
    · cases h
    · exact F.hp f g h
  · rcases cs hS with ⟨ht, h⟩ | h
    · injection h with h; subst h; exact ⟨hb f ht, fun _ _ _ _ _ _ h => h⟩
    · exact F.tc f S h
  · rcases cs hn with ⟨_, h⟩ | h
    · cases h
    · exact F.mark f n h
  · rcases cs hx with ⟨_, h⟩ | h
    · cases h
    · exact F.ext f kk x h
def out (r : Out) : Option Value := match r with
  | some (v, s) => match s.ob with
    | [] => bif ZaU v && Nat.ble s.n 1000000000 then some v else none
    | _ => none
  | none => none
theorem Zob (fu : Nat) {f : FuncId} {args : Array Value} {v : Value} (w : World) (h : out (Zbe Tryz.prog ext fu f args ⟨.nil, 0, [], ⟨[], [], [], [], []⟩, []⟩) = some v) (ha : Zj ZaU args.toList = true) : Calls Tryz.prog f args w (Ret v w) := by
  unfold out at h
  split at h
  · rename_i u s hr
    split at h
    · rename_i ho
      obtain ⟨hf, h⟩ := Zd h
      injection h with h
      subst h
      exact (ZnX fit hr (by rw [ho]; simp) (VRs.of_free ha) (Bool.and_eq_true_iff.1 hf).1 (Nat.le_of_ble_eq_true (Bool.and_eq_true_iff.1 hf).2) w).mono fun e w' ⟨h1, h2⟩ => ⟨h1, h2⟩
    · cases h
  · cases h
end Ev
end Go.Proofs.YtifdgbbbojccdaaGreat
/- Arguments that hold no address: which cells they have. -/
namespace Go.Proofs.YtifdgbbbojccdaaGreat
open Go.ChangeShapes Go.WideShapes Go.ChangeAt Go.RowKit
namespace Ev
section
variable {P : Program} {w : World} {r : Reach} {base : Nat}
theorem okWide_slice {u e : TypeId} {c : Value} (hu : P.underlying u = some (.slice e)) (h : Cell.okWide P w r base u c) : c.oneCell' = true := by
 unfold Cell.okWide Cell.ok at h
 rw [hu] at h
 cases c <;> first | rfl | (simp at h)
def Znt : Nat → List (Nat × Bool) → List (Option Bool)
 | _, [] => []
 | n, (i, b) :: l => List.replicate (i - n) none ++ (some b :: Znt (i + 1) l)
def Znu : Nat → List (Nat × Int) → List (Option Int)
 | _, [] => []
 | n, (i, b) :: l => List.replicate (i - n) none ++ (some b :: Znu (i + 1) l)
def Zjr {α : Type} : Nat → List (Nat × α) → List (Option α)
 | _, [] => []
 | n, (i, b) :: l => List.replicate (i - n) none ++ (some b :: Zjr (i + 1) l)
def ZM (b : List (Nat × Bool)) (v : List (Nat × Int)) (x : List (Nat × Nat)) (l : List (Nat × List Cell)) (w : List (Nat × Zb0)) : Orc := ⟨Znt 0 b, Znu 0 v, Zjr 0 x, Zjr 0 l, Zjr 0 w⟩
theorem Zp : ∀ p ∈ ([] : List (Bool × Bool)), p.1 = p.2 := by simp
theorem Zc {a b : Bool} {l : List (Bool × Bool)} (h : a = b) (hl : ∀ q ∈ l, q.1 = q.2) : ∀ q ∈ (a, b) :: l, q.1 = q.2 := by
 intro q hq
 rcases List.mem_cons.1 hq with rfl | hq
 ·exact h
 ·exact hl q hq
theorem Zoc {x : Int} (h : -9223372036854775808 ≤ x ∧ x < 9223372036854775808) : IntKind.i64.wrap x = x := by
 rw [IntKind.wrap_i64]
 omega
theorem Zod {b : Int} (h : 0 ≤ b) : b = Int.ofNat b.toNat := (Int.toNat_of_nonneg h).symm
theorem Zoe {n m : Nat} (h : n < m) : Nat.blt n m = true := Nat.ble_eq_true_of_le h
end
end Ev
end Go.Proofs.YtifdgbbbojccdaaGreat
/- How runs of functions with loops are written: what is looked at of a stop, and rows of numbers. -/
namespace Go.Proofs.YtifdgbbbojccdaaGreat
open Go.RowKit
namespace Ev
/-! ### Where a loop stands -/
def Zbp : List Nat → Code → List Zat → Code × List Zat
  | [], .loop a, K => (a, K)
  | 0 :: p, .seq a b, K => Zbp p a (.seq b :: K)
  | 1 :: p, .seq _ b, K => Zbp p b K
  | 2 :: p, .scope a, K => Zbp p a (.scp :: K)
  | 3 :: p, .block i a, K => Zbp p a (.blk i :: K)
  | 4 :: p, .cond _ a _, K => Zbp p a K
  | 5 :: p, .cond _ _ b, K => Zbp p b K
  | (n + 6) :: p, .loop a, K => Zbp p a (.rnd n :: K)
  | _, _, K => (.skip, K)
def Zd1 (fn : Func) : Code := match fn.body with | some c => c | none => .skip
noncomputable section
end
def ZgM (ρ : Nat → Nat) : AObj → AObj → Prop
  | .ro O, .ro O' => O = O'
  | .ro O true, .ro O' true => O = O'
  | .cells c t, .cells c' t' => t = t' ∧ (∃ r, c.map (ZU ρ 1) = c' ++ r) ∧ Zj (ZI 1) c = true
  | _, _ => False
def Zbu (ρ : Nat → Nat) : List (Option AObj) → List (Option AObj) → Prop
  | _, [] => True
  | some o :: bl, some p :: l => ZgM ρ o p ∧ Zbu ρ bl l
  | _ :: bl, none :: l => Zbu ρ bl l
  | _, _ => False
def Zek (ρ : Nat → Nat) : List (Option Value) → List (Nat × Value) → Prop
  | _, [] => True
  | some u :: tv, x :: l => (x.2 = ZU ρ 3 u ∧ ZI 3 u = true) ∧ Zek ρ tv l
  | _, _ => False
theorem ZdJ {ρ : Nat → Nat} {h : AH} : ∀ {live : List Nat} {l : List (Option AObj)}, Zbu ρ (live.map h) l → ∀ j o, lkO l j = some o → ∃ k, live[j]? = some k ∧ match o with
      | .ro O m => h k = some (.ro O m)
      | .cells c t => ∃ c' r, h k = some (.cells c' t) ∧ c'.map (ZU ρ 1) = c ++ r ∧ Zj (ZI 1) c' = true
  | live, [], _, j, o, hj => by simp [lkO] at hj
  | [], x :: l, hb, j, o, hj => by cases x <;> exact hb.elim
  | k :: live, none :: l, hb, j, o, hj => by
    have hb' : Zbu ρ (live.map h) l := by
      simp only [List.map_cons] at hb
      cases hk : h k <;> rw [hk] at hb <;> exact hb
    cases j with
    | zero => simp [lkO] at hj
    | succ j => obtain ⟨k', q1, q2⟩ := ZdJ hb' j o (by simpa [lkO] using hj); exact ⟨k', by simpa using q1, q2⟩
  | k :: live, some p :: l, hb, j, o, hj => by
    simp only [List.map_cons] at hb
    cases hk : h k with
    | none => rw [hk] at hb; exact hb.elim
    | some o1 =>
      rw [hk] at hb
      cases j with
      | zero =>
        have : p = o := by simpa [lkO] using hj
        subst this
        refine ⟨k, rfl, ?_⟩
        have h1 := hb.1
        cases o1 with
        | cells c1 t1 =>
          cases p with
          | cells c2 t2 => simp only [ZgM] at h1; obtain ⟨rfl, ⟨r, hr⟩, hs⟩ := h1; exact ⟨_, r, hk, hr, hs⟩
          | ro O2 m2 => cases m2 <;> exact h1.elim
        | ro O1 m1 =>
          cases p with
          | cells c2 t2 => cases m1 <;> exact h1.elim
          | ro O2 m2 =>
            cases m1 <;> cases m2
            · obtain rfl : O1 = O2 := h1; exact hk
            · exact h1.elim
            · exact h1.elim
            · obtain rfl : O1 = O2 := h1; exact hk
      | succ j => obtain ⟨k', q1, q2⟩ := ZdJ hb.2 j o (by simpa [lkO] using hj); exact ⟨k', by simpa using q1, q2⟩
theorem ZjX {ρ : Nat → Nat} {T : Tr Value} : ∀ {l : List (Nat × Value)}, Zek ρ ((l.map (·.1)).map T.get) l → ∀ t v, ZK t l = some v → v = ZU ρ 3 ((T.get t).getD undef) ∧ ZI 3 ((T.get t).getD undef) = true
  | [], _, t, v, h => by cases h
  | x :: l, ht, t, v, h => by
    simp only [List.map_cons] at ht
    cases hx : T.get x.1 with
    | none => rw [hx] at ht; exact ht.elim
    | some u =>
      rw [hx] at ht
      unfold ZK at h
      cases hb : Nat.beq x.1 t with
      | true =>
        rw [hb] at h
        injection h with h
        obtain rfl := Nat.eq_of_beq_eq_true hb
        subst h
        rw [hx]
        exact ht.1
      | false => rw [hb] at h; exact ZjX ht.2 t v h
section
variable {P : Program} {ext : FuncId → Option Ext}
end
/-! ### Rows of numbers -/
theorem wrap_i64 {x : Int} (h : -9223372036854775808 ≤ x ∧ x ≤ 9223372036854775807) : IntKind.i64.wrap x = x := Zoc (by omega)
theorem ZfI {k o o' n n' c c' : Nat} (h1 : o = o') (h2 : n = n') (h3 : c = c') : Value.slice (some ⟨k, o, none⟩) n c = .slice (some ⟨k, o', none⟩) n' c' := by rw [h1, h2, h3]
theorem Zb7 {α : Type} {a b : α} {l r : List α} (h : a = b) (t : l = r) : a :: l = b :: r := by rw [h, t]
/-! ### Rows of bools -/
/-! ### Rows of the caller's -/
end Ev
end Go.Proofs.YtifdgbbbojccdaaGreat
/- Calls that are told, from what is known of a function. -/
namespace Go.Proofs.YtifdgbbbojccdaaGreat
open Go.RowKit
namespace Ev
section
variable {P : Program} {ext : FuncId → Option Ext}
def preL (κ : List Nat) (n : Nat) (pre : List AObj) : List (Nat × AObj) := κ.zip (pre.map (ZeQ (kap κ n)))
def Znv (κ : List Nat) (n : Nat) (ch : List Nat) (post : List (Option AObj)) : List (Nat × Option AObj) := ch.map fun j => (kap κ n j, (lkO post j).map (ZeQ (kap κ n)))
def Zhu (m : Nat) : List AObj → Prop
 | [] => True
 | o :: l => ZdI m o = true ∧ Zhu m l
def ZeB (m : Nat) : List (Option AObj) → Prop
 | [] => True
 | some o :: l => ZdI m o = true ∧ ZeB m l
 | none :: l => ZeB m l
theorem ZiP {m : Nat} : ∀ {l : List AObj}, Zhu m l → ∀ o ∈ l, ZdI m o = true
 | x :: l, h, o, ho => by
  rcases List.mem_cons.1 ho with rfl | ho
  ·exact h.1
  ·exact ZiP h.2 o ho
theorem ZfJ {m : Nat} : ∀ {l : List (Option AObj)}, ZeB m l → ∀ o, some o ∈ l → ZdI m o = true
 | some x :: l, h, o, ho => by
  rcases List.mem_cons.1 ho with e | ho
  ·injection e with e; subst e; exact h.1
  ·exact ZfJ h.2 o ho
 | none :: l, h, o, ho => by
  rcases List.mem_cons.1 ho with e | ho
  ·cases e
  ·exact ZfJ (l := l) h o ho
def ZlL (ch : List Nat) : Nat → List AObj → List (Option AObj) → Prop
 | _, _, [] => True
 | j, o :: l, p :: r => (j ∈ ch ∨ p = some o) ∧ ZlL ch (j + 1) l r
 | j, [], _ :: r => j ∈ ch ∧ ZlL ch (j + 1) [] r
theorem Ziw {ch : List Nat} : ∀ {l : List AObj} {r : List (Option AObj)} {j : Nat}, ZlL ch j l r → ∀ i, i < r.length → j + i ∈ ch ∨ (i < l.length ∧ r[i]? = some l[i]?)
 | o :: l, p :: r, j, h, 0, _ => by
  rcases h.1 with h | h
  ·exact .inl h
  ·exact .inr ⟨by simp, by simp [h]⟩
 | o :: l, p :: r, j, h, i + 1, hi => by
  rcases Ziw h.2 i (by simpa using hi) with q | ⟨q1, q2⟩
  ·exact .inl (by rwa [show j + (i + 1) = j + 1 + i by omega])
  ·exact .inr ⟨by simpa using q1, by simpa using q2⟩
 | [], p :: r, j, h, 0, _ => .inl h.1
 | [], p :: r, j, h, i + 1, hi => by
  rcases Ziw h.2 i (by simpa using hi) with q | ⟨q1, q2⟩
  ·exact .inl (by rwa [show j + (i + 1) = j + 1 + i by omega])
  ·simp at q1
theorem ZjY {α : Type} {k : Nat} {x : α} : ∀ {ks : List Nat} {l : List α} {j : Nat}, ks.Nodup → ks[j]? = some k → l[j]? = some x → ZK k (ks.zip l) = some x
 | a :: ks, b :: l, 0, _, h1, h2 => by
  simp at h1 h2
  subst h1 h2
  simp [ZK]
 | a :: ks, b :: l, j + 1, hn, h1, h2 => by
  have hm : k ∈ ks := List.mem_of_getElem? (by simpa using h1)
  have hne : a ≠ k := fun e => by subst e; exact (List.nodup_cons.1 hn).1 hm
  show ZK k ((a, b) :: ks.zip l) = _
  unfold ZK
  rw [Zdi hne]
  exact ZjY (List.nodup_cons.1 hn).2 (by simpa using h1) (by simpa using h2)
 | [], _, j, _, h1, _ => by simp at h1
 | a :: ks, [], j, _, _, h2 => by simp at h2
theorem ZjZ {f : Nat → Nat} {g : Nat → Option AObj} (hf : ∀ i j, f i = f j → i = j) (j : Nat) : ∀ ch : List Nat, ZK (f j) (ch.map fun i => (f i, g i)) = if j ∈ ch then some (g j) else none
 | [] => rfl
 | a :: ch => by
  show ZK (f j) ((f a, g a) :: ch.map fun i => (f i, g i)) = _
  unfold ZK
  by_cases h : a = j
  ·subst h; rw [Zdr rfl]; simp
  ·rw [Zdi (fun e => h (hf _ _ e)), cond_false, ZjZ hf j ch]
   simp [show ¬ j = a from fun e => h e.symm]
theorem LSpec.callL {f : FuncId} {A : Array Value} {pre : List AObj} {v : Value} {post : List (Option AObj)} (h : LSpec P f A pre v post) (κ : List Nat) (n : Nat) (ch : List Nat) (hκ : κ.length = pre.length) (hnd : κ.Nodup) (hlt : ∀ k ∈ κ, k < n) (hle : pre.length ≤ post.length) (hch : ∀ j ∈ ch, j < post.length)
  (hA : Zj (Zam pre.length 3) A.toList = true) (hpre : Zhu pre.length pre) (hv : Zam post.length 3 v = true) (hpost : ZeB post.length post) (hk : ZlL ch 0 pre post)
  {A' : Array Value} {pre' : List (Nat × AObj)} {v' : Value} {post' : List (Nat × Option AObj)} {dn : Nat} (eA : A' = Zdk (ZU (kap κ n) 3) A) (ev : v' = ZU (kap κ n) 3 v) (edn : pre.length + dn = post.length) (ep : pre' = preL κ n pre) (eq : post' = Znv κ n ch post) : ZO P f A' pre' v' post' n dn := by
 have kl : ∀ j, j < pre.length → κ[j]? = some (kap κ n j) := fun j hj => ZhM (by omega)
 have kn : ∀ j, j < pre.length → kap κ n j < n := fun j hj => hlt _ (List.mem_of_getElem? (kl j hj))
 have kg : ∀ j, pre.length ≤ j → kap κ n j = n + (j - pre.length) := fun j hj => by rw [← hκ]; exact Zmp (by omega)
 have kinj : ∀ i j, kap κ n i = kap κ n j → i = j := fun i j hij => by
  rcases Nat.lt_or_ge i pre.length with h1 | h1 <;> rcases Nat.lt_or_ge j pre.length with h2 | h2
  ·have a := kl i h1
   have b := kl j h2
   rw [hij, ← b] at a
   exact (List.getElem?_inj (by omega) hnd).1 a
  ·have := kn i h1; rw [hij, kg j h2] at this; omega
  ·have := kn j h2; rw [← hij, kg i h1] at this; omega
  ·rw [kg i h1, kg j h2] at hij; omega
 have lp : ∀ j o, pre[j]? = some o → ZK (kap κ n j) pre' = some (ZeQ (kap κ n) o) := fun j o ho => by
  subst ep
  have hj : j < pre.length := (List.getElem?_eq_some_iff.1 ho).1
  exact ZjY hnd (kl j hj) (by rw [List.getElem?_map, ho]; rfl)
 have ip : ∀ k o, ZK k pre' = some o → ∃ j, j < pre.length ∧ k = kap κ n j := fun k o ho => by
  subst ep
  obtain ⟨j, hj1, hj2⟩ := List.getElem_of_mem (List.of_mem_zip (Zev ho)).1
  have hj : j < pre.length := by omega
  refine ⟨j, hj, ?_⟩
  have := kl j hj
  rw [List.getElem?_eq_getElem hj1, hj2] at this
  exact Option.some.inj this
 have lq : ∀ j, ZK (kap κ n j) post' = if j ∈ ch then some ((lkO post j).map (ZeQ (kap κ n))) else none := fun j => by
  subst eq
  exact ZjZ (g := fun j => (lkO post j).map (ZeQ (kap κ n))) kinj j ch
 refine h.call κ n hκ hnd hlt hle hA (ZiP hpre) hv (ZfJ hpost) eA ev edn lp ip (fun j hj => ?_) (fun k o ho => ?_)
 ·unfold behind
  rw [lq j]
  rcases Ziw hk j hj with hc | ⟨h1, h2⟩
  ·rw [Nat.zero_add] at hc
   rw [if_pos hc]
  ·by_cases hc : j ∈ ch
   ·rw [if_pos hc]
   ·rw [if_neg hc]
    have ho : pre[j]? = some pre[j] := List.getElem?_eq_getElem h1
    show ZK (kap κ n j) pre' = _
    rw [lp j _ ho]
    simp [lkO, h2, ho]
 ·unfold behind at ho
  split at ho
  ·rename_i o' hl
   subst eq
   have := Zev hl
   unfold Znv at this
   obtain ⟨j, hj, he⟩ := List.mem_map.1 this
   injection he with h1 h2
   exact ⟨j, hch j hj, h1.symm⟩
  ·obtain ⟨j, hj, hk⟩ := ip k o ho
   exact ⟨j, by omega, hk⟩
end
theorem Zb8 {α β : Type} {a a' : α} {b b' : β} (h : a = a') (k : b = b') : (a, b) = (a', b') := by rw [h, k]
theorem ZgN {α : Type} {a a' : α} (h : a = a') : some a = some a' := by rw [h]
end Ev
end Go.Proofs.YtifdgbbbojccdaaGreat
/- Functions of many loops: one behind the other, one in another. -/
namespace Go.Proofs.YtifdgbbbojccdaaGreat
open Go.RowKit
namespace Ev
section
variable {P : Program} {ext : FuncId → Option Ext}
variable {fn : Func} {pre : List AObj} {v : Value} {po : List (Option AObj)} {X : Type} {m i : Nat} {L : X → List (Nat × Value)} {H : X → List AObj} {μ : X → Nat} {bd : X → List Nat} {Gb : List Nat → Ren → World → (Nat → Act → World → Prop) → Prop} {x : X} {c : Code} {K : List Zat} {T0 : Tr Value} {fu : Nat} {orc : Orc} {live : List Nat} {bl : List (Option AObj)} {ob : List (Bool × Bool)}
end
/-! ### A law -/
mutual
inductive Dec (w : World) : Nat → Nat → Nat → Prop
 | mk {b base id : Nat} {c : List Cell} {C : Array Value} {t : TypeId} {fr : Nat × Nat} (h1 : ZfZ id = some c) (h2 : w.heap[b]? = some (.cells C t fr)) (h3 : 0 < c.length → base + c.length ≤ C.size) (h4 : ∀ (i : Nat) (x : Cell) (y : Value), c[i]? = some x → C[base + i]? = some y → DecC w x y) : Dec w b base id
inductive DecC (w : World) : Cell → Value → Prop
 | i {n : Int} : DecC w (.i n) (.int .i64 n)
 | k {q : IntKind} {n : Int} : DecC w (.k q n) (.int q n)
 | b {q : Bool} : DecC w (.b q) (.bool q)
 | s {x : ByteArray} : DecC w (.s x) (.string x)
 | m0 {id o : Nat} {a : Option Addr} : DecC w (.m id o 0 0) (.slice a 0 0)
 | m {b base id o n c c' : Nat} (h : Dec w b base id) (hn : n ≤ c) (hc : c ≤ c') : DecC w (.m id o n c) (.slice (some ⟨b, base + o, none⟩) n c')
end
noncomputable def ιMk (w : World) : Ren := fun k => @dite _ (∃ b base id, k = Zx b base id ∧ Dec w b base id) (Classical.propDecidable _) (fun h => some (h.choose, 0)) (fun _ => none)
theorem ιMk_of {w : World} {b base id : Nat} (h : Dec w b base id) : ιMk w (Zx b base id) = some (b, 0) := by
 have hex : ∃ b' base' id', Zx b base id = Zx b' base' id' ∧ Dec w b' base' id' := ⟨b, base, id, rfl, h⟩
 unfold ιMk
 rw [dif_pos hex]
 obtain ⟨base', id', h1, _⟩ := hex.choose_spec
 rw [← (Zhj h1).1]
theorem ιMk_inv {w : World} {k : Nat} {q : Nat × Nat} (h : ιMk w k = some q) : ∃ b base id, k = Zx b base id ∧ q = (b, 0) ∧ Dec w b base id := by
 unfold ιMk at h
 by_cases hex : ∃ b' base' id', k = Zx b' base' id' ∧ Dec w b' base' id'
 ·rw [dif_pos hex] at h
  injection h with h
  obtain ⟨base', id', h1, h2⟩ := hex.choose_spec
  exact ⟨_, base', id', h1, h.symm, h2⟩
 ·rw [dif_neg hex] at h; cases h
theorem DecC.vr {w : World} {x : Cell} {y : Value} (h : DecC w x y) : VR (ιMk w) (Zbk x) y := by
 cases h with
 | i => exact .atom rfl
 | k => exact .atom rfl
 | b => exact .atom rfl
 | s => exact .atom rfl
 | m0 => exact .slice0 fun _ => rfl
 | m h hn hc => exact .mslice (ιMk_of h) hn hc
theorem Zof (P : Program) (w : World) : Emb P (ιMk w) (lk []) w := by
 refine ⟨fun k c t hk => by simp [lk] at hk, fun k O hk => by simp [lk] at hk, fun k k' b1 b2 h1 => by simp [lk, isC] at h1, fun k b1 hk => ?_, fun b base id q hq => ?_⟩
 ·obtain ⟨b, base, id, rfl, rfl, h⟩ := ιMk_inv hk
  cases h with
  | mk _ h2 _ _ => exact (Array.getElem?_eq_some_iff.1 h2).1
 ·obtain ⟨b', base', id', h1, rfl, h⟩ := ιMk_inv hq
  obtain ⟨rfl, rfl, rfl⟩ := Zhj h1
  cases h with
  | mk h1 h2 h3 h4 =>
   rename_i c C t fr
   refine ⟨rfl, ⟨⟨c, C, t, fr, h1, h2, h3, fun i x y hx hy => ?_⟩, fun o c' hc => ιMk_of ?_⟩, fun k d hk => by simp [lk, isC] at hk⟩
   ·unfold Zk at hx
    rw [List.getElem?_map] at hx
    cases hb : c[i]? with
    | none => rw [hb] at hx; cases hx
    | some z =>
     rw [hb] at hx
     injection hx with hx
     subst hx
     exact (h4 i z y hb hy).vr
   ·unfold Zab at hc
    rw [h1] at hc
    obtain ⟨e, hl⟩ := ZbG hc
    have hl' : c'.length ≤ c.length - o := by simpa using hl
    refine .mk (ZaW c') h2 (fun h0 => by have := h3 (by omega); omega) fun i x y hx hy => ?_
    have hi : i < c'.length := (List.getElem?_eq_some_iff.1 hx).1
    refine h4 (o + i) x y ?_ (by rw [← Nat.add_assoc]; exact hy)
    rw [e, List.getElem?_take_of_lt hi, List.getElem?_drop] at hx
    exact hx
theorem Zog {P : Program} {f : FuncId} {A : Array Value} {post : List (Option AObj)} {v : Value} (h : LSpec P f A [] v post) {w : World} {args' : Array Value} (ha : VRs (ιMk w) A args') (hv : ZaU v = true) : Calls P f args' w (Ret v w) := by
 refine (h (ιMk w) w args' (fun k hk => ?_) ha (Zof P w)).mono ?_
 ·cases hq : ιMk w k with
  | none => exact absurd hq hk
  | some q =>
   obtain ⟨b, base, id, rfl, _⟩ := ιMk_inv hq
   exact .inr (Zdv b base id)
 ·rintro e w' ⟨v', ι', rfl, hS, _, hvr⟩
  have := hvr.eq_of_free hv
  subst this
  exact ⟨rfl, hS.os, hS.tape, hS.output, hS.size, fun b hb => hS.frame b hb fun k c hk => by simp [lk, isC] at hk⟩
end Ev
end Go.Proofs.YtifdgbbbojccdaaGreat
/- Arguments that are slices of structs of ints, opened, over any program. -/
namespace Go.Proofs.YtifdgbbbojccdaaGreat
open Go.ChangeShapes Go.WideShapes Go.ChangeAt Go.RowKit Go.Deep
section
variable {H : Type} {enc : TypeId × Value → H} {P : Program} {w : World}

end
end Go.Proofs.YtifdgbbbojccdaaGreat
/- Arguments that are rows of numbers: blocks of the caller's, that are read alone. -/
namespace Go.Proofs.YtifdgbbbojccdaaGreat
open Go.ChangeShapes Go.WideShapes Go.ChangeAt Go.RowKit
namespace Ev
section
variable {P : Program} {w : World}
theorem ZfU {b o : Nat} {v : Value} (h : w.cell? ⟨b, o, none⟩ = some v) : ∃ C t fr, w.heap[b]? = some (.cells C t fr) ∧ C[o]? = some v := by
 unfold World.cell? at h
 split at h
 ·rename_i c e fr hb
  split at h
  ·cases h
  ·exact ⟨c, e, fr, hb, h⟩
 ·cases h
end
end Ev
end Go.Proofs.YtifdgbbbojccdaaGreat
/- The runner, with places to stop at: where a way on of a given depth begins, so many of them left out. -/
namespace Go.Proofs.YtifdgbbbojccdaaGreat
open Go.RowKit
namespace Ev
inductive StopC where
 | fin (v : Value) (s : St)
 | head (a : Code) (K : List Zat) (T : Tr Value) (s : St)
 | next (i : Nat) (T : Tr Value) (s : St)
 | cut (b : Code) (K : List Zat) (T : Tr Value) (s : St)
noncomputable section
def StopC.s : StopC → St
 | .fin _ s => s
 | .head _ _ _ s => s
 | .next _ _ s => s
 | .cut _ _ _ s => s
def Zka (s : St) : Option Value → Option StopC
 | some v => some (.fin v s)
 | none => none
def Zmt (P : Program) (fn : Func) (e : Ex) (T : Tr Value) (s : St) : Option StopC :=
 match e with
 | .exit _ => none
 | .normal => Zka s (ZlD P fn T s)
 | .ret => Zka s (ZlD P fn T s)
mutual
def Zbq (P : Program) (ext : FuncId → Option Ext) (fn : Func) (nt : Nat) (cd : Nat) : Nat → Nat → Code → List Zat → Tr Value → St → Option StopC
 | 0, _, _, _, _, _ => none
 | fu + 1, cm, c, K, T, s => match c with
  | .seq a b => Zbq P ext fn nt cd fu cm a (.seq b :: K) T s
  | .scope a => Zbq P ext fn nt cd fu cm a (.scp :: K) T s
  | .block id a => Zbq P ext fn nt cd fu cm a (.blk id :: K) T s
  | .cond x a b => match opnd T x with
   | .bool t => match t with
    | true => Zbq P ext fn nt cd fu cm a K T s
    | false => Zbq P ext fn nt cd fu cm b K T s
   | _ => none
  | .loop a => some (.head a K T s)
  | c => match Z7 P ext nt fu c T s with
   | some (e, T', s') => Za3 P ext fn nt cd fu cm K e T' s'
   | none => none
termination_by structural fu _ _ _ _ _ => fu
def Za3 (P : Program) (ext : FuncId → Option Ext) (fn : Func) (nt : Nat) (cd : Nat) : Nat → Nat → List Zat → Ex → Tr Value → St → Option StopC
 | 0, _, _, _, _, _ => none
 | fu + 1, cm, K, e, T, s => match K with
  | [] => Zmt P fn e T s
  | .seq b :: K => match e with
   | .normal => match Nat.beq K.length cd with
    | false => Zbq P ext fn nt cd fu cm b K T s
    | true => match cm with
     | 0 => some (.cut b K T s)
     | m + 1 => Zbq P ext fn nt cd fu m b K T s
   | .exit i => Za3 P ext fn nt cd fu cm K (.exit i) T s
   | .ret => Za3 P ext fn nt cd fu cm K .ret T s
  | .blk id :: K => match e with
   | .exit i => bif Nat.beq i id then Za3 P ext fn nt cd fu cm K .normal T s else Za3 P ext fn nt cd fu cm K (.exit i) T s
   | .normal => Za3 P ext fn nt cd fu cm K .normal T s
   | .ret => Za3 P ext fn nt cd fu cm K .ret T s
  | .scp :: K => Za3 P ext fn nt cd fu cm K e T s
  | .rnd i :: K => match e with
   | .normal => some (.next i T s)
   | .exit j => Za3 P ext fn nt cd fu cm K (.exit j) T s
   | .ret => Za3 P ext fn nt cd fu cm K .ret T s
termination_by structural fu _ _ _ _ _ => fu
end
end
section
variable {P : Program} {ext : FuncId → Option Ext}
theorem Zkb {s : St} {o : Option Value} {st : StopC} (h : Zka s o = some st) : ∃ v, st = .fin v s ∧ o = some v := by
 cases o with
 | none => cases h
 | some v => injection h with h; exact ⟨v, h.symm, rfl⟩
theorem Zkc {fn : Func} {e : Ex} {T : Tr Value} {s : St} {st : StopC} (h : Zmt P fn e T s = some st) : ∃ v, st = .fin v s ∧ (match e with | .exit _ => False | _ => True) ∧ (match Zan P T s fn.results.toList with | some [v] => some v | some vs => some (.tuple vs.toArray) | none => none) = some v := by
 cases e with
 | exit i => cases h
 | normal => obtain ⟨v, h1, h2⟩ := Zkb h; exact ⟨v, h1, trivial, h2⟩
 | ret => obtain ⟨v, h1, h2⟩ := Zkb h; exact ⟨v, h1, trivial, h2⟩
theorem Zoh (F : Fit P ext) {fn : Func} {nt cd : Nat} : ∀ fu : Nat, (∀ cm c K T s st, Zbq P ext fn nt cd fu cm c K T s = some st → Up s st.s) ∧ (∀ cm K e T s st, Za3 P ext fn nt cd fu cm K e T s = some st → Up s st.s) := by
 intro fu
 induction fu with
 | zero => exact ⟨fun _ _ _ _ _ _ h => by simp [Zbq] at h, fun _ _ _ _ _ _ h => by simp [Za3] at h⟩
 | succ fu ih =>
  obtain ⟨ihT, ihB⟩ := ih
  have other : ∀ cm c K T s st, (match Z7 P ext nt fu c T s with | some (e, T', s') => Za3 P ext fn nt cd fu cm K e T' s' | none => none) = some st → Up s st.s := fun cm c K T s st h => by
   split at h
   ·exact ((ZaT (P := P) (ext := ext) (fun f g hg => (F.hp f g hg).up) fu).1 _ _ _ _ _ _ _ (by assumption)).trans (ihB _ _ _ _ _ _ h)
   ·cases h
  refine ⟨fun cm c K T s st h => ?_, fun cm K e T s st h => ?_⟩
  ·cases c <;> simp only [Zbq] at h
   case seq a b => exact ihT _ _ _ _ _ _ h
   case scope a => exact ihT _ _ _ _ _ _ h
   case block id a => exact ihT _ _ _ _ _ _ h
   case cond x a b =>
    split at h
    ·split at h
     ·exact ihT _ _ _ _ _ _ h
     ·exact ihT _ _ _ _ _ _ h
    ·cases h
   case loop a => injection h with h; subst h; exact Up.refl _
   all_goals exact other _ _ _ _ _ _ h
  ·cases K with
   | nil => simp only [Za3] at h; obtain ⟨v, rfl, _⟩ := Zkc h; exact Up.refl _
   | cons k K =>
    cases k <;> simp only [Za3] at h
    ·cases e <;> simp only at h
     ·split at h
      ·exact ihT _ _ _ _ _ _ h
      ·split at h
       ·injection h with h; subst h; exact Up.refl _
       ·exact ihT _ _ _ _ _ _ h
     ·exact ihB _ _ _ _ _ _ h
     ·exact ihB _ _ _ _ _ _ h
    ·cases e <;> simp only at h
     ·exact ihB _ _ _ _ _ _ h
     ·rename_i id i
      cases hb : Nat.beq i id <;> rw [hb] at h <;> exact ihB _ _ _ _ _ _ h
     ·exact ihB _ _ _ _ _ _ h
    ·exact ihB _ _ _ _ _ _ h
    ·cases e <;> simp only at h
     ·injection h with h; subst h; exact Up.refl _
     ·exact ihB _ _ _ _ _ _ h
     ·exact ihB _ _ _ _ _ _ h
def Zg0 (P : Program) (fn : Func) (R : Ending → World → Prop) (Nx : Nat → Act → World → Prop) (nt : Nat) (ι : Ren) (a : Act) (w : World) : StopC → Prop
 | .fin v _ => ∀ v', VR ι v v' → R (.returned v') w
 | .head b K T _ => TR ι nt [] T a → (Code.loop b).wp P (post P fn R Nx K) a w
 | .next i T _ => TR ι nt [] T a → Nx i a w
 | .cut b K T _ => TR ι nt [] T a → b.wp P (post P fn R Nx K) a w
theorem ZiQ (F : Fit P ext) {fn : Func} {nt cd : Nat} {R : Ending → World → Prop} {Nx : Nat → Act → World → Prop} : ∀ fu : Nat,
  (∀ cm c K T s st, Zbq P ext fn nt cd fu cm c K T s = some st → (∀ p ∈ st.s.ob, p.1 = p.2) → ∀ ι a w, TR ι nt [] T a → Emb P ι s.h.get w → Fresh ι s.n st.s.n →
   (∀ ι' a' w', Step P ι s.h.get w ι' st.s.h.get w' → Dom ι ι' s.n st.s.n → Zg0 P fn R Nx nt ι' a' w' st) → c.wp P (post P fn R Nx K) a w) ∧
  (∀ cm K e T s st, Za3 P ext fn nt cd fu cm K e T s = some st → (∀ p ∈ st.s.ob, p.1 = p.2) → ∀ ι a w, TR ι nt [] T a → Emb P ι s.h.get w → Fresh ι s.n st.s.n →
   (∀ ι' a' w', Step P ι s.h.get w ι' st.s.h.get w' → Dom ι ι' s.n st.s.n → Zg0 P fn R Nx nt ι' a' w' st) → post P fn R Nx K e.out a w) := by
 intro fu
 induction fu with
 | zero => exact ⟨fun _ _ _ _ _ _ h => by simp [Zbq] at h, fun _ _ _ _ _ _ h => by simp [Za3] at h⟩
 | succ fu ih =>
  obtain ⟨ihT, ihB⟩ := ih
  have other : ∀ cm c K T s st, (match Z7 P ext nt fu c T s with | some (e, T', s') => Za3 P ext fn nt cd fu cm K e T' s' | none => none) = some st → (∀ p ∈ st.s.ob, p.1 = p.2) → ∀ ι a w, TR ι nt [] T a → Emb P ι s.h.get w → Fresh ι s.n st.s.n →
   (∀ ι' a' w', Step P ι s.h.get w ι' st.s.h.get w' → Dom ι ι' s.n st.s.n → Zg0 P fn R Nx nt ι' a' w' st) → c.wp P (post P fn R Nx K) a w := fun cm c K T s st h ho ι a w hT he hf hQ => by
   split at h
   ·rename_i e T1 s1 h1
    have u1 := (ZaT (P := P) (ext := ext) (fun f g hg => (F.hp f g hg).up) fu).1 _ _ _ _ _ _ _ h1
    have u2 := (Zoh F (fn := fn) (nt := nt) fu).2 _ _ _ _ _ _ h
    refine wp_mono (ev_wp F h1 (ZR u2.ob ho) hT he (hf.mono (Nat.le_refl _) u2.n)) ?_
    rintro ex a1 w1 ⟨rfl, ι1, g1, g2, g3⟩
    exact ihB _ K e T1 s1 st h ho ι1 a1 w1 g3 g1.emb (hf.after g2 u1.n) fun ι' a' w' k1 k2 => hQ ι' a' w' (g1.trans k1) (g2.trans k2 u1.n u2.n)
   ·cases h
  refine ⟨fun cm c K T s st h ho ι a w hT he hf hQ => ?_, fun cm K e T s st h ho ι a w hT he hf hQ => ?_⟩
  ·have h0 := h
   cases c <;> simp only [Zbq] at h
   case seq x y => exact wp_seq (ihT _ x (.seq y :: K) T s st h ho ι a w hT he hf hQ)
   case scope x => exact wp_scope_straight (ihT _ x (.scp :: K) T s st h ho ι a w hT he hf hQ)
   case block id x => exact wp_block (ihT _ x (.blk id :: K) T s st h ho ι a w hT he hf hQ)
   case cond x y z =>
    split at h
    ·rename_i t ht
     have hx : a.eval x = .bool t := Zc1 ((ht ▸ hT.opnd x : VR ι (.bool t) (Za2 a x)).bool_inv)
     split at h
     ·exact wp_cond_true hx (ihT _ y K T s st h ho ι a w hT he hf hQ)
     ·exact wp_cond_false hx (ihT _ z K T s st h ho ι a w hT he hf hQ)
    ·cases h
   case loop x =>
    injection h with h
    subst h
    exact hQ ι a w (Step.refl he) Dom.refl hT
   all_goals exact other _ _ K T s st h ho ι a w hT he hf hQ
  ·cases K with
   | nil =>
    simp only [Za3] at h
    obtain ⟨v, rfl, hne, hr⟩ := Zkc h
    obtain ⟨v', hrun, hv⟩ := Zbt hT he hr
    have := hQ ι a w (Step.refl he) Dom.refl v' hv
    cases e with
    | normal => exact ⟨hT.2.1, v', hrun, this⟩
    | ret => exact ⟨hT.2.1, v', hrun, this⟩
    | exit i => exact hne.elim
   | cons k K =>
    cases k with
    | seq b =>
     simp only [Za3] at h
     cases e with
     | normal =>
      simp only at h
      split at h
      ·exact ihT _ b K T s st h ho ι a w hT he hf hQ
      ·split at h
       ·injection h with h
        subst h
        exact hQ ι a w (Step.refl he) Dom.refl hT
       ·exact ihT _ b K T s st h ho ι a w hT he hf hQ
     | exit i => exact ihB _ K (.exit i) T s st h ho ι a w hT he hf hQ
     | ret => exact ihB _ K .ret T s st h ho ι a w hT he hf hQ
    | blk id =>
     simp only [Za3] at h
     cases e with
     | normal => exact ihB _ K .normal T s st h ho ι a w hT he hf hQ
     | ret => exact ihB _ K .ret T s st h ho ι a w hT he hf hQ
     | exit i =>
      simp only at h
      show if i = id then _ else _
      cases hb : Nat.beq i id with
      | true =>
       rw [hb] at h
       rw [if_pos (Nat.eq_of_beq_eq_true hb)]
       exact ihB _ K .normal T s st h ho ι a w hT he hf hQ
      | false =>
       rw [hb] at h
       rw [if_neg (fun e => by rw [Zdr e] at hb; cases hb)]
       exact ihB _ K (.exit i) T s st h ho ι a w hT he hf hQ
    | scp =>
     simp only [Za3] at h
     have := ihB _ K e T s st h ho ι a w hT he hf hQ
     cases e <;> exact this
    | rnd i =>
     simp only [Za3] at h
     cases e with
     | normal =>
      injection h with h
      subst h
      exact hQ ι a w (Step.refl he) Dom.refl hT
     | exit j => exact ihB _ K (.exit j) T s st h ho ι a w hT he hf hQ
     | ret => exact ihB _ K .ret T s st h ho ι a w hT he hf hQ
end
noncomputable section
def ZgO (live : List Nat) (r : Option StopC) : Option (Value × List (Option AObj) × List (Bool × Bool)) :=
 match r with
 | some (.fin u s) => bif Nat.ble s.n 1000000000 then some (u, live.map s.h.get, s.ob) else none
 | _ => none
def Zhv (i : Nat) (live temps : List Nat) (r : Option StopC) : Option (List (Option Value) × List (Option AObj) × List (Bool × Bool)) :=
 match r with
 | some (.next j T s) => bif Nat.beq j i && Nat.ble s.n 1000000000 then some (temps.map T.get, live.map s.h.get, s.ob) else none
 | _ => none
def ZfK (live temps : List Nat) (r : Option StopC) : Option ((Code × List Zat) × List (Option Value) × List (Option AObj) × List (Bool × Bool)) :=
 match r with
 | some (.head b K T s) => bif Nat.ble s.n 1000000000 then some ((b, K), temps.map T.get, live.map s.h.get, s.ob) else none
 | _ => none
end
theorem Zg1 {live : List Nat} {r : Option StopC} {u : Value} {bl : List (Option AObj)} {ob : List (Bool × Bool)} (h : ZgO live r = some (u, bl, ob)) : ∃ s, r = some (.fin u s) ∧ live.map s.h.get = bl ∧ s.ob = ob ∧ s.n ≤ far := by
 unfold ZgO at h
 split at h
 ·rename_i u' s
  obtain ⟨hn, h⟩ := Zd h
  injection h with h
  simp only [Prod.mk.injEq] at h
  obtain ⟨rfl, rfl, rfl⟩ := h
  exact ⟨s, rfl, rfl, rfl, Nat.le_of_ble_eq_true hn⟩
 ·cases h
theorem Zjd {i : Nat} {live temps : List Nat} {r : Option StopC} {tv : List (Option Value)} {bl : List (Option AObj)} {ob : List (Bool × Bool)} (h : Zhv i live temps r = some (tv, bl, ob)) : ∃ T s, r = some (.next i T s) ∧ temps.map T.get = tv ∧ live.map s.h.get = bl ∧ s.ob = ob ∧ s.n ≤ far := by
 unfold Zhv at h
 split at h
 ·rename_i j T s
  obtain ⟨hn, h⟩ := Zd h
  simp only [Bool.and_eq_true] at hn
  injection h with h
  simp only [Prod.mk.injEq] at h
  obtain ⟨rfl, rfl, rfl⟩ := h
  exact ⟨T, s, by rw [Nat.eq_of_beq_eq_true hn.1], rfl, rfl, rfl, Nat.le_of_ble_eq_true hn.2⟩
 ·cases h
theorem ZfV {live temps : List Nat} {r : Option StopC} {bK : Code × List Zat} {tv : List (Option Value)} {bl : List (Option AObj)} {ob : List (Bool × Bool)} (h : ZfK live temps r = some (bK, tv, bl, ob)) : ∃ T s, r = some (.head bK.1 bK.2 T s) ∧ temps.map T.get = tv ∧ live.map s.h.get = bl ∧ s.ob = ob ∧ s.n ≤ far := by
 unfold ZfK at h
 split at h
 ·rename_i b K T s
  obtain ⟨hn, h⟩ := Zd h
  injection h with h
  simp only [Prod.mk.injEq] at h
  obtain ⟨rfl, rfl, rfl, rfl⟩ := h
  exact ⟨T, s, rfl, rfl, rfl, rfl, Nat.le_of_ble_eq_true hn⟩
 ·cases h
section
variable {P : Program} {ext : FuncId → Option Ext}
theorem Zmu (F : Fit P ext) {f : FuncId} {fn : Func} {c : Code} (hfn : P.funcs[f]? = some fn) (hb : fn.body = some c) {A : Array Value} {pre : List AObj} {v : Value} {post : List (Option AObj)} (hA : Nat.ble A.size fn.ntmps = true) {fu : Nat} {orc : Orc} {cd cm : Nat} {st : StopC}
  (hev : Zbq P ext fn fn.ntmps cd fu cm c [] (Zcz 0 A.toList .nil) ⟨ZeA 0 pre, pre.length, [], orc, []⟩ = some st) (ho : ∀ p ∈ st.s.ob, p.1 = p.2) (hn : st.s.n ≤ far)
  (hto : ∀ ι0 w0, (∀ k, ι0 k ≠ none → k < pre.length ∨ Zaz k) → ∀ ι' a' w', Step P ι0 (lk pre) w0 ι' st.s.h.get w' → Zg0 P fn (Fin P ι0 pre w0 v post) (fun _ _ _ => False) fn.ntmps ι' a' w' st) : LSpec P f A pre v post := by
 intro ι w args' hd ha he
 refine calls_of_wp hfn hb ?_
 have := (ZiQ F (R := Fin P ι pre w v post) (Nx := fun _ _ _ => False) fu).1 cm c [] _ _ st hev ho ι _ w (Zeg ha (Nat.le_of_ble_eq_true hA)) (by show Emb P ι (ZeA 0 pre).get w; rw [ZjR]; exact he)
  ⟨hn, fun k h1 h2 => by
   cases hk : ι k with
   | none => rfl
   | some b => exact absurd (hd k (by rw [hk]; simp)) (by have h3 : pre.length ≤ k := h1; have h4 : st.s.n ≤ 1000000000 := hn; have h5 : k < st.s.n := h2; unfold Zaz; omega)⟩
  (fun ι' a' w' g1 _ => hto ι w hd ι' a' w' (by have := g1; simp only [ZjR] at this; exact this))
 exact this
end
end Ev
end Go.Proofs.YtifdgbbbojccdaaGreat
/- Functions of loops as machines: states at loops' heads, and a step from each to the next one. -/
namespace Go.Proofs.YtifdgbbbojccdaaGreat
open Go.RowKit
namespace Ev
def ZA : List Zat → List Nat
 | [] => []
 | .rnd i :: K => i :: ZA K
 | .seq _ :: K => ZA K
 | .blk _ :: K => ZA K
 | .scp :: K => ZA K
def ZaV {X R : Type} (step : X → Option (X ⊕ R)) : Nat → X → Option R
 | 0, _ => none
 | n + 1, x => match step x with
  | none => none
  | some (.inl y) => ZaV step n y
  | some (.inr r) => some r
def goM {X R : Type} (step : X → Option (X ⊕ R)) (n : Nat) (o : Option (X ⊕ R)) : Option R :=
 match o with
 | none => none
 | some (.inl y) => ZaV step n y
 | some (.inr r) => some r
theorem ZbU (n : Nat) (h : Nat.ble n 1000000000 = true) : n ≤ far := Nat.le_of_ble_eq_true h
theorem ZiR {P : Program} {c : Code} {Q : Exit → Act → World → Prop} : ∀ (n m : Nat), n ≤ m → ∀ a w, Code.rounds P c Q n a w → Code.rounds P c Q m a w
 | 0, _, _, _, _, h => h.elim
 | n + 1, 0, hm, _, _, _ => by omega
 | n + 1, m + 1, hm, a, w, h => by
  rw [rounds_succ] at h ⊢
  refine wp_mono h ?_
  intro e a' w' h'
  cases e with
  | normal => exact ZiR n m (by omega) a' w' h'
  | exit i => exact h'
  | goto l => exact h'
  | ret => exact h'
  | panic ch => exact h'
  | outgrown => exact h'
theorem ZcI {P : Program} {fn : Func} {R : Ending → World → Prop} {Nx Nx' : Nat → Act → World → Prop} : ∀ {K : List Zat}, (∀ j ∈ ZA K, Nx' j = Nx j) → post P fn R Nx' K = post P fn R Nx K
 | [], _ => rfl
 | .seq b :: K, h => by simp only [post]; rw [ZcI (K := K) h]
 | .blk id :: K, h => by simp only [post]; rw [ZcI (K := K) h]
 | .scp :: K, h => by simp only [post]; rw [ZcI (K := K) h]
 | .rnd j :: K, h => by
  simp only [post]
  rw [ZcI (K := K) fun j hj => h j (List.mem_cons_of_mem _ hj), h j (List.mem_cons_self ..)]
noncomputable def Zd2 : Nat → List (Option AObj) → Tr AObj
 | _, [] => .nil
 | i, none :: l => Zd2 (i + 1) l
 | i, some o :: l => (Zd2 (i + 1) l).set i (some o)
theorem Zg2 : ∀ (l : List (Option AObj)) (i k : Nat), (Zd2 i l).get k = if i ≤ k then (l[k - i]?).join else none
 | [], i, k => by
  show (Tr.nil : Tr AObj).get k = _
  rw [Tr.get_nil]
  split <;> simp
 | none :: l, i, k => by
  show (Zd2 (i + 1) l).get k = _
  rw [Zg2 l (i + 1) k]
  by_cases h : i + 1 ≤ k
  ·rw [if_pos h, if_pos (by omega)]
   have : k - i = (k - (i + 1)) + 1 := by omega
   rw [this, List.getElem?_cons_succ]
  ·rw [if_neg h]
   by_cases hk : i ≤ k
   ·rw [if_pos hk, show k - i = 0 by omega]; rfl
   ·rw [if_neg hk]
 | some o :: l, i, k => by
  show ((Zd2 (i + 1) l).set i (some o)).get k = _
  rw [Tr.get_set]
  by_cases hk : k = i
  ·subst hk; rw [Zf, if_pos (Nat.le_refl _)]; simp
  ·rw [Zb hk, Zg2 l (i + 1) k]
   by_cases h : i + 1 ≤ k
   ·rw [if_pos h, if_pos (by omega)]
    have : k - i = (k - (i + 1)) + 1 := by omega
    rw [this, List.getElem?_cons_succ]
   ·rw [if_neg h, if_neg (by omega)]
theorem ZmX (l : List (Option AObj)) : (Zd2 0 l).get = lkO l := funext fun k => by rw [Zg2]; simp [lkO]
theorem Zhw {nt m : Nat} {lt : List (Nat × Value)} {H : List (Option AObj)} {T : Tr Value} {s : St} {live : List Nat} (hl : live.length = m) (hn : live.Nodup) (ht : Zek (rho live far) ((lt.map (·.1)).map T.get) lt) (hb : Zbu (rho live far) (live.map s.h.get) H) : ZlE nt m (fun t => ZK t lt) (Zd2 0 H) T s live := by
 refine ⟨hl, hn, fun t v _ h => ZjX ht t v h, fun j o ho => ?_⟩
 rw [ZmX] at ho
 exact ZdJ hb j o ho
structure Mach where
 fn : Func
 pre : List AObj
 X : Type
 R : Type
 step : X → Option (X ⊕ R)
 hd : X → Nat
 code : Nat → Code × List Zat
 isL : Nat → Bool
 L : X → List (Nat × Value)
 H : X → List (Option AObj)
 V : R → Value
 Po : R → List (Option AObj)
namespace Mach
def after (M : Mach) (n : Nat) : M.X ⊕ M.R → Option M.R
 | .inl y => ZaV M.step n y
 | .inr r => some r
def KK (M : Mach) (i : Nat) : List Zat := match M.isL i with | true => .rnd i :: (M.code i).2 | false => (M.code i).2
def IntoM (M : Mach) (y : M.X) (T : Tr Value) (s : St) : Prop :=
 ∃ live, Zc3 M.pre.length live = true ∧ ZlE M.fn.ntmps (M.H y).length (fun t => ZK t (M.L y)) (Zd2 0 (M.H y)) T s live
def To (M : Mach) (K0 : List Zat) : StopC → M.X ⊕ M.R → Prop
 | .fin u s, .inr r => ∃ live, Zns M.pre.length (M.V r) (M.Po r) u s live
 | .next j T s, .inl y => j = M.hd y ∧ M.isL j = true ∧ j ∈ ZA K0 ∧ M.IntoM y T s
 | .head b K T s, .inl y => M.isL (M.hd y) = true ∧ (b, K) = M.code (M.hd y) ∧ (∀ j ∈ ZA K, j ∈ ZA K0) ∧ M.IntoM y T s
 | .cut b K T s, .inl y => M.isL (M.hd y) = false ∧ (b, K) = M.code (M.hd y) ∧ (∀ j ∈ ZA K, j ∈ ZA K0) ∧ M.IntoM y T s
 | _, _ => False
noncomputable def Start (M : Mach) (x : M.X) (gv : Nat → Value) (P : Program) (ext : FuncId → Option Ext) (cd cm fu : Nat) (orc : Orc) : Option StopC :=
 Zbq P ext M.fn M.fn.ntmps cd fu cm (M.code (M.hd x)).1 (M.KK (M.hd x)) (tmps M.fn.ntmps (fun t => ZK t (M.L x)) gv) ⟨Zd2 0 (M.H x), (M.H x).length, [], orc, []⟩
noncomputable def Ok (M : Mach) (P : Program) (ext : FuncId → Option Ext) (x : M.X) (o : Option (M.X ⊕ M.R)) : Prop :=
 ∀ y, o = some y → ∀ gv, ∃ cd cm fu orc st, M.Start x gv P ext cd cm fu orc = some st ∧ (∀ p ∈ st.s.ob, p.1 = p.2) ∧ st.s.n ≤ far ∧ M.To (M.KK (M.hd x)) st y
def AtM (M : Mach) (P : Program) (ι0 : Ren) (w0 : World) (y : M.X) (gv : Nat → Value) (a : Act) (w : World) : Prop :=
 At P M.fn.ntmps (tmps M.fn.ntmps (fun t => ZK t (M.L y)) gv) (Zd2 0 (M.H y)).get (M.H y).length far ι0 (lk M.pre) w0 a w
section
variable {P : Program} {ext : FuncId → Option Ext}
def Good (M : Mach) (P : Program) (r : M.R) (ι0 : Ren) (w0 : World) (n : Nat) (x : M.X) (Nx : Nat → Act → World → Prop) (a : Act) (w : World) : Prop :=
 match M.isL (M.hd x) with
 | true => Code.rounds P (M.code (M.hd x)).1 (post P M.fn (Fin P ι0 M.pre w0 (M.V r) (M.Po r)) Nx (M.code (M.hd x)).2) n a w
 | false => (M.code (M.hd x)).1.wp P (post P M.fn (Fin P ι0 M.pre w0 (M.V r) (M.Po r)) Nx (M.code (M.hd x)).2) a w
def Outer (M : Mach) (P : Program) (r : M.R) (ι0 : Ren) (w0 : World) (n : Nat) (js : List Nat) (Nx : Nat → Act → World → Prop) : Prop :=
 ∀ m z, m < n → ZaV M.step m z = some r → M.isL (M.hd z) = true → M.hd z ∈ js → ∀ gv a w, M.AtM P ι0 w0 z gv a w → Nx (M.hd z) a w
theorem run1 (M : Mach) (hH : ∀ x, (M.H x).length ≤ far) (hPo : ∀ r, (M.Po r).length ≤ far) (r : M.R) {ι0 : Ren} {w0 : World} (hd0 : ∀ k, ι0 k ≠ none → k < M.pre.length ∨ Zaz k) (n : Nat)
  (ih : ∀ m, m ≤ n → ∀ x, ZaV M.step m x = some r → ∀ Nx, M.Outer P r ι0 w0 m (ZA (M.code (M.hd x)).2) Nx → ∀ gv a w, M.AtM P ι0 w0 x gv a w → M.Good P r ι0 w0 m x Nx a w)
  {K0 : List Zat} {Nx : Nat → Act → World → Prop} (hNx : M.Outer P r ι0 w0 (n + 1) (ZA K0) Nx) {st : StopC} {y : M.X ⊕ M.R} (hto : M.To K0 st y) (hy : M.after n y = some r)
  {ι : Ren} {a : Act} {w : World} (hS : Step P ι0 (lk M.pre) w0 ι st.s.h.get w) : Zg0 P M.fn (Fin P ι0 M.pre w0 (M.V r) (M.Po r)) Nx M.fn.ntmps ι a w st := by
 have sub : ∀ {K : List Zat}, (∀ j ∈ ZA K, j ∈ ZA K0) → M.Outer P r ι0 w0 n (ZA K) Nx := fun {K} hs m z hm hz hl hj gv a w hat => hNx m z (by omega) hz hl (hs _ hj) gv a w hat
 cases st with
 | fin u s =>
  cases y with
  | inl y => exact hto.elim
  | inr r' =>
   obtain ⟨live, hto⟩ := hto
   obtain rfl : r' = r := Option.some.inj hy
   exact fun v' hv => ZnY (hPo r') hd0 hto hS hv
 | next j T s =>
  cases y with
  | inr r' => exact hto.elim
  | inl y =>
   obtain ⟨rfl, hl, hj, live, hk, hi⟩ := hto
   intro hT
   obtain ⟨gv, hat⟩ := Zir (hH y) hi hk hd0 hT hS
   exact hNx n y (by omega) hy hl hj gv a w hat
 | head b K T s =>
  cases y with
  | inr r' => exact hto.elim
  | inl y =>
   obtain ⟨hl, hc, hsub, live, hk, hi⟩ := hto
   intro hT
   obtain ⟨gv, hat⟩ := Zir (hH y) hi hk hd0 hT hS
   have e1 : b = (M.code (M.hd y)).1 := congrArg Prod.fst hc
   have e2 : K = (M.code (M.hd y)).2 := congrArg Prod.snd hc
   subst e1 e2
   have := ih n (Nat.le_refl _) y hy Nx (sub hsub) gv a w hat
   unfold Good at this
   rw [hl] at this
   exact wp_loop_rounds n this
 | cut b K T s =>
  cases y with
  | inr r' => exact hto.elim
  | inl y =>
   obtain ⟨hl, hc, hsub, live, hk, hi⟩ := hto
   intro hT
   obtain ⟨gv, hat⟩ := Zir (hH y) hi hk hd0 hT hS
   have e1 : b = (M.code (M.hd y)).1 := congrArg Prod.fst hc
   have e2 : K = (M.code (M.hd y)).2 := congrArg Prod.snd hc
   subst e1 e2
   have := ih n (Nat.le_refl _) y hy Nx (sub hsub) gv a w hat
   unfold Good at this
   rw [hl] at this
   exact this
theorem rounds (F : Fit P ext) (M : Mach) (hH : ∀ x, (M.H x).length ≤ far) (hPo : ∀ r, (M.Po r).length ≤ far) (hK : ∀ x, M.isL (M.hd x) = true → M.hd x ∉ ZA (M.code (M.hd x)).2) (ok : ∀ x, M.Ok P ext x (M.step x)) (r : M.R) {ι0 : Ren} {w0 : World} (hd0 : ∀ k, ι0 k ≠ none → k < M.pre.length ∨ Zaz k) :
  ∀ (n : Nat) (x : M.X), ZaV M.step n x = some r → ∀ Nx, M.Outer P r ι0 w0 n (ZA (M.code (M.hd x)).2) Nx → ∀ gv a w, M.AtM P ι0 w0 x gv a w → M.Good P r ι0 w0 n x Nx a w := by
 intro n
 induction n using Nat.strongRecOn with
 | ind n ih =>
  intro x hx Nx hNx gv a w hat
  cases n with
  | zero => cases hx
  | succ n =>
   have hat0 := hat
   obtain ⟨ι, hT, hS, hfr⟩ := hat
   cases hy : M.step x with
   | none => simp only [ZaV, hy] at hx; cases hx
   | some y =>
    obtain ⟨cd, cm, fu, orc, st, hev, ho, hn, hto⟩ := ok x y hy gv
    have hyr : M.after n y = some r := by
     cases y <;> (simp only [ZaV, hy] at hx; exact hx)
    have fresh : Fresh ι (M.H x).length st.s.n := ⟨hn, fun k h1 h2 => hfr k h1 (Nat.lt_of_lt_of_le h2 hn)⟩
    have ih' : ∀ m, m ≤ n → ∀ x, ZaV M.step m x = some r → ∀ Nx, M.Outer P r ι0 w0 m (ZA (M.code (M.hd x)).2) Nx → ∀ gv a w, M.AtM P ι0 w0 x gv a w → M.Good P r ι0 w0 m x Nx a w := fun m hm => ih m (by omega)
    have go : ∀ Nx', M.Outer P r ι0 w0 (n + 1) (ZA (M.KK (M.hd x))) Nx' → (M.code (M.hd x)).1.wp P (post P M.fn (Fin P ι0 M.pre w0 (M.V r) (M.Po r)) Nx' (M.KK (M.hd x))) a w := fun Nx' hNx' =>
     (ZiQ F (R := Fin P ι0 M.pre w0 (M.V r) (M.Po r)) (Nx := Nx') fu).1 cm _ _ _ _ st hev ho ι a w hT hS.emb fresh fun ι' a' w' g1 _ => run1 M hH hPo r hd0 n ih' hNx' hto hyr (hS.trans g1)
    unfold Good
    cases hl : M.isL (M.hd x) with
    | false =>
     have e : M.KK (M.hd x) = (M.code (M.hd x)).2 := by unfold KK; rw [hl]
     rw [e] at go
     exact go Nx hNx
    | true =>
     have e : M.KK (M.hd x) = .rnd (M.hd x) :: (M.code (M.hd x)).2 := by unfold KK; rw [hl]
     rw [e] at go
     show Code.rounds P _ _ (n + 1) a w
     rw [rounds_succ]
     let Nx' : Nat → Act → World → Prop := fun j => if j = M.hd x then Code.rounds P (M.code (M.hd x)).1 (post P M.fn (Fin P ι0 M.pre w0 (M.V r) (M.Po r)) Nx (M.code (M.hd x)).2) n else Nx j
     have n1 : Nx' (M.hd x) = Code.rounds P (M.code (M.hd x)).1 (post P M.fn (Fin P ι0 M.pre w0 (M.V r) (M.Po r)) Nx (M.code (M.hd x)).2) n := if_pos rfl
     have n2 : ∀ j, j ≠ M.hd x → Nx' j = Nx j := fun j hj => if_neg hj
     have hp : post P M.fn (Fin P ι0 M.pre w0 (M.V r) (M.Po r)) Nx' (M.code (M.hd x)).2 = post P M.fn (Fin P ι0 M.pre w0 (M.V r) (M.Po r)) Nx (M.code (M.hd x)).2 := ZcI fun j hj => n2 j fun e => by subst e; exact hK x hl hj
     have := go Nx' fun m z hm hz hlz hj gv a w hat => by
      by_cases hzx : M.hd z = M.hd x
      ·rw [hzx, n1]
       have := ih m (by omega) z hz Nx (fun m' z' h1 h2 h3 h4 => hNx m' z' (by omega) h2 h3 (by rw [hzx] at h4; exact h4)) gv a w hat
       unfold Good at this
       rw [hlz] at this
       rw [hzx] at this
       exact ZiR m n (by omega) a w this
      ·rw [n2 _ hzx]
       rcases List.mem_cons.1 hj with h | h
       ·exact absurd h hzx
       ·exact hNx m z (by omega) hz hlz h gv a w hat
     simp only [post, hp, n1] at this
     exact this
noncomputable def Enter (M : Mach) (P : Program) (ext : FuncId → Option Ext) (A : Array Value) (o : Option (M.X ⊕ M.R)) : Prop :=
 ∀ y, o = some y → ∃ cd cm fu orc st, Zbq P ext M.fn M.fn.ntmps cd fu cm (Zd1 M.fn) [] (Zcz 0 A.toList .nil) ⟨ZeA 0 M.pre, M.pre.length, [], orc, []⟩ = some st ∧ (∀ p ∈ st.s.ob, p.1 = p.2) ∧ st.s.n ≤ far ∧ M.To [] st y
theorem spec (F : Fit P ext) (M : Mach) {f : FuncId} (hfn : P.funcs[f]? = some M.fn) (hb : M.fn.body = some (Zd1 M.fn)) {A : Array Value} (hA : Nat.ble A.size M.fn.ntmps = true) (hH : ∀ x, (M.H x).length ≤ far) (hPo : ∀ r, (M.Po r).length ≤ far) (hK : ∀ x, M.isL (M.hd x) = true → M.hd x ∉ ZA (M.code (M.hd x)).2)
  (ok : ∀ x, M.Ok P ext x (M.step x)) {o : Option (M.X ⊕ M.R)} (en : M.Enter P ext A o) {n : Nat} {r : M.R} (h : goM M.step n o = some r) : LSpec P f A M.pre (M.V r) (M.Po r) := by
 cases o with
 | none => cases h
 | some y =>
  obtain ⟨cd, cm, fu, orc, st, hev, ho, hn, hto⟩ := en y rfl
  refine Zmu F hfn hb hA hev ho hn fun ι0 w0 hd ι' a' w' hS => ?_
  exact run1 M hH hPo r hd n (fun m _ => rounds F M hH hPo hK ok r hd m) (K0 := []) (fun m z _ _ _ hj => by cases hj) hto (by cases y <;> exact h) hS
end
/-! ### How leaves are written -/
section
variable {P : Program} {ext : FuncId → Option Ext} {M : Mach} {x : M.X} {cd cm fu : Nat} {orc : Orc} {live : List Nat} {bl : List (Option AObj)} {ob : List (Bool × Bool)}
theorem ok_none : M.Ok P ext x none := fun _ h => by cases h
theorem ok_ite {c : Prop} [Decidable c] {A B : Option (M.X ⊕ M.R)} (h1 : c → M.Ok P ext x A) (h2 : ¬ c → M.Ok P ext x B) : M.Ok P ext x (if c then A else B) := by
 by_cases h : c
 ·rw [if_pos h]; exact h1 h
 ·rw [if_neg h]; exact h2 h
theorem ok_bind {α : Type} {o : Option α} {k : α → Option (M.X ⊕ M.R)} (h : ∀ r, o = some r → M.Ok P ext x (k r)) : M.Ok P ext x (o.bind k) := by
 cases o with
 | none => exact ok_none
 | some r => exact h r rfl
theorem ok_fin {r : M.R} {u : Value} (hev : ∀ gv, ZgO live (M.Start x gv P ext cd cm fu orc) = some (u, bl, ob)) (ho : ∀ p ∈ ob, p.1 = p.2) (hl : live.length = (M.Po r).length) (hn : live.Nodup) (hk : Zc3 M.pre.length live = true) (hv : M.V r = ZU (rho live far) 3 u ∧ ZI 3 u = true) (hbl : Zbu (rho live far) bl (M.Po r)) : M.Ok P ext x (some (.inr r)) := by
 intro y hy gv
 obtain rfl := Option.some.inj hy
 obtain ⟨s, h1, rfl, rfl, h4⟩ := Zg1 (hev gv)
 exact ⟨cd, cm, fu, orc, _, h1, ho, h4, live, hl, hn, hk, hv, ZdJ hbl⟩
theorem ok_next {y : M.X} {tv : (Nat → Value) → List (Option Value)} (hL : M.isL (M.hd y) = true) (hr : M.hd y ∈ ZA (M.KK (M.hd x))) (hev : ∀ gv, Zhv (M.hd y) live ((M.L y).map (·.1)) (M.Start x gv P ext cd cm fu orc) = some (tv gv, bl, ob)) (ho : ∀ p ∈ ob, p.1 = p.2) (hl : live.length = (M.H y).length) (hn : live.Nodup) (hk : Zc3 M.pre.length live = true) (ht : ∀ gv, Zek (rho live far) (tv gv) (M.L y)) (hbl : Zbu (rho live far) bl (M.H y)) : M.Ok P ext x (some (.inl y)) := by
 intro y' hy gv
 obtain rfl := Option.some.inj hy
 obtain ⟨T, s, h1, h2, rfl, rfl, h4⟩ := Zjd (hev gv)
 exact ⟨cd, cm, fu, orc, _, h1, ho, h4, rfl, hL, hr, live, hk, Zhw hl hn (h2 ▸ ht gv) hbl⟩
theorem ok_head {y : M.X} {tv : (Nat → Value) → List (Option Value)} {bK : Code × List Zat} (hL : M.isL (M.hd y) = true) (hr : bK = M.code (M.hd y)) (hsub : ∀ j ∈ ZA (M.code (M.hd y)).2, j ∈ ZA (M.KK (M.hd x))) (hev : ∀ gv, ZfK live ((M.L y).map (·.1)) (M.Start x gv P ext cd cm fu orc) = some (bK, tv gv, bl, ob)) (ho : ∀ p ∈ ob, p.1 = p.2) (hl : live.length = (M.H y).length) (hn : live.Nodup) (hk : Zc3 M.pre.length live = true) (ht : ∀ gv, Zek (rho live far) (tv gv) (M.L y)) (hbl : Zbu (rho live far) bl (M.H y)) : M.Ok P ext x (some (.inl y)) := by
 intro y' hy gv
 obtain rfl := Option.some.inj hy
 obtain ⟨T, s, h1, h2, rfl, rfl, h4⟩ := ZfV (hev gv)
 exact ⟨cd, cm, fu, orc, _, h1, ho, h4, hL, hr, by rw [hr]; exact hsub, live, hk, Zhw hl hn (h2 ▸ ht gv) hbl⟩
variable {A : Array Value}
noncomputable def startE (M : Mach) (P : Program) (ext : FuncId → Option Ext) (A : Array Value) (cd cm fu : Nat) (orc : Orc) : Option StopC :=
 Zbq P ext M.fn M.fn.ntmps cd fu cm (Zd1 M.fn) [] (Zcz 0 A.toList .nil) ⟨ZeA 0 M.pre, M.pre.length, [], orc, []⟩
theorem ZnE : M.Enter P ext A none := fun _ h => by cases h
theorem en_ite {c : Prop} [Decidable c] {B C : Option (M.X ⊕ M.R)} (h1 : c → M.Enter P ext A B) (h2 : ¬ c → M.Enter P ext A C) : M.Enter P ext A (if c then B else C) := by
 by_cases h : c
 ·rw [if_pos h]; exact h1 h
 ·rw [if_neg h]; exact h2 h
theorem en_bind {α : Type} {o : Option α} {k : α → Option (M.X ⊕ M.R)} (h : ∀ r, o = some r → M.Enter P ext A (k r)) : M.Enter P ext A (o.bind k) := by
 cases o with
 | none => exact ZnE
 | some r => exact h r rfl
theorem en_fin {r : M.R} {u : Value} (hev : ZgO live (M.startE P ext A cd cm fu orc) = some (u, bl, ob)) (ho : ∀ p ∈ ob, p.1 = p.2) (hl : live.length = (M.Po r).length) (hn : live.Nodup) (hk : Zc3 M.pre.length live = true) (hv : M.V r = ZU (rho live far) 3 u ∧ ZI 3 u = true) (hbl : Zbu (rho live far) bl (M.Po r)) : M.Enter P ext A (some (.inr r)) := by
 intro y hy
 obtain rfl := Option.some.inj hy
 obtain ⟨s, h1, rfl, rfl, h4⟩ := Zg1 hev
 exact ⟨cd, cm, fu, orc, _, h1, ho, h4, live, hl, hn, hk, hv, ZdJ hbl⟩
theorem en_head {y : M.X} {tv : List (Option Value)} {bK : Code × List Zat} (hL : M.isL (M.hd y) = true) (hr : bK = M.code (M.hd y)) (hsub : ZA (M.code (M.hd y)).2 = []) (hev : ZfK live ((M.L y).map (·.1)) (M.startE P ext A cd cm fu orc) = some (bK, tv, bl, ob)) (ho : ∀ p ∈ ob, p.1 = p.2) (hl : live.length = (M.H y).length) (hn : live.Nodup) (hk : Zc3 M.pre.length live = true) (ht : Zek (rho live far) tv (M.L y)) (hbl : Zbu (rho live far) bl (M.H y)) : M.Enter P ext A (some (.inl y)) := by
 intro y' hy
 obtain rfl := Option.some.inj hy
 obtain ⟨T, s, h1, rfl, rfl, rfl, h4⟩ := ZfV hev
 exact ⟨cd, cm, fu, orc, _, h1, ho, h4, hL, hr, (fun j hj => by rw [show bK.2 = (M.code (M.hd y)).2 from congrArg Prod.snd hr, hsub] at hj; cases hj), live, hk, Zhw hl hn ht hbl⟩
end
end Mach
/-! ### Functions without loops -/
section
variable {P : Program} {ext : FuncId → Option Ext} {fn : Func} {pre : List AObj} {A : Array Value} {R : Type} {V : R → Value} {Po : R → List (Option AObj)} {live : List Nat} {bl : List (Option AObj)} {ob : List (Bool × Bool)} {fu : Nat} {orc : Orc}
end
theorem ZaN {P : Program} {f : FuncId} {A A' : Array Value} {pre : List (Nat × AObj)} {v : Value} {post : List (Nat × Option AObj)} {n dn : Nat} (e : A = A') (h : ZO P f A' pre v post n dn) : ZO P f A pre v post n dn := e ▸ h
end Ev
end Go.Proofs.YtifdgbbbojccdaaGreat
/- Rows of elements of any kind: each element so many cells. -/
namespace Go.Proofs.YtifdgbbbojccdaaGreat
open Go.RowKit
namespace Ev
def ZdZ : List Cell → Bool
 | [] => true
 | .any :: _ => false
 | .i _ :: l => ZdZ l
 | .b _ :: l => ZdZ l
 | .k _ _ :: l => ZdZ l
 | .s _ :: l => ZdZ l
 | .m _ _ _ _ :: l => ZdZ l
structure Enc (α : Type) where
 cel : α → List Cell
 w : Nat
 dflt : α
 clen : ∀ a, (cel a).length = w
 sure : ∀ a, ZdZ (cel a) = true
def Enc.enc {α : Type} (E : Enc α) (a : α) : List Value := Zk (E.cel a)
theorem Enc.len {α : Type} (E : Enc α) (a : α) : (E.enc a).length = E.w := by unfold Enc.enc Zk; rw [List.length_map, E.clen]
def Zbz : Value → Bool
 | .pointer (some ⟨_, _, some _⟩) => true
 | .slice (some ⟨_, _, some _⟩) _ _ => true
 | v => atom v
theorem ZhS : ∀ l : List Cell, ZdZ l = true → Zj Zbz (Zk l) = true
 | [], _ => rfl
 | c :: l, h => by
  show (Zbz (Zbk c) && Zj Zbz (Zk l)) = true
  cases c with
  | any => cases h
  | _ => rw [ZhS l h]; rfl
theorem Enc.atoms {α : Type} (E : Enc α) (a : α) : Zj Zbz (E.enc a) = true := ZhS _ (E.sure a)
def Za {α : Type} (E : Enc α) (L : List α) : List Value := L.flatMap E.enc
def ZJ {α : Type} (E : Enc α) (L : List α) : List Cell := L.flatMap E.cel
section
variable {α : Type} {E : Enc α}
theorem ZfL : Za E [] = [] := rfl
theorem ZbE (x : α) (L : List α) : Za E (x :: L) = E.enc x ++ Za E L := rfl
theorem Zhx (L M : List α) : Za E (L ++ M) = Za E L ++ Za E M := by simp [Za]
theorem ZaG : ∀ L : List α, (Za E L).length = L.length * E.w
 | [] => by simp [ZfL]
 | x :: L => by rw [ZbE, List.length_append, ZaG L, E.len, List.length_cons, Nat.add_mul, Nat.one_mul, Nat.add_comm]
theorem ZiS : ∀ (i : Nat) (L : List α), (Za E L).drop (i * E.w) = Za E (L.drop i)
 | 0, L => by simp
 | i + 1, [] => by simp [ZfL]
 | i + 1, x :: L => by
  rw [ZbE, List.drop_succ_cons, ← ZiS i L, Nat.add_mul, Nat.one_mul, Nat.add_comm, ← List.drop_drop, ← E.len x, List.drop_left]
theorem ZiT : ∀ (i : Nat) (L : List α), (Za E L).take (i * E.w) = Za E (L.take i)
 | 0, L => by simp [ZfL]
 | i + 1, [] => by simp [ZfL]
 | i + 1, x :: L => by
  rw [ZbE, List.take_succ_cons, ZbE, ← ZiT i L, Nat.add_mul, Nat.one_mul, Nat.add_comm, List.take_append, E.len]
  rw [List.take_of_length_le (by rw [E.len]; omega), Nat.add_sub_cancel_left]
theorem Zg3 {L : List α} {i : Nat} (h : i < L.length) (d : α) : L.drop i = L.getD i d :: L.drop (i + 1) := by
 rw [List.getD_eq_getElem?_getD, List.getElem?_eq_getElem h, Option.getD_some]
 exact List.drop_eq_getElem_cons h
theorem Zix {L : List α} {o i q : Nat} (hi : i < L.length) (ho : o = i * E.w + q) (hq : q ≤ E.w) : (Za E L).drop o = (E.enc (L.getD i E.dflt)).drop q ++ Za E (L.drop (i + 1)) := by
 subst ho
 rw [← List.drop_drop, ZiS, Zg3 hi E.dflt, ZbE, List.drop_append, E.len, Nat.sub_eq_zero_of_le hq, List.drop_zero]
theorem Zex {β : Type} : ∀ (m : Nat) (l : List β), m ≤ l.length → Zl m l = some (l.take m)
 | 0, l, _ => by simp [Zl]
 | m + 1, [], h => by simp at h
 | m + 1, x :: l, h => by
  simp only [Zl]
  rw [Zex m l (by simpa using h)]
  rfl
theorem ZmY {L : List α} {o i q m : Nat} (hi : i < L.length) (ho : o = i * E.w + q) (hq : q + m ≤ E.w) : Zl m ((Za E L).drop o) = some (((E.enc (L.getD i E.dflt)).drop q).take m) := by
 have hl := E.len (L.getD i E.dflt)
 rw [Zix hi ho (by omega), Zex _ _ (by simp only [List.length_append, List.length_drop, hl]; omega), List.take_append]
 have : m - ((E.enc (L.getD i E.dflt)).drop q).length = 0 := by simp only [List.length_drop, hl]; omega
 rw [this, List.take_zero, List.append_nil]
theorem Zbv : ∀ {cs : List Cell}, ZdZ cs = true → ZaM (Zk cs) cs = true
 | [], _ => rfl
 | c :: l, h => by
  cases c with
  | any => cases h
  | i n => show ((n == n) && ZaM (Zk l) l) = true; rw [Zbv (cs := l) h]; simp
  | b q => show ((q == q) && ZaM (Zk l) l) = true; rw [Zbv (cs := l) h]; simp
  | s x => show (dP (x = x) && ZaM (Zk l) l) = true; rw [Zbv (cs := l) h]; simp [dP]
  | m id o n c =>
   show (dP (Zbk (.m id o n c) = Zbk (.m id o n c)) && ZaM (Zk l) l) = true
   rw [Zbv (cs := l) h, Z2 rfl]; rfl
  | k kk n =>
   by_cases hk : kk = .i64
   ·subst hk; show ((decide (IntKind.i64 = IntKind.i64) && (n == n)) && ZaM (Zk l) l) = true; rw [Zbv (cs := l) h]; simp
   ·have e : ZaM (.int kk n :: Zk l) (.k kk n :: l) = ((decide (kk = kk) && (n == n)) && ZaM (Zk l) l) := by cases kk <;> rfl
    show ZaM (.int kk n :: Zk l) (.k kk n :: l) = true
    rw [e, Zbv (cs := l) h]; simp
theorem Zn {L : List α} {o i q m : Nat} {cs : List Cell} (hi : i < L.length) (ho : o = i * E.w + q) (hq : q + m ≤ E.w) (hs : ZdZ cs = true) (hc : ((E.enc (L.getD i E.dflt)).drop q).take m = Zk cs) : Z4 (Zl m ((Za E L).drop o)) cs = true := by
 rw [ZmY hi ho hq, hc]
 exact Zbv hs
theorem ZmZ {L : List α} {o i q : Nat} {l : List Value} (x : α) (hi : i < L.length) (ho : o = i * E.w + q) (hq : q + l.length ≤ E.w) (hx : Zdd (E.enc (L.getD i E.dflt)) q l = E.enc x) : o + l.length ≤ (Za E L).length ∧ Zdd (Za E L) o l = Za E (L.set i x) := by
 have hl := E.len (L.getD i E.dflt)
 have hle : o + l.length ≤ (Za E L).length := by
  have : (i + 1) * E.w ≤ L.length * E.w := Nat.mul_le_mul_right _ hi
  rw [Nat.add_mul, Nat.one_mul] at this
  rw [ZaG]; omega
 refine ⟨hle, ?_⟩
 have e1 : L.set i x = L.take i ++ x :: L.drop (i + 1) := by rw [List.set_eq_take_append_cons_drop, if_pos hi]
 rw [e1, Zhx, ZbE, ← hx]
 unfold Zdd
 have h1 : (Za E L).take o = Za E (L.take i) ++ (E.enc (L.getD i E.dflt)).take q := by
  have hd : Za E L = Za E (L.take i) ++ (E.enc (L.getD i E.dflt) ++ Za E (L.drop (i + 1))) := by
   rw [← ZbE, ← Zg3 hi, ← Zhx, List.take_append_drop]
  rw [hd, List.take_append]
  have hlen : (Za E (L.take i)).length = i * E.w := by rw [ZaG, List.length_take]; rw [Nat.min_eq_left (by omega)]
  rw [List.take_of_length_le (by omega), hlen, show o - i * E.w = q by omega, List.take_append]
  rw [show q - (E.enc (L.getD i E.dflt)).length = 0 by omega, List.take_zero, List.append_nil]
 have h2 : (Za E L).drop (o + l.length) = (E.enc (L.getD i E.dflt)).drop (q + l.length) ++ Za E (L.drop (i + 1)) := Zix hi (by omega) hq
 rw [h1, h2]
 simp
theorem Zkd {L M R : List α} {n m : Nat} (hm : m = n * E.w) (hn : n ≤ L.length) (hR : L.take n ++ M = R) : m ≤ (Za E L).length ∧ (Za E L).take m ++ Za E M = Za E R := by
 subst hm hR
 refine ⟨by rw [ZaG]; exact Nat.mul_le_mul_right _ hn, ?_⟩
 rw [ZiT, Zhx]
/-! ### The same, as told cells -/
theorem ZfM : ZJ E [] = [] := rfl
theorem ZdK (x : α) (L : List α) : ZJ E (x :: L) = E.cel x ++ ZJ E L := rfl
theorem Zey : ∀ L : List α, (ZJ E L).length = L.length * E.w
 | [] => by simp [ZfM]
 | x :: L => by rw [ZdK, List.length_append, Zey L, E.clen, List.length_cons, Nat.add_mul, Nat.one_mul, Nat.add_comm]
theorem Zg4 : ∀ (i : Nat) (L : List α), (ZJ E L).drop (i * E.w) = ZJ E (L.drop i)
 | 0, L => by simp
 | i + 1, [] => by simp [ZfM]
 | i + 1, x :: L => by
  rw [ZdK, List.drop_succ_cons, ← Zg4 i L, Nat.add_mul, Nat.one_mul, Nat.add_comm, ← List.drop_drop, ← E.clen x, List.drop_left]
theorem ZiU : ∀ (i : Nat) (L : List α), (ZJ E L).take (i * E.w) = ZJ E (L.take i)
 | 0, L => by simp [ZfM]
 | i + 1, [] => by simp [ZfM]
 | i + 1, x :: L => by
  rw [ZdK, List.take_succ_cons, ZdK, ← ZiU i L, Nat.add_mul, Nat.one_mul, Nat.add_comm, List.take_append, E.clen]
  rw [List.take_of_length_le (by rw [E.clen]; omega), Nat.add_sub_cancel_left]
theorem Zla {L : List α} {o i q : Nat} (hi : i < L.length) (ho : o = i * E.w + q) (hq : q ≤ E.w) : (ZJ E L).drop o = (E.cel (L.getD i E.dflt)).drop q ++ ZJ E (L.drop (i + 1)) := by
 subst ho
 rw [← List.drop_drop, Zg4, Zg3 hi E.dflt, ZdK, List.drop_append, E.clen, Nat.sub_eq_zero_of_le hq, List.drop_zero]
theorem Zna {L : List α} {o i q m : Nat} (hi : i < L.length) (ho : o = i * E.w + q) (hq : q + m ≤ E.w) : Zl m ((ZJ E L).drop o) = some (((E.cel (L.getD i E.dflt)).drop q).take m) := by
 have hl := E.clen (L.getD i E.dflt)
 rw [Zla hi ho (by omega), Zex _ _ (by simp only [List.length_append, List.length_drop, hl]; omega), List.take_append]
 have : m - ((E.cel (L.getD i E.dflt)).drop q).length = 0 := by simp only [List.length_drop, hl]; omega
 rw [this, List.take_zero, List.append_nil]
theorem Znb {L R : List α} {o a n m : Nat} (ha : a + n ≤ L.length) (ho : o = a * E.w) (hm : m = n * E.w) (hR : (L.drop a).take n = R) : Zl m ((ZJ E L).drop o) = some (ZJ E R) := by
 subst ho hm hR
 rw [Zg4, Zex, ZiU]
 rw [Zey, List.length_drop]
 exact Nat.mul_le_mul_right _ (by omega)
theorem Zmv {L : List α} (j : Nat) (hw : 0 < E.w) : (ZJ E L)[j]? = if h : j / E.w < L.length then (E.cel (L[j / E.w]'h))[j % E.w]? else none := by
 by_cases h : j / E.w < L.length
 ·rw [dif_pos h]
  have hj : j = (j / E.w) * E.w + j % E.w := by rw [Nat.mul_comm]; exact (Nat.div_add_mod j E.w).symm
  have hr : j % E.w < E.w := Nat.mod_lt _ hw
  have := Zla (E := E) h hj (Nat.le_of_lt hr)
  have h0 : ((ZJ E L).drop j)[0]? = (ZJ E L)[j]? := by rw [List.getElem?_drop]; rfl
  rw [← h0, this, List.getElem?_append_left (by rw [List.length_drop, E.clen]; omega), List.getElem?_drop, Nat.add_zero]
  rw [List.getD_eq_getElem?_getD, List.getElem?_eq_getElem h, Option.getD_some]
 ·rw [dif_neg h, List.getElem?_eq_none]
  rw [Zey]
  have : L.length ≤ j / E.w := by omega
  exact (Nat.le_div_iff_mul_le hw).1 this
/-! ### Such a row is a row of atoms -/
theorem ZeC : ∀ L : List α, Zj Zbz (Za E L) = true
 | [] => rfl
 | x :: L => by
  have app : ∀ (a b : List Value), Zj Zbz a = true → Zj Zbz b = true → Zj Zbz (a ++ b) = true := by
   intro a b ha hb
   induction a with
   | nil => exact hb
   | cons y a ih =>
    simp only [Zj, Bool.and_eq_true] at ha
    show (Zbz y && Zj Zbz (a ++ b)) = true
    rw [ha.1, ih ha.2]; rfl
  rw [ZbE]
  exact app _ _ (E.atoms x) (ZeC L)
theorem Zhy {p q : Value → Bool} (h : ∀ v, p v = true → q v = true) : ∀ {l : List Value}, Zj p l = true → Zj q l = true
 | [], _ => rfl
 | x :: l, hl => by
  simp only [Zj, Bool.and_eq_true] at hl ⊢
  exact ⟨h x hl.1, Zhy h hl.2⟩
theorem ZeS {v : Value} (h : Zbz v = true) : (∃ k o z, v = .pointer (some ⟨k, o, some z⟩)) ∨ (∃ k o z n c, v = .slice (some ⟨k, o, some z⟩) n c) ∨ atom v = true := by
 unfold Zbz at h
 split at h
 ·exact .inl ⟨_, _, _, rfl⟩
 ·exact .inr (.inl ⟨_, _, _, _, _, rfl⟩)
 ·exact .inr (.inr h)
theorem Zke (d : Nat) {v : Value} (h : Zbz v = true) : ZI d v = true := by
 rcases ZeS h with ⟨k, o, z, rfl⟩ | ⟨k, o, z, n, c, rfl⟩ | h
 ·cases d <;> rfl
 ·cases d <;> rfl
 ·cases v with
  | agg => simp [atom] at h
  | tuple => simp [atom] at h
  | func f a b =>
   cases f with
   | func f =>
    simp only [atom, Bool.and_eq_true, Array.isEmpty_iff] at h
    obtain ⟨rfl, rfl⟩ := h
    cases d <;> rfl
   | _ => simp [atom] at h
  | _ => cases d <;> rfl
theorem ZlM (m d : Nat) {v : Value} (h : Zbz v = true) : Zam m d v = true := by
 rcases ZeS h with ⟨k, o, z, rfl⟩ | ⟨k, o, z, n, c, rfl⟩ | h
 ·cases d <;> rfl
 ·cases d <;> rfl
 ·cases v with
  | agg => simp [atom] at h
  | tuple => simp [atom] at h
  | pointer a => cases a with
   | none => cases d <;> exact h
   | some a => simp [atom] at h
  | slice a n c => cases a with
   | none => cases d <;> exact h
   | some a => simp [atom] at h
  | map a => cases a with
   | none => cases d <;> exact h
   | some a => simp [atom] at h
  | _ => cases d <;> exact h
theorem ZlN {ρ : Nat → Nat} (d : Nat) {v : Value} (h : Zbz v = true) : ZU ρ d v = v := by
 rcases ZeS h with ⟨k, o, z, rfl⟩ | ⟨k, o, z, n, c, rfl⟩ | h
 ·cases d <;> rfl
 ·cases d <;> rfl
 ·exact ZdH d h
theorem Zlb (ρ : Nat → Nat) (d : Nat) (L : List α) : (Za E L).map (ZU ρ d) = Za E L := by
 have : ∀ l : List Value, Zj Zbz l = true → l.map (ZU ρ d) = l := fun l => by
  induction l with
  | nil => intro _; rfl
  | cons y l ih =>
   intro h
   simp only [Zj, Bool.and_eq_true] at h
   rw [List.map_cons, ih h.2, ZlN d h.1]
 exact this _ (ZeC L)
theorem ZkG (d : Nat) (L : List α) : Zj (ZI d) (Za E L) = true := Zhy (fun _ => Zke d) (ZeC L)
theorem ZW (m d : Nat) (L : List α) : Zj (Zam m d) (Za E L) = true := Zhy (fun _ => ZlM m d) (ZeC L)
theorem Zq (ρ : Nat → Nat) (L : List α) (t : TypeId) : ZgM ρ (.cells (Za E L) t) (.cells (Za E L) t) := ⟨rfl, ⟨[], by rw [Zlb, List.append_nil]⟩, ZkG 1 L⟩
theorem ZhT (ρ : Nat → Nat) {c : List Value} {L : List α} (t : TypeId) (h : c = Za E L) : ZgM ρ (.cells c t) (.cells (Za E L) t) := h ▸ Zq ρ L t
theorem Zbf (ρ : Nat → Nat) (L : List α) (t : TypeId) : AObj.cells (Za E L) t = ZeQ ρ (.cells (Za E L) t) := by
 show _ = AObj.cells ((Za E L).map (ZU ρ 1)) t
 rw [Zlb]
end
theorem Zoi {b : Bool} (h : ¬ (b = true)) : (!b) = true := by cases b <;> simp_all
theorem Zmw {b : Bool} (h : b = true) : (!b) = false := by subst h; rfl
abbrev vi (x : Int) : Value := .int .i64 x
abbrev vs (k o n c : Nat) : Value := .slice (some ⟨k, o, none⟩) n c
theorem bT {a b : Int} (h : a = b) : (a == b) = true := beq_iff_eq.2 h
theorem bF {a b : Int} (h : ¬ a = b) : (a == b) = false := beq_eq_false_iff_ne.2 h
/-! ### Rows that never change -/
noncomputable def mc {α : Type} (E : Enc α) (L : List α) : Cell := .m (code (ZJ E L)) 0 L.length L.length
noncomputable abbrev ms {α : Type} (E : Enc α) (L : List α) : Value := .slice (some ⟨code (ZJ E L), 0, some 0⟩) L.length L.length
noncomputable abbrev mp {α : Type} (E : Enc α) (L : List α) (o : Nat) : Value := .pointer (some ⟨code (ZJ E L), o, some 0⟩)
theorem ZfN {α : Type} {E : Enc α} {L : List α} {o i q m : Nat} {cs : List Cell} (hi : i < L.length) (ho : o = i * E.w + q) (hq : q + m ≤ E.w) (hc : ((E.cel (L.getD i E.dflt)).drop q).take m = cs) : Zab (code (ZJ E L)) o m = some cs := by
 unfold Zab
 rw [ZaW]
 show Zl m ((ZJ E L).drop o) = some cs
 rw [Zna hi ho hq, hc]
theorem Znc {α : Type} {E : Enc α} {L R : List α} {o a n m : Nat} (ha : a + n ≤ L.length) (ho : o = a * E.w) (hm : m = n * E.w) (hR : (L.drop a).take n = R) : Zab (code (ZJ E L)) o m = some (ZJ E R) := by
 unfold Zab
 rw [ZaW]
 exact Znb ha ho hm hR
theorem Zea {α : Type} {E : Enc α} (L : List α) : Za E L = Zk (ZJ E L) := by
 unfold Za ZJ Zk Enc.enc Zk
 rw [List.map_flatMap]
theorem Znw {α : Type} {E : Enc α} {L R : List α} {l h size : Nat} (h1 : l ≤ h) (h2 : h ≤ L.length) (hs : size = E.w) (hR : R = (L.drop l).take (h - l)) :
  l ≤ h ∧ h ≤ L.length ∧ Zab (code (ZJ E L)) (0 + l * size) (ZJ E R).length = some (ZJ E R) ∧ (h - l) * size = (ZJ E R).length ∧ R.length = h - l := by
 have hl : R.length = h - l := by rw [hR, List.length_take, List.length_drop]; omega
 have hc : (ZJ E R).length = (h - l) * size := by rw [Zey, hl, hs]
 refine ⟨h1, h2, ?_, hc.symm, hl⟩
 rw [hc]
 exact Znc (a := l) (n := h - l) (by omega) (by rw [hs]; omega) (by rw [hs]) hR.symm
/-! ### Bytes as strings -/
end Ev
end Go.Proofs.YtifdgbbbojccdaaGreat
/- Arguments that are slices, opened: the block they lie in, and each element as what is read of it. -/
namespace Go.Proofs.YtifdgbbbojccdaaGreat
open Go.ChangeShapes Go.WideShapes Go.ChangeAt Go.RowKit Go.Deep
namespace Ev
section
variable {H : Type} {enc : TypeId × Value → H} {P : Program} {w : World}
def Trd (enc : TypeId × Value → H) (P : Program) (w : World) (t : TypeId) (cs : List Value) : Prop := ∃ n y, DataW.trod enc P w 0 (fun _ => true) true n t cs = some y
def Elems (enc : TypeId × Value → H) (P : Program) (w : World) (e : TypeId) (O : Obj) (o cap : Nat) : Prop :=
 ∀ i, i < cap → ∃ C t fr cs, O = .cells C t fr ∧ cs.length = P.cellsOf e ∧ (∀ j, j < P.cellsOf e → C[o + (i * P.cellsOf e + j)]? = cs[j]?) ∧ Trd enc P w e cs
theorem Zmx {t : TypeId} {fs : Array Field} {cs : List Value} (ht : P.underlying t = some (.struct fs)) (h : Trd enc P w t cs) (i : Nat) {f : Field} (hf : fs[i]? = some f) : Trd enc P w f.type ((cs.drop f.offset).take (P.cellsOf f.type)) := by
 obtain ⟨n, y, h⟩ := h
 obtain ⟨xs, n', _, _, _, hxl, hfl⟩ := DataW.trod_struct ht h
 have hi : i < fs.size := (Array.getElem?_eq_some_iff.1 hf).1
 have := hfl i f hf
 rw [List.getElem?_eq_getElem (show i < xs.length by omega)] at this
 exact ⟨n', _, this⟩
theorem ZnF {t : TypeId} {k : IntKind} {cs : List Value} (ht : P.underlying t = some (.int k)) (h : Trd enc P w t cs) : ∃ z, cs = [.int k z] ∧ k.min ≤ z ∧ z ≤ k.max := by
 obtain ⟨n, y, h⟩ := h
 obtain ⟨z, e0, _, wx⟩ := DataW.trod_int ht h
 simp only [Lit.wf, Bool.and_eq_true, decide_eq_true_eq] at wx
 exact ⟨z, e0, wx.1, wx.2⟩
theorem Zmy {t e : TypeId} {cs : List Value} (ht : P.underlying t = some (.slice e)) (hpos : 0 < P.cellsOf e) (h : Trd enc P w t cs) :
  (∃ a, cs = [.slice a 0 0]) ∨ ∃ (b o len cap : Nat) (O : Obj), cs = [.slice (some ⟨b, o, none⟩) len cap] ∧ 0 < cap ∧ len ≤ cap ∧ cap ≤ 9223372036854775807 ∧ w.heap[b]? = some O ∧ Elems enc P w e O o cap := by
 obtain ⟨n0, y, h⟩ := h
 rcases open_slice ht h with ⟨hcs, _⟩ | ⟨a, len, cap, m, n, D, Pl, hcs, hb, hl, hm, hmm, hx, hi⟩
 ·exact .inl ⟨_, hcs⟩
 ·simp only [if_true] at hmm
  subst hmm
  rcases Nat.eq_zero_or_pos m with h0 | h0
  ·subst h0
   obtain rfl : len = 0 := by omega
   exact .inl ⟨_, hcs⟩
  ·right
   obtain ⟨cs0, hc0, _⟩ := hi 0 h0
   obtain ⟨_, hcl0, hat0⟩ := World.cells?_some hc0
   have h1 := hat0 0 hpos
   rw [Nat.zero_mul] at h1
   have ha0 : (a.add 0).add 0 = a := by simp [Addr.add]
   rw [ha0] at h1
   have h2 : w.cell? a = some (cs0[0]'(by omega)) := h1.trans (List.getElem?_eq_getElem (by omega))
   obtain ⟨b, o, spot⟩ := a
   have hspot : spot = none := by
    unfold World.cell? at h2
    split at h2
    ·cases spot with
     | none => rfl
     | some z => simp at h2
    ·cases h2
   subst hspot
   obtain ⟨C, el, fr, hB, _⟩ := ZfU h2
   refine ⟨b, o, len, m, _, hcs, h0, hl, by unfold maxLen at hm; omega, hB, fun i hi' => ?_⟩
   obtain ⟨cs', hc, ht'⟩ := hi i hi'
   obtain ⟨_, hcl, hat⟩ := World.cells?_some hc
   refine ⟨C, el, fr, cs', rfl, hcl, fun j hj => ?_, n, _, ht'⟩
   have h1 := hat j hj
   rw [Go.Deep.add_add] at h1
   have h2 : w.cell? ⟨b, o + (i * P.cellsOf e + j), none⟩ = some (cs'[j]'(by omega)) := by
    have : (⟨b, o, none⟩ : Addr).add (i * P.cellsOf e + j) = ⟨b, o + (i * P.cellsOf e + j), none⟩ := Go.WideShapes.add_plain b o _
    rw [← this, h1]
    exact List.getElem?_eq_getElem (by omega)
   obtain ⟨C', t', fr', hB', hv'⟩ := ZfU h2
   rw [hB] at hB'
   injection hB' with hB'
   injection hB' with e1 e2 e3
   subst e1
   rw [hv']
   exact (List.getElem?_eq_getElem (by omega)).symm
def DecL (w : World) (cs : List Value) (l : List Cell) : Prop := cs.length = l.length ∧ ∀ (i : Nat) x y, l[i]? = some x → cs[i]? = some y → DecC w x y
theorem Zlc {w : World} {cs : List Value} {l : List Cell} (hl : cs.length = l.length) (h : ∀ (i : Nat) x, l[i]? = some x → ∃ y, cs[i]? = some y ∧ DecC w x y) : DecL w cs l :=
 ⟨hl, fun i x y hx hy => by
  obtain ⟨y', h1, h2⟩ := h i x hx
  rw [hy] at h1
  injection h1 with h1
  subst h1
  exact h2⟩
theorem Zmz {w : World} {cs : List Value} {k : Nat} : ∀ (j : Nat) x, ([] : List Cell)[j]? = some x → ∃ y, cs[k + j]? = some y ∧ DecC w x y := fun j x h => by simp at h
theorem ZbZ {w : World} {cs : List Value} {b : Cell} {l : List Cell} {k : Nat} {y : Value} (hx : cs[k]? = some y) (hd : DecC w b y) (t : ∀ (j : Nat) x, l[j]? = some x → ∃ y, cs[k + 1 + j]? = some y ∧ DecC w x y) :
  ∀ (j : Nat) x, (b :: l)[j]? = some x → ∃ y, cs[k + j]? = some y ∧ DecC w x y := fun j x h => by
 cases j with
 | zero => injection h with h; subst h; exact ⟨y, hx, hd⟩
 | succ j =>
  obtain ⟨y', h1, h2⟩ := t j x (by simpa using h)
  exact ⟨y', by rw [show k + (j + 1) = k + 1 + j by omega]; exact h1, h2⟩
theorem DecL.vr {w : World} {cs : List Value} {l : List Cell} (h : DecL w cs l) : VRs (ιMk w) (Zk l).toArray cs.toArray :=
 ⟨by simp [Zk, h.1], fun i x y hx hy => by
  have hx' : (Zk l)[i]? = some x := by simpa using hx
  have hy' : cs[i]? = some y := by simpa using hy
  unfold Zk at hx'
  rw [List.getElem?_map] at hx'
  cases hb : l[i]? with
  | none => rw [hb] at hx'; cases hx'
  | some z =>
   rw [hb] at hx'
   injection hx' with hx'
   subst hx'
   exact (h.2 i z y hb hy').vr⟩
theorem pick1 {α : Type} {n : Nat} (d : α) {R : Nat → α → Prop} (h : ∀ i, i < n → ∃ x, R i x) : ∃ f : Nat → α, ∀ i, i < n → R i (f i) := by
 classical
 refine ⟨fun i => if hi : i < n then (h i hi).choose else d, fun i hi => ?_⟩
 simp only [hi, dite_true]
 exact (h i hi).choose_spec
theorem ZiV {α : Type} {E : Enc α} {Q : α → Prop} {t e : TypeId} {cs : List Value} (ht : P.underlying t = some (.slice e)) (hw : P.cellsOf e = E.w) (hpos : 0 < E.w)
  (hel : ∀ cs, cs.length = E.w → Trd enc P w e cs → ∃ x : α, DecL w cs (E.cel x) ∧ Q x) (h : Trd enc P w t cs) : ∃ (L : List α) (v : Value), cs = [v] ∧ DecC w (mc E L) v ∧ L.length ≤ 9223372036854775807 ∧ ∀ x ∈ L, Q x := by
 rcases Zmy ht (by omega) h with ⟨a, rfl⟩ | ⟨b, o, len, cap, O, rfl, h0, hl, hm, hB, hE⟩
 ·exact ⟨[], _, rfl, .m0, by simp, fun x hx => by cases hx⟩
 ·have each : ∀ i, i < len → ∃ x : α, (∃ C t fr, O = .cells C t fr ∧ ∀ j y, (E.cel x)[j]? = some y → ∃ v, C[o + (i * E.w + j)]? = some v ∧ DecC w y v) ∧ Q x := fun i hi => by
   obtain ⟨C, t, fr, cs, hO, hcl, hc, htr⟩ := hE i (by omega)
   obtain ⟨x, hd, hq⟩ := hel cs (by omega) htr
   refine ⟨x, ⟨C, t, fr, hO, fun j y hy => ?_⟩, hq⟩
   have hj : j < cs.length := by rw [hd.1]; exact (List.getElem?_eq_some_iff.1 hy).1
   rw [← hw]
   refine ⟨cs[j], ?_, hd.2 j y _ hy (List.getElem?_eq_getElem hj)⟩
   rw [hc j (by omega)]
   exact List.getElem?_eq_getElem hj
  obtain ⟨G, hG⟩ := pick1 E.dflt each
  obtain ⟨C, t, fr, cs0, hO, _⟩ := hE 0 h0
  subst hO
  refine ⟨(List.range len).map G, _, rfl, ?_, by simp; omega, fun x hx => ?_⟩
  ·have hlen : ((List.range len).map G).length = len := by simp
   unfold mc
   rw [hlen]
   refine .m (base := o) (.mk (ZaW _) hB (fun hp => ?_) fun i x y hx hy => ?_) (Nat.le_refl _) hl
   ·rw [Zey, hlen] at hp ⊢
    have hlen0 : 0 < len := by
     rcases Nat.eq_zero_or_pos len with e0 | e0
     ·subst e0; simp at hp
     ·exact e0
    obtain ⟨⟨C', t', fr', hO', hx'⟩, _⟩ := hG (len - 1) (by omega)
    injection hO' with e1 e2 e3
    subst e1
    have hw1 : (E.cel (G (len - 1))).length = E.w := E.clen _
    obtain ⟨v, hv, _⟩ := hx' (E.w - 1) _ (List.getElem?_eq_getElem (by omega))
    have := (Array.getElem?_eq_some_iff.1 hv).1
    have e2 : (len - 1) * E.w + E.w = len * E.w := by rw [← Nat.succ_mul]; congr 1; omega
    omega
   ·rw [Zmv i hpos] at hx
    split at hx
    ·rename_i hlt
     rw [List.getElem_map, List.getElem_range] at hx
     obtain ⟨⟨C', t', fr', hO', hx'⟩, _⟩ := hG (i / E.w) (by rw [hlen] at hlt; exact hlt)
     injection hO' with e1 e2 e3
     subst e1
     obtain ⟨v, hv, hd⟩ := hx' (i % E.w) x hx
     have e : i / E.w * E.w + i % E.w = i := by rw [Nat.mul_comm]; exact Nat.div_add_mod i E.w
     rw [e, hy] at hv
     injection hv with hv
     subst hv
     exact hd
    ·cases hx
  ·obtain ⟨i, hi, rfl⟩ := List.mem_map.1 hx
   exact (hG i (List.mem_range.1 hi)).2
theorem ZkH {cs : List Value} {j m : Nat} {v : Value} (h : (cs.drop j).take m = [v]) (hm : m = 1) : cs[j]? = some v := by
 subst hm
 have : ((cs.drop j).take 1)[0]? = some v := by rw [h]; rfl
 rwa [List.getElem?_take_of_lt (by decide), List.getElem?_drop, Nat.add_zero] at this
/-! ### Parts of a value, by where they lie among its cells -/
def ZeD (enc : TypeId × Value → H) (P : Program) (w : World) (t : TypeId) (cs : List Value) (o : Nat) : Prop := Trd enc P w t ((cs.drop o).take (P.cellsOf t))
theorem Zm0 {t : TypeId} {cs : List Value} {c : Nat} (hc : P.cellsOf t = c) (hl : cs.length = c) (h : Trd enc P w t cs) : ZeD enc P w t cs 0 := by
 unfold ZeD
 rw [List.drop_zero, List.take_of_length_le (by omega)]
 exact h
theorem Znd {cs : List Value} {o m a k : Nat} (h : a + k ≤ m) : (((cs.drop o).take m).drop a).take k = (cs.drop (o + a)).take k := by
 rw [List.drop_take, List.take_take, List.drop_drop, Nat.min_eq_left (by omega)]
theorem Zbw {t te : TypeId} {fs : Array Field} {cs : List Value} {o o' : Nat} (fo c ct : Nat) (ht : P.underlying t = some (.struct fs)) (h : ZeD enc P w t cs o) (i : Nat) (hf : (fs[i]?).map (fun f => (f.type, f.offset)) = some (te, fo)) (ho : o' = o + fo) (hc : P.cellsOf te = c) (hct : P.cellsOf t = ct) (hle : fo + c ≤ ct) : ZeD enc P w te cs o' := by
 cases hx : fs[i]? with
 | none => rw [hx] at hf; cases hf
 | some f =>
  rw [hx] at hf
  injection hf with hf
  injection hf with h1 h2
  subst h1 h2 ho
  have := Zmx ht h i hx
  rw [Znd (by omega)] at this
  exact this
theorem Zkf {cs : List Value} {o : Nat} {v : Value} (h : (cs.drop o).take 1 = [v]) : cs[o]? = some v := ZkH h rfl
theorem Zdm {t : TypeId} {k : IntKind} {cs : List Value} {o : Nat} (ht : P.underlying t = some (.int k)) (hc : P.cellsOf t = 1) (h : ZeD enc P w t cs o) : ∃ z, cs[o]? = some (.int k z) ∧ k.min ≤ z ∧ z ≤ k.max := by
 unfold ZeD at h
 rw [hc] at h
 obtain ⟨z, h1, h2⟩ := ZnF ht h
 exact ⟨z, Zkf h1, h2⟩
theorem Zne {α : Type} {E : Enc α} {Q : α → Prop} {t e : TypeId} {cs : List Value} {o : Nat} (ht : P.underlying t = some (.slice e)) (hc : P.cellsOf t = 1) (hw : P.cellsOf e = E.w) (hpos : 0 < E.w)
  (hel : ∀ cs, cs.length = E.w → Trd enc P w e cs → ∃ x : α, DecL w cs (E.cel x) ∧ Q x) (h : ZeD enc P w t cs o) : ∃ (L : List α) (v : Value), cs[o]? = some v ∧ DecC w (mc E L) v ∧ L.length ≤ 9223372036854775807 ∧ ∀ x ∈ L, Q x := by
 unfold ZeD at h
 rw [hc] at h
 obtain ⟨L, v, h1, h2⟩ := ZiV ht hw hpos hel h
 exact ⟨L, v, Zkf h1, h2⟩
theorem ZnG {t : TypeId} {v : Value} {d : DataW H} {p : List MemPlace} (h : DataW.Trod enc P w 0 (fun _ => true) true t v d p) : Trd enc P w t v.cells.toList := by
 obtain ⟨fuel, hf⟩ := h
 exact ⟨fuel, _, hf⟩
end
end Ev
end Go.Proofs.YtifdgbbbojccdaaGreat
/- Records, and the program's functions as plain ones. -/
namespace Go.Proofs.YtifdgbbbojccdaaGreat
open Go.RowKit
namespace Ev
set_option linter.unusedVariables false
structure R_ii where
 a0 : Int
 a1 : Int
def R_ii.z : R_ii := ⟨0, 0⟩
structure R_iiiiiiAi where
 a0 : Int
 a1 : Int
 a2 : Int
 a3 : Int
 a4 : Int
 a5 : Int
 a6 : List R_ii
 a7 : Int
def R_iiiiiiAi.z : R_iiiiiiAi := ⟨0, 0, 0, 0, 0, 0, [], 0⟩
def Zca (L : List R_ii) (k : Int) : Bool := L.any fun x => x.a0 == k
def Zag (L : List R_ii) (k : Int) : Int := match L.find? (fun x => x.a0 == k) with | some x => x.a1 | none => 0
def ZS : List R_ii → Int → Int → List R_ii
 | [], k, v => [⟨k, v⟩]
 | x :: L, k, v => if x.a0 = k then ⟨k, v⟩ :: L else x :: ZS L k v
def Zhz {α : Type} (key : α → Int) (x : α) : List α → List α
 | [] => [x]
 | y :: l => if key x < key y then x :: y :: l else y :: Zhz key x l
def Zay {α : Type} (key : α → Int) : List α → List α
 | [] => []
 | x :: l => Zhz key x (Zay key l)
def Zap (x : R_iiiiiiAi) : Int := x.a4
inductive Zac where
 | r0
 | r1 (w0 : List R_iiiiiiAi)

inductive Zy where
 | h1m0
 | h1m1 (v1 : List R_iiiiiiAi) (v2 : Nat)

def Zaq (L0 : List R_iiiiiiAi) (N : Nat) : Option (Zy ⊕ Zac) :=
 if (0 : Int) < (L0.length : Int) then
  if (12 : Int) < (((L0.getD 0 R_iiiiiiAi.z).a6.length : Nat) : Int) then
   some (.inl (.h1m1 (([(⟨(L0.getD 0 R_iiiiiiAi.z).a0, (L0.getD 0 R_iiiiiiAi.z).a1, (L0.getD 0 R_iiiiiiAi.z).a2, (L0.getD 0 R_iiiiiiAi.z).a3, (L0.getD 0 R_iiiiiiAi.z).a4, (L0.getD 0 R_iiiiiiAi.z).a5, ((L0.getD 0 R_iiiiiiAi.z).a6.take 12), (L0.getD 0 R_iiiiiiAi.z).a7⟩ : R_iiiiiiAi)] : List R_iiiiiiAi)) (1) : Zy))
  else
  some (.inl (.h1m1 (([(⟨(L0.getD 0 R_iiiiiiAi.z).a0, (L0.getD 0 R_iiiiiiAi.z).a1, (L0.getD 0 R_iiiiiiAi.z).a2, (L0.getD 0 R_iiiiiiAi.z).a3, (L0.getD 0 R_iiiiiiAi.z).a4, (L0.getD 0 R_iiiiiiAi.z).a5, (L0.getD 0 R_iiiiiiAi.z).a6, (L0.getD 0 R_iiiiiiAi.z).a7⟩ : R_iiiiiiAi)] : List R_iiiiiiAi)) (1) : Zy))
 else
 some (.inr (.r0 : Zac))

def ZY (L0 : List R_iiiiiiAi) (N : Nat) (v1 : List R_iiiiiiAi) (v2 : Nat) : Option (Zy ⊕ Zac) :=
 if (v2 : Int) < (L0.length : Int) then
  if (v2 : Int) < (30 : Int) then
   if (12 : Int) < (((L0.getD v2 R_iiiiiiAi.z).a6.length : Nat) : Int) then
    if v1.length ≤ 100000 then
     some (.inl (.h1m1 ((v1 ++ ([(⟨(L0.getD v2 R_iiiiiiAi.z).a0, (L0.getD v2 R_iiiiiiAi.z).a1, (L0.getD v2 R_iiiiiiAi.z).a2, (L0.getD v2 R_iiiiiiAi.z).a3, (L0.getD v2 R_iiiiiiAi.z).a4, (L0.getD v2 R_iiiiiiAi.z).a5, ((L0.getD v2 R_iiiiiiAi.z).a6.take 12), (L0.getD v2 R_iiiiiiAi.z).a7⟩ : R_iiiiiiAi)] : List R_iiiiiiAi))) ((v2 + 1)) : Zy))
    else
    none
   else
   if v1.length ≤ 100000 then
    some (.inl (.h1m1 ((v1 ++ ([(⟨(L0.getD v2 R_iiiiiiAi.z).a0, (L0.getD v2 R_iiiiiiAi.z).a1, (L0.getD v2 R_iiiiiiAi.z).a2, (L0.getD v2 R_iiiiiiAi.z).a3, (L0.getD v2 R_iiiiiiAi.z).a4, (L0.getD v2 R_iiiiiiAi.z).a5, (L0.getD v2 R_iiiiiiAi.z).a6, (L0.getD v2 R_iiiiiiAi.z).a7⟩ : R_iiiiiiAi)] : List R_iiiiiiAi))) ((v2 + 1)) : Zy))
   else
   none
  else
  some (.inr (.r1 (v1) : Zac))
 else
 some (.inr (.r1 (v1) : Zac))

def Zau (L0 : List R_iiiiiiAi) (N : Nat) : Zy → Option (Zy ⊕ Zac)
 | .h1m0 => Zaq L0 N
 | .h1m1 v1 v2 => ZY L0 N v1 v2

def ZeT (L0 : List R_iiiiiiAi) (N : Nat) : Option (Zy ⊕ Zac) :=
 some (.inl (.h1m0 : Zy))

def ZcX (L0 : List R_iiiiiiAi) (N : Nat) : Option Zac := goM (Zau L0 N) N (ZeT L0 N)

inductive Zao where
 | r0

inductive ZP where
 | h1m0

def Zc9  (N : Nat) : Option (ZP ⊕ Zao) :=
 some (.inr (.r0 : Zao))

def ZaH  (N : Nat) : ZP → Option (ZP ⊕ Zao)
 | .h1m0 => Zc9  N

def Zdy  (N : Nat) : Option (ZP ⊕ Zao) :=
 some (.inl (.h1m0 : ZP))

def Zdn  (N : Nat) : Option Zao := goM (ZaH  N) N (Zdy  N)

inductive ZG where
 | r0

def Zaa  (N : Nat) : Option ZG :=
 some (.r0 : ZG)

inductive ZD where
 | r0

def Z0 (L0 : List R_iiiiiiAi) (N : Nat) : Option ZD :=
 if L0.length = 0 then some (.r0 : ZD) else none

inductive Za0 where
 | r0

inductive Zai where
 | h1m0

def Zdo  (N : Nat) : Option (Zai ⊕ Za0) :=
 some (.inr (.r0 : Za0))

def Zb9  (N : Nat) : Zai → Option (Zai ⊕ Za0)
 | .h1m0 => Zdo  N

def Zct  (N : Nat) : Option (Zai ⊕ Za0) :=
 ((Zdn N).bind fun r => match r with
 | .r0 =>
  ((Zaa N).bind fun r => match r with
  | .r0 =>
   ((Z0 (([] : List R_iiiiiiAi)) N).bind fun r => match r with
   | .r0 =>
    some (.inl (.h1m0 : Zai))
   )
  )
 )

def Zeb  (N : Nat) : Option Za0 := goM (Zb9  N) N (Zct  N)

inductive Zi where
 | r0 (w1 : Bool)

inductive Zv where
 | h1m0 (v1 : List R_ii) (v2 : List R_ii) (v4 : Nat)

def Zo (L0 : List R_iiiiiiAi) (N : Nat) (v1 : List R_ii) (v2 : List R_ii) (v4 : Nat) : Option (Zv ⊕ Zi) :=
 if (v4 : Int) < (L0.length : Int) then
  if (Zca v2 (L0.getD v4 R_iiiiiiAi.z).a1) = true then
   if (L0.getD v4 R_iiiiiiAi.z).a3 < (1 : Int) then
    some (.inr (.r0 (false) : Zi))
   else
   if (L0.getD v4 R_iiiiiiAi.z).a4 < (L0.getD v4 R_iiiiiiAi.z).a3 then
    some (.inr (.r0 (false) : Zi))
   else
   if (L0.getD v4 R_iiiiiiAi.z).a5 < (L0.getD v4 R_iiiiiiAi.z).a4 then
    some (.inr (.r0 (false) : Zi))
   else
   if (L0.getD v4 R_iiiiiiAi.z).a3 ≤ (Zag v2 (L0.getD v4 R_iiiiiiAi.z).a1) then
    some (.inr (.r0 (false) : Zi))
   else
   if (Zca v1 (L0.getD v4 R_iiiiiiAi.z).a4) = true then
    some (.inr (.r0 (false) : Zi))
   else
   if (((v4 + 1) : Nat) : Int) ≤ (9223372036854775807 : Int) then
    some (.inl (.h1m0 ((ZS v1 (L0.getD v4 R_iiiiiiAi.z).a4 (v4 : Int))) ((ZS v2 (L0.getD v4 R_iiiiiiAi.z).a1 (L0.getD v4 R_iiiiiiAi.z).a5)) ((v4 + 1)) : Zv))
   else
   none
  else
  if (L0.getD v4 R_iiiiiiAi.z).a3 < (1 : Int) then
   some (.inr (.r0 (false) : Zi))
  else
  if (L0.getD v4 R_iiiiiiAi.z).a4 < (L0.getD v4 R_iiiiiiAi.z).a3 then
   some (.inr (.r0 (false) : Zi))
  else
  if (L0.getD v4 R_iiiiiiAi.z).a5 < (L0.getD v4 R_iiiiiiAi.z).a4 then
   some (.inr (.r0 (false) : Zi))
  else
  if (Zca v1 (L0.getD v4 R_iiiiiiAi.z).a4) = true then
   some (.inr (.r0 (false) : Zi))
  else
  if (((v4 + 1) : Nat) : Int) ≤ (9223372036854775807 : Int) then
   some (.inl (.h1m0 ((ZS v1 (L0.getD v4 R_iiiiiiAi.z).a4 (v4 : Int))) ((ZS v2 (L0.getD v4 R_iiiiiiAi.z).a1 (L0.getD v4 R_iiiiiiAi.z).a5)) ((v4 + 1)) : Zv))
  else
  none
 else
 some (.inr (.r0 (true) : Zi))

def ZH (L0 : List R_iiiiiiAi) (N : Nat) : Zv → Option (Zv ⊕ Zi)
 | .h1m0 v1 v2 v4 => Zo L0 N v1 v2 v4

def ZcP (L0 : List R_iiiiiiAi) (N : Nat) : Option (Zv ⊕ Zi) :=
 some (.inl (.h1m0 (([] : List R_ii)) (([] : List R_ii)) (0) : Zv))

def Zc5 (L0 : List R_iiiiiiAi) (N : Nat) : Option Zi := goM (ZH L0 N) N (ZcP L0 N)

inductive Z1 where
 | r0
 | r1

def Zt (L0 : List R_iiiiiiAi) (N : Nat) : Option Z1 :=
 if (L0.length : Int) = (0 : Int) then
  some (.r0 : Z1)
 else
 if L0.length ≤ 100000 then
  some (.r1 : Z1)
 else
 none

inductive Z9 where
 | r0 (w0 : List R_iiiiiiAi)

def Zw (L0 : List R_iiiiiiAi) (N : Nat) : Option Z9 :=
 if (Zay Zap L0).Pairwise (fun a b => Zap a < Zap b) ∧ L0.length ≤ 100000 then some (.r0 (Zay Zap L0) : Z9) else none

inductive ZT where
 | r0

def ZV (L0 : List R_ii) (N : Nat) : Option ZT :=
 if L0.length ≤ 100000 then some (.r0 : ZT) else none

inductive ZF where
 | r0
 | r1
 | r2 (w1 : List R_iiiiiiAi)

inductive Zr where
 | h1m0
 | h1m1 (v1 : List R_iiiiiiAi) (v4 : Nat)

def ZcA (L0 : List R_iiiiiiAi) (N : Nat) : Option (Zr ⊕ ZF) :=
 some (.inr (.r1 : ZF))

def Zar (L0 : List R_iiiiiiAi) (N : Nat) (v1 : List R_iiiiiiAi) (v4 : Nat) : Option (Zr ⊕ ZF) :=
 if (v4 : Int) < (L0.length : Int) then
  if v4 < v1.length then
   ((ZV ((v1.getD v4 R_iiiiiiAi.z).a6) N).bind fun r => match r with
   | .r0 =>
    if (((v4 + 1) : Nat) : Int) ≤ (9223372036854775807 : Int) then
     some (.inl (.h1m1 ((v1.set v4 (⟨(v1.getD v4 R_iiiiiiAi.z).a0, (v1.getD v4 R_iiiiiiAi.z).a1, (v1.getD v4 R_iiiiiiAi.z).a2, (v1.getD v4 R_iiiiiiAi.z).a3, (v1.getD v4 R_iiiiiiAi.z).a4, (v1.getD v4 R_iiiiiiAi.z).a5, (v1.getD v4 R_iiiiiiAi.z).a6, (v1.getD v4 R_iiiiiiAi.z).a7⟩ : R_iiiiiiAi))) ((v4 + 1)) : Zr))
    else
    none
   )
  else
  none
 else
 some (.inr (.r2 (v1) : ZF))

def Zaw (L0 : List R_iiiiiiAi) (N : Nat) : Zr → Option (Zr ⊕ ZF)
 | .h1m0 => ZcA L0 N
 | .h1m1 v1 v4 => Zar L0 N v1 v4

def Zbc (L0 : List R_iiiiiiAi) (N : Nat) : Option (Zr ⊕ ZF) :=
 ((Zc5 (L0) N).bind fun r => match r with
 | .r0 y0_0 =>
  if ¬ (y0_0 = true) then
   some (.inr (.r0 : ZF))
  else
  ((Zt (L0) N).bind fun r => match r with
  | .r0 =>
   ((Z0 (([] : List R_iiiiiiAi)) N).bind fun r => match r with
   | .r0 =>
    some (.inl (.h1m0 : Zr))
   )
  | .r1 =>
   ((Zw (L0) N).bind fun r => match r with
   | .r0 y3_0 =>
    some (.inl (.h1m1 (y3_0) (0) : Zr))
   )
  )
 )

def Zbg (L0 : List R_iiiiiiAi) (N : Nat) : Option ZF := goM (Zaw L0 N) N (Zbc L0 N)

inductive Zg where
 | r0 (w0 : Bool)

inductive Ze where
 | h1m0
 | h1m1 (v0 : List R_iiiiiiAi)
 | h1m2 (v0 : List R_iiiiiiAi) (v1 : List R_iiiiiiAi) (v2 : Nat) (v3 : Nat)
 | h2m0 (v0 : List R_iiiiiiAi) (v1 : List R_iiiiiiAi) (v2 : Nat) (v3 : Nat) (v4 : Nat)

def ZbL (L0 : List R_iiiiiiAi) (N : Nat) : Option (Ze ⊕ Zg) :=
 some (.inr (.r0 (true) : Zg))

def ZbM (L0 : List R_iiiiiiAi) (N : Nat) (v0 : List R_iiiiiiAi) : Option (Ze ⊕ Zg) :=
 if (0 : Int) = (v0.length : Int) then
  some (.inr (.r0 (true) : Zg))
 else
 some (.inr (.r0 (false) : Zg))

def Zad (L0 : List R_iiiiiiAi) (N : Nat) (v0 : List R_iiiiiiAi) (v1 : List R_iiiiiiAi) (v2 : Nat) (v3 : Nat) : Option (Ze ⊕ Zg) :=
 if (v3 : Int) < (v2 : Int) then
  some (.inl (.h2m0 (v0) (v1) (v2) (v3) (0) : Ze))
 else
 if (v2 : Int) = (v0.length : Int) then
  some (.inr (.r0 (true) : Zg))
 else
 some (.inr (.r0 (false) : Zg))

def Zae (L0 : List R_iiiiiiAi) (N : Nat) (v0 : List R_iiiiiiAi) (v1 : List R_iiiiiiAi) (v2 : Nat) (v3 : Nat) (v4 : Nat) : Option (Ze ⊕ Zg) :=
 if (v4 : Int) < (v3 : Int) then
  if v3 < v2 then
   if v3 < v1.length then
    if (v1.getD v3 R_iiiiiiAi.z).a5 < (v1.getD v4 R_iiiiiiAi.z).a3 then
     some (.inr (.r0 (false) : Zg))
    else
    if (v1.getD v3 R_iiiiiiAi.z).a4 ≤ (v1.getD v4 R_iiiiiiAi.z).a4 then
     some (.inr (.r0 (false) : Zg))
    else
    if (v1.getD v3 R_iiiiiiAi.z).a1 = (v1.getD v4 R_iiiiiiAi.z).a1 then
     if (v1.getD v4 R_iiiiiiAi.z).a5 < (v1.getD v3 R_iiiiiiAi.z).a3 then
      if (((v4 + 1) : Nat) : Int) ≤ (9223372036854775807 : Int) then
       some (.inl (.h2m0 (v0) (v1) (v2) (v3) ((v4 + 1)) : Ze))
      else
      none
     else
     some (.inr (.r0 (false) : Zg))
    else
    if (((v4 + 1) : Nat) : Int) ≤ (9223372036854775807 : Int) then
     some (.inl (.h2m0 (v0) (v1) (v2) (v3) ((v4 + 1)) : Ze))
    else
    none
   else
   none
  else
  none
 else
 if (((v3 + 1) : Nat) : Int) ≤ (9223372036854775807 : Int) then
  some (.inl (.h1m2 (v0) (v1) (v2) ((v3 + 1)) : Ze))
 else
 none

def Z3 (L0 : List R_iiiiiiAi) (N : Nat) : Ze → Option (Ze ⊕ Zg)
 | .h1m0 => ZbL L0 N
 | .h1m1 v0 => ZbM L0 N v0
 | .h1m2 v0 v1 v2 v3 => Zad L0 N v0 v1 v2 v3
 | .h2m0 v0 v1 v2 v3 v4 => Zae L0 N v0 v1 v2 v3 v4

def Zas (L0 : List R_iiiiiiAi) (N : Nat) : Option (Ze ⊕ Zg) :=
 ((ZcX (L0) N).bind fun r => match r with
 | .r0 =>
  ((Zeb N).bind fun r => match r with
  | .r0 =>
   some (.inl (.h1m0 : Ze))
  )
 | .r1 y0_0 =>
  ((Zbg (y0_0) N).bind fun r => match r with
  | .r0 =>
   some (.inr (.r0 (true) : Zg))
  | .r1 =>
   some (.inl (.h1m1 (y0_0) : Ze))
  | .r2 y1_0 =>
   some (.inl (.h1m2 (y0_0) (y1_0) (y0_0.length) (0) : Ze))
  )
 )

def ZeE (L0 : List R_iiiiiiAi) (N : Nat) : Option Zg := goM (Z3 L0 N) N (Zas L0 N)
end Ev
end Go.Proofs.YtifdgbbbojccdaaGreat
/- How records are written, and which functions are told. -/
namespace Go.Proofs.YtifdgbbbojccdaaGreat
open Go.RowKit
namespace Ev
set_option linter.unusedVariables false
abbrev vq : Value := .int .i64 0
abbrev vf : Value := .bool false
abbrev vT : Value := .bool true
abbrev vn : Value := .slice none 0 0
abbrev vtt : Value := .tuple #[]
noncomputable abbrev dS {α : Type} (a : α) : Bool := dP (a = a)
theorem ltA {p : Prop} (h : p := by first | omega | (simp only [List.length_set, List.length_append, List.length_cons, List.length_nil, List.length_replicate, List.length_take, List.length_drop] at * <;> omega)) : p := h
theorem eqA {p : Prop} (h : p := by first | rfl | omega | (simp only [List.length_set, List.length_append, List.length_cons, List.length_nil, List.length_replicate, List.length_take, List.length_drop] at * <;> omega)) : p := h
theorem rr {p q : Prop} (h : p := by rfl) (h2 : q := by rfl) : p ∧ q := ⟨h, h2⟩
section
variable {l : List (Bool × Bool)}
theorem oT {a b : Int} (hl : ∀ q ∈ l, q.1 = q.2) (h : a = b := by omega) : ∀ q ∈ ((a == b), true) :: l, q.1 = q.2 := Zc (bT h) hl
theorem oF {a b : Int} (hl : ∀ q ∈ l, q.1 = q.2) (h : ¬ a = b := by omega) : ∀ q ∈ ((a == b), false) :: l, q.1 = q.2 := Zc (bF h) hl
theorem oY {p : Prop} [Decidable p] (hl : ∀ q ∈ l, q.1 = q.2) (h : p := by omega) : ∀ q ∈ (decide p, true) :: l, q.1 = q.2 := Zc (decide_eq_true h) hl
theorem oN {p : Prop} [Decidable p] (hl : ∀ q ∈ l, q.1 = q.2) (h : ¬ p := by omega) : ∀ q ∈ (decide p, false) :: l, q.1 = q.2 := Zc (decide_eq_false h) hl
theorem oR {α : Type} {a b : α} (hl : ∀ q ∈ l, q.1 = q.2) (h : a = b := by rfl) : ∀ q ∈ (dP (a = b), true) :: l, q.1 = q.2 := Zc (Z2 h) hl
theorem oB {a b : Nat} (hl : ∀ q ∈ l, q.1 = q.2) (h : a < b := by omega) : ∀ q ∈ (Nat.blt a b, true) :: l, q.1 = q.2 := Zc (Zoe h) hl
theorem oI {a b : Int} (hl : ∀ q ∈ l, q.1 = q.2) (h : a = b := by first | rfl | exact Zod (by omega)) : ∀ q ∈ ((a == b), true) :: l, q.1 = q.2 := Zc (bT h) hl
end
def E_ii : Enc R_ii := ⟨fun x => [.i x.a0, .i x.a1], 2, R_ii.z, fun _ => rfl, fun _ => rfl⟩
noncomputable def E_iiiiiiAi : Enc R_iiiiiiAi := ⟨fun x => [.i x.a0, .i x.a1, .i x.a2, .i x.a3, .i x.a4, .i x.a5, (mc E_ii x.a6), .i x.a7], 8, R_iiiiiiAi.z, fun _ => rfl, fun _ => rfl⟩
def ZZ (L : List R_ii) : List MapEntry := L.map fun x => ⟨.int .i64 x.a0, .int .i64 x.a1, 0⟩
def ZaB (L : List R_ii) : Obj := .map (ZZ L).toArray 0
theorem ZgP (k : Int) : ∀ (L : List R_ii) (i : Nat), Instr.findNow (.int .i64) (.int .i64 k) (ZZ L) i = some ((L.findIdx? (fun x => x.a0 == k)).map fun j => (i + j, .int .i64 (Zag L k)))
 | [], i => rfl
 | x :: L, i => by
  simp only [ZZ, List.map_cons, Instr.findNow, Instr.sameNow, if_true]
  have ih := ZgP k L (i + 1)
  simp only [ZZ] at ih
  cases h : (x.a0 == k) with
  | true =>
   have h' : (k == x.a0) = true := by rw [beq_iff_eq] at h ⊢; exact h.symm
   simp [h', List.findIdx?_cons, h, Zag, List.find?_cons]
  | false =>
   have h' : (k == x.a0) = false := by rw [beq_eq_false_iff_ne] at h ⊢; exact fun e => h e.symm
   rw [h']
   simp only [ih]
   have hg : Zag (x :: L) k = Zag L k := by simp [Zag, List.find?_cons, h]
   rw [hg, List.findIdx?_cons]
   simp only [h, cond_false, Bool.false_eq_true, if_false]
   cases L.findIdx? (fun x => x.a0 == k) with
   | none => rfl
   | some j => simp; omega
theorem Zm1 {L : List R_ii} {k : Int} : Zca L k = (L.findIdx? (fun x => x.a0 == k)).isSome := by
 induction L with
 | nil => rfl
 | cons x L ih =>
  unfold Zca at ih ⊢
  rw [List.any_cons, List.findIdx?_cons, ih]
  cases h : (x.a0 == k) with
  | true => rfl
  | false => cases L.findIdx? (fun x => x.a0 == k) <;> rfl
theorem ZcY {L : List R_ii} {k : Int} (h : Zca L k = true) : Za1 .i64 (.int .i64 k) (ZZ L) = some (some (.int .i64 (Zag L k))) := by
 unfold Za1
 rw [ZgP]
 rw [Zm1] at h
 cases hi : L.findIdx? (fun x => x.a0 == k) with
 | none => rw [hi] at h; cases h
 | some j => rfl
theorem Zdz {L : List R_ii} {k : Int} (h : ¬ (Zca L k = true)) : Za1 .i64 (.int .i64 k) (ZZ L) = some none := by
 unfold Za1
 rw [ZgP]
 rw [Zm1] at h
 cases hi : L.findIdx? (fun x => x.a0 == k) with
 | none => rfl
 | some j => rw [hi] at h; exact absurd rfl h
theorem Zld (k v : Int) : ∀ (L : List R_ii), (match L.findIdx? (fun x => x.a0 == k) with | none => ZZ L ++ [⟨.int .i64 k, .int .i64 v, 0⟩] | some j => (ZZ L).modify j fun e => ⟨.int .i64 k, .int .i64 v, e.born⟩) = ZZ (ZS L k v)
 | [] => rfl
 | x :: L => by
  rw [List.findIdx?_cons]
  by_cases h : x.a0 = k
  ·have h' : (x.a0 == k) = true := beq_iff_eq.2 h
   simp only [h', if_true, ZS, h]
   simp [ZZ]
  ·have h' : (x.a0 == k) = false := beq_eq_false_iff_ne.2 h
   simp only [h', Bool.false_eq_true, if_false, ZS, h]
   have ih := Zld k v L
   cases hi : L.findIdx? (fun x => x.a0 == k) with
   | none =>
    rw [hi] at ih
    simp only [Option.map_none]
    simp only [ZZ, List.map_cons, List.cons_append] at ih ⊢
    rw [ih]
   | some j =>
    rw [hi] at ih
    simp only [Option.map_some]
    simp only [ZZ, List.map_cons, List.modify_succ_cons] at ih ⊢
    rw [ih]
theorem ZhU (L : List R_ii) (k v : Int) : ZeK .i64 (.int .i64 k) (.int .i64 v) (ZZ L) = some (ZZ (ZS L k v)) := by
 unfold ZeK
 rw [ZgP]
 have h := Zld k v L
 cases hi : L.findIdx? (fun x => x.a0 == k) with
 | none => rw [hi] at h; exact congrArg some h
 | some j =>
  rw [hi] at h
  simp only [Option.map_some, Nat.zero_add]
  exact congrArg some h
instance : Inhabited R_ii := ⟨R_ii.z⟩
instance : Inhabited R_iiiiiiAi := ⟨R_iiiiiiAi.z⟩
def ZlO : FuncId → Option (List Value → Option Value) := fun f =>
 bif Nat.beq f 11 then some (fun l => match l with | [] => some (.bool true) | _ => none) else
 none
theorem Zm2 (w : World) : Calls Tryz.prog 11 #[] w (Ret (.bool true) w) := Zob 40000 w (by kernel_rfl) rfl
theorem Zoj : ZhQ ZlO := fun f g h => by
 unfold ZlO at h
 cases hb : Nat.beq f 11 with
 | true =>
  rw [hb] at h
  obtain rfl := Nat.eq_of_beq_eq_true hb
  simp only [cond_true, Option.some.injEq] at h
  subst h
  refine ⟨⟨_, _, Tryz.func11, rfl⟩, fun args v ha hv w => ?_⟩
  obtain ⟨l⟩ := args
  cases l with
  | nil =>
   change some (Value.bool true) = some v at hv
   injection hv with hv
   subst hv
   exact Zm2 w
  | cons x l => change (none : Option Value) = some v at hv; cases hv
 | false =>
  rw [hb] at h
  simp only [cond_false] at h
  cases h
def Znx : FuncId → Bool := fun f => Nat.beq f 4 || Nat.beq f 5 || Nat.beq f 6 || Nat.beq f 13 || Nat.beq f 14 || Nat.beq f 18 || Nat.beq f 15
noncomputable def ZE : FuncId → Option Ext := ZlK (ZmW ZlO) Znx
theorem Zfp : Fit Tryz.prog ZE := fitT (fitS Zoj) (fun f h => by
 simp only [Znx, Bool.or_eq_true] at h
 simp only [Nat.beq_eq] at h
 rcases h with (((((rfl | rfl) | rfl) | rfl) | rfl) | rfl) | rfl
 ·exact ⟨_, _, Tryz.func4, rfl⟩
 ·exact ⟨_, _, Tryz.func5, rfl⟩
 ·exact ⟨_, _, Tryz.func6, rfl⟩
 ·exact ⟨_, _, Tryz.func13, rfl⟩
 ·exact ⟨_, _, Tryz.func14, rfl⟩
 ·exact ⟨_, _, Tryz.func18, rfl⟩
 ·exact ⟨_, _, Tryz.func15, rfl⟩
 )
end Ev
end Go.Proofs.YtifdgbbbojccdaaGreat
/- Ranges over functions: an iterator's loop by its rounds. -/
namespace Go.Proofs.YtifdgbbbojccdaaGreat
open Go.RowKit
namespace Ev
section
variable {P : Program} {ext : FuncId → Option Ext}
section
variable {ι0 : Ren} {h0 : AH} {w0 : World} {n0 cn : Nat} {cT : Tr Value} {ac : Act} {l K : Nat} {R : Loop}
theorem IS.into {nt m : Nat} {L : Nat → Option Value} {H : Tr AObj} {T : Tr Value} {s : St} {live : List Nat} (hm : m ≤ far) (h : ZlE nt m L H T s live) {n1 : Nat} (hk : Zc3 n1 live = true) (hd : ∀ k, ι0 k ≠ none → k < n1 ∨ Zaz k)
  {ι : Ren} {a : Act} {W : World} (hb : TR ι0 cn [] cT { tmps := ac.tmps, defers := [] }) (hT : TR ι nt [] T a) (I : IS P ι0 h0 w0 0 cn cT ac l K R ι s W) (orc : Orc) :
  ∃ gv ι', TR ι' nt [] (tmps nt L gv) a ∧ IS P ι0 h0 w0 0 cn cT ac l K R ι' ⟨H, m, [], orc, []⟩ W ∧ ∀ k, m ≤ k → k < far → ι' k = none := by
 obtain ⟨gv, ι', a1, a2, a3, a4⟩ := ZjQ hT I.st live m far rfl (Zhq hk) h.1 hm h.2.1 (fun k hk2 => (hd k hk2).imp (ZfG hk) id) L h.2.2.1 H.get h.2.2.2
 refine ⟨gv, ι', a1, ⟨a2, fun k hk => ?_, Nat.zero_le _, hb.on a2.ext, I.lo, I.de, I.ll, I.lk, fun k b hk => ?_⟩, a3⟩
 ·rcases Nat.lt_or_ge k m with h | h
  ·exact .inr (.inl ⟨Nat.zero_le _, h⟩)
  ·rcases Nat.lt_or_ge k far with h' | h'
   ·exact absurd (a3 k h h') hk
   ·exact .inr (.inr h')
 ·obtain ⟨k2, hk2⟩ := a4 k b hk
  exact I.nl k2 b hk2
end
end
end Ev
end Go.Proofs.YtifdgbbbojccdaaGreat
/- A function with a range over a function whose rounds are many: what it does, from its parts. -/
namespace Go.Proofs.YtifdgbbbojccdaaGreat
open Go.RowKit
namespace Ev
noncomputable section
end
section
variable {P : Program} {ext : FuncId → Option Ext}
instance (k : Nat) : Decidable (Zaz k) := by unfold Zaz; infer_instance
def ZcJ (m : Nat) : Nat → Value → Bool
 | d + 1, .agg cs => Zj (ZcJ m d) cs.toList
 | d + 1, .tuple cs => Zj (ZcJ m d) cs.toList
 | d + 1, .func _ a b => Zj (ZcJ m d) a.toList && Zj (ZcJ m d) b.toList
 | _, .pointer (some ⟨k, _, none⟩) => Nat.blt k m
 | _, .slice (some ⟨k, _, none⟩) _ _ => Nat.blt k m
 | _, .map (some k) => Nat.blt k m
 | _, v => atom v
theorem VR.cut {ι ι2 : Ren} {m : Nat} (hι : ∀ k b, k < m ∨ Zaz k → ι k = some b → ι2 k = some b) : ∀ (d : Nat) (v v' : Value), VR ι v v' → ZcJ m d v = true → VR ι2 v v'
 | d, v, v', h, hd => by
  cases h with
  | atom h => exact .atom h
  | glob h => exact .glob h
  | ptr h => cases d <;> exact .ptr (hι _ _ (.inl (Nat.le_of_ble_eq_true hd)) h)
  | map h => cases d <;> exact .map (hι _ _ (.inl (Nat.le_of_ble_eq_true hd)) h)
  | slice h hn hc hq => cases d <;> exact .slice (hι _ _ (.inl (Nat.le_of_ble_eq_true hd)) h) hn hc hq
  | slice0 h => exact .slice0 h
  | mptr h => exact .mptr (hι _ _ (.inr (Zdv _ _ _)) h)
  | mslice h hn hc => exact .mslice (hι _ _ (.inr (Zdv _ _ _)) h) hn hc
  | func hs ht h1 h2 =>
   rename_i fn a a' b b'
   cases d with
   | zero =>
    have ha : Ev.atom (.func fn a b) = true := hd
    have e := VR.eq_of_atom ha (.func hs ht h1 h2)
    rw [e]
    exact .atom ha
   | succ d =>
    simp only [ZcJ, Bool.and_eq_true] at hd
    exact .func hs ht (fun i x y hx hy => VR.cut hι d x y (h1 i x y hx hy) (ZL hd.1 i x hx)) (fun i x y hx hy => VR.cut hι d x y (h2 i x y hx hy) (ZL hd.2 i x hx))
  | agg hs h1 =>
   cases d with
   | zero => simp [ZcJ, Ev.atom] at hd
   | succ d =>
    simp only [ZcJ] at hd
    exact .agg hs fun i x y hx hy => VR.cut hι d x y (h1 i x y hx hy) (ZL hd i x hx)
  | tuple hs h1 =>
   cases d with
   | zero => simp [ZcJ, Ev.atom] at hd
   | succ d =>
    simp only [ZcJ] at hd
    exact .tuple hs fun i x y hx hy => VR.cut hι d x y (h1 i x y hx hy) (ZL hd i x hx)
theorem VR.cutU {ι ι2 : Ren} {m : Nat} (hι : ∀ k b, k < m ∨ Zaz k → ι k = some b → ι2 k = some b) : ∀ (d : Nat) (v v' : Value), VR ι v v' → Zam m d v = true → VR ι2 v v'
 | d, v, v', h, hd => by
  cases h with
  | atom h => exact .atom h
  | glob h => exact .glob h
  | ptr h => cases d <;> exact .ptr (hι _ _ (.inl (Nat.le_of_ble_eq_true hd)) h)
  | map h => cases d <;> exact .map (hι _ _ (.inl (Nat.le_of_ble_eq_true hd)) h)
  | slice h hn hc hq => cases d <;> exact .slice (hι _ _ (.inl (Nat.le_of_ble_eq_true hd)) h) hn hc hq
  | slice0 h => exact .slice0 h
  | mptr h => exact .mptr (hι _ _ (.inr (Zdv _ _ _)) h)
  | mslice h hn hc => exact .mslice (hι _ _ (.inr (Zdv _ _ _)) h) hn hc
  | func hs ht h1 h2 =>
   rename_i fn a a' b b'
   have ha : Ev.atom (.func fn a b) = true := by cases d <;> exact hd
   have e := VR.eq_of_atom ha (.func hs ht h1 h2)
   rw [e]
   exact .atom ha
  | agg hs h1 =>
   cases d with
   | zero => simp [Zam, Ev.atom] at hd
   | succ d =>
    simp only [Zam] at hd
    exact .agg hs fun i x y hx hy => VR.cutU hι d x y (h1 i x y hx hy) (ZL hd i x hx)
  | tuple hs h1 =>
   cases d with
   | zero => simp [Zam, Ev.atom] at hd
   | succ d =>
    simp only [Zam] at hd
    exact .tuple hs fun i x y hx hy => VR.cutU hι d x y (h1 i x y hx hy) (ZL hd i x hx)
def ZeF (m : Nat) : List (Option AObj) → Prop
 | [] => True
 | o :: l => (match o with | some x => ZdI m x = true | none => True) ∧ ZeF m l
theorem ZhV {m : Nat} : ∀ {H : List (Option AObj)}, ZeF m H → ∀ k o, lkO H k = some o → ZdI m o = true
 | [], _, k, o, hk => by simp [lkO] at hk
 | x :: H, h, 0, o, hk => by
  have e : x = some o := by simpa [lkO] using hk
  subst e
  exact h.1
 | x :: H, h, k + 1, o, hk => ZhV h.2 k o (by simpa [lkO] using hk)
end
end Ev
end Go.Proofs.YtifdgbbbojccdaaGreat
/- What a function hands back in a block of its own, which nobody writes any more: a plain value. -/
namespace Go.Proofs.YtifdgbbbojccdaaGreat
open Go.RowKit
namespace Ev
set_option linter.unusedVariables false
section
variable {P : Program}
theorem Zg5 {c c' : List Cell} {o : Nat} (h : Zab (code c) o c'.length = some c') : c' = (c.drop o).take c'.length ∧ c'.length ≤ (c.drop o).length := by
 unfold Zab at h
 rw [ZaW] at h
 exact ZbG h
theorem Zle {c c' : List Cell} {o : Nat} (h : c' = (c.drop o).take c'.length) (hl : c'.length ≤ (c.drop o).length) : Zab (code c) o c'.length = some c' := by
 unfold Zab
 rw [ZaW]
 show Zl c'.length (c.drop o) = some c'
 rw [Zex _ _ hl, ← h]
theorem ZnH {c c1 c2 : List Cell} {o o2 : Nat} (h : Zab (code c) o c1.length = some c1) (h2 : Zab (code c1) o2 c2.length = some c2) : Zab (code c) (o + o2) c2.length = some c2 := by
 obtain ⟨a1, a2⟩ := Zg5 h
 obtain ⟨b1, b2⟩ := Zg5 h2
 rw [List.length_drop] at a2 b2
 have e2 : c1.drop o2 = ((c.drop o).drop o2).take (c1.length - o2) := by rw [← List.drop_take, ← a1]
 refine Zle ?_ (by rw [List.length_drop]; omega)
 rw [← List.drop_drop]
 conv => lhs; rw [b1, e2, List.take_take, Nat.min_eq_left b2]
noncomputable def ιFz (ι : Ren) (j b0 : Nat) (c : List Cell) : Ren := fun k => @ite _ (k < j ∨ (Zaz k ∧ ι k ≠ none)) (Classical.propDecidable _) (ι k) (@dite _ (∃ o c', k = Zx b0 o (code c') ∧ Zab (code c) o c'.length = some c') (Classical.propDecidable _) (fun _ => some (b0, 0)) (fun _ => none))
theorem ιFz_old {ι : Ren} {j b0 k : Nat} {c : List Cell} (h : k < j ∨ (Zaz k ∧ ι k ≠ none)) : ιFz ι j b0 c k = ι k := by unfold ιFz; rw [if_pos h]
theorem ιFz_new {ι : Ren} {j b0 o : Nat} {c c' : List Cell} (hj : j ≤ 1000000000) (hn : ι (Zx b0 o (code c')) = none) (h : Zab (code c) o c'.length = some c') : ιFz ι j b0 c (Zx b0 o (code c')) = some (b0, 0) := by
 unfold ιFz
 rw [if_neg (fun q => q.elim (fun q => by have := Zcl b0 o (code c'); omega) (fun q => q.2 hn)), dif_pos ⟨o, c', rfl, h⟩]
theorem ιFz_inv {ι : Ren} {j b0 k : Nat} {c : List Cell} {q : Nat × Nat} (h : ιFz ι j b0 c k = some q) : ((k < j ∨ (Zaz k ∧ ι k ≠ none)) ∧ ι k = some q) ∨ (q = (b0, 0) ∧ ∃ o c', k = Zx b0 o (code c') ∧ Zab (code c) o c'.length = some c') := by
 by_cases hk : k < j ∨ (Zaz k ∧ ι k ≠ none)
 ·rw [ιFz_old hk] at h; exact .inl ⟨hk, h⟩
 ·unfold ιFz at h
  rw [if_neg hk] at h
  by_cases hd : ∃ o c', k = Zx b0 o (code c') ∧ Zab (code c) o c'.length = some c'
  ·rw [dif_pos hd] at h; injection h with h; exact .inr ⟨h.symm, hd⟩
  ·rw [dif_neg hd] at h; cases h
theorem Zlf {post : List (Option AObj)} {o : AObj} : lkO (post ++ [some o]) post.length = some o := by simp [lkO]
theorem Zez {post : List (Option AObj)} {x : Option AObj} {k : Nat} {o : AObj} (h : lkO post k = some o) : k < post.length ∧ lkO (post ++ [x]) k = some o := by
 unfold lkO at h ⊢
 cases hx : post[k]? with
 | none => rw [hx] at h; cases h
 | some y =>
  have hk := (List.getElem?_eq_some_iff.1 hx).1
  exact ⟨hk, by rw [List.getElem?_append_left hk]; exact h⟩
theorem ZhW {post : List (Option AObj)} {x : Option AObj} {k : Nat} (h : isC (lkO post k) = true) : k < post.length ∧ isC (lkO (post ++ [x]) k) = true := by
 cases ho : lkO post k with
 | none => rw [ho] at h; cases h
 | some o => obtain ⟨h1, h2⟩ := Zez (x := x) ho; rw [ho] at h; exact ⟨h1, by rw [h2]; exact h⟩
theorem ZnI {ι : Ren} {w w' : World} {e : Ending} {pre : List AObj} {v v2 : Value} {post : List (Option AObj)} {c : List Cell} {t : TypeId} (hd : ∀ k, ι k ≠ none → k < pre.length ∨ Zaz k) (hfin : Fin P ι pre w v (post ++ [some (.cells (Zk c) t)]) e w') (hpre : pre.length ≤ post.length) (hle : post.length < 1000000000) (hUA : ZeF post.length post)
  (hv : ∀ (ι ι2 : Ren) v', (∀ k b, k < post.length ∨ Zaz k → ι k = some b → ι2 k = some b) → (∀ b, ι post.length = some b → ∃ q, ι2 (Zx b.1 0 (code c)) = some q) → VR ι v v' → VR ι2 v2 v') : Fin P ι pre w v2 post e w' := by
 obtain ⟨v', ι', rfl, hS, hdm, hvr⟩ := hfin
 obtain ⟨b0, C, q1, q2, q3, q4⟩ := hS.emb.obj post.length (Zk c) t Zlf
 have hC0 : isC (lkO (post ++ [some (.cells (Zk c) t)]) post.length) = true := by rw [Zlf]; rfl
 have hno : ∀ base id, ι' (Zx b0.1 base id) = none := fun base id => by
  cases hm : ι' (Zx b0.1 base id) with
  | none => rfl
  | some q => exact absurd rfl ((hS.emb.mks _ _ _ _ hm).2.2 _ _ hC0 q1)
 have hι : ∀ k b, k < post.length ∨ Zaz k → ι' k = some b → ιFz ι' post.length b0.1 c k = some b := fun k b hk hb => by
  rw [ιFz_old (hk.imp id fun q => ⟨q, by rw [hb]; simp⟩)]; exact hb
 have hself : Zab (code c) 0 c.length = some c := Zle (by simp) (by simp)
 have hj : ι post.length = none := by
  cases hk : ι post.length with
  | none => rfl
  | some b => exact absurd (hd post.length (by rw [hk]; simp)) (by unfold Zaz; omega)
 have hnew : w.heap.size ≤ b0.1 ∨ ∃ i d, isC (lk pre i) = true ∧ ι i = some d ∧ d.1 = b0.1 := hS.new _ _ hj q1
 have hlow : ∀ k b, k < post.length → ιFz ι' post.length b0.1 c k = some b → ι' k = some b := fun k b hk hb => by
  rwa [ιFz_old (.inl hk)] at hb
 refine ⟨v', ιFz ι' post.length b0.1 c, rfl, ⟨fun k b hb => hι k b ((hd k (by rw [hb]; simp)).imp (fun q => by omega) id) (hS.ext k b hb), ⟨fun k c' t' hk => ?_, fun k O hk => ?_, fun k k' b b' h1 h2 h3 h4 h5 => ?_, fun k b hb => ?_, fun b base id q hq => ?_⟩, hS.os, hS.tape, hS.output, hS.size, hS.frame, fun k b h1 h2 => ?_, fun k h1 h2 => ?_, fun k h1 h2 => ?_⟩, fun k hk => ?_, hv ι' _ v' hι (fun b hb => ?_) hvr⟩
 ·obtain ⟨hk1, hk2⟩ := Zez (x := some (.cells (Zk c) t)) hk
  obtain ⟨b, D, r1, r2, r3, r4⟩ := hS.emb.obj k c' t' hk2
  have hcs : Zj (Zam post.length 1) c' = true := ZhV hUA k (.cells c' t') hk
  exact ⟨b, D, hι k b (.inl hk1) r1, r2, ⟨r3.1, fun i x y hx hy => VR.cutU hι 1 x y (r3.2 i x y hx hy) (ZB hcs x (List.mem_of_getElem? hx))⟩, r4⟩
 ·obtain ⟨hk1, hk2⟩ := Zez (x := some (.cells (Zk c) t)) hk
  obtain ⟨b, r1, r2⟩ := hS.emb.ro k O hk2
  exact ⟨b, hι k b (.inl hk1) r1, r2⟩
 ·obtain ⟨g1, g2⟩ := ZhW (x := some (.cells (Zk c) t)) h1
  cases ho : lkO post k' with
  | none => rw [ho] at h2; cases h2
  | some o =>
   obtain ⟨g3, g4⟩ := Zez (x := some (.cells (Zk c) t)) ho
   exact hS.emb.inj k k' b b' g2 (by rw [g4]; rfl) (hlow k b g1 h3) (hlow k' b' g3 h4) h5
 ·rcases ιFz_inv hb with ⟨_, h2⟩ | ⟨rfl, _⟩
  ·exact hS.emb.lt k b h2
  ·exact (show b0.1 < _ from hS.emb.lt _ _ q1)
 ·have hmk : ∀ b base id q, ι' (Zx b base id) = some q → ιFz ι' post.length b0.1 c (Zx b base id) = some q := fun b base id q h => hι _ _ (.inr (Zdv _ _ _)) h
  have hiso : ∀ k d, isC (lkO post k) = true → ιFz ι' post.length b0.1 c k = some d → d.1 ≠ b0.1 := fun k d hk hd2 hb => by
   obtain ⟨g1, g2⟩ := ZhW (x := some (.cells (Zk c) t)) hk
   have := hS.emb.inj k post.length d b0 g2 (ZX hC0) (hlow k d g1 hd2) q1 hb
   omega
  rcases ιFz_inv hq with ⟨_, h2⟩ | ⟨rfl, o, c', hk, hg⟩
  ·obtain ⟨m1, m2, m3⟩ := hS.emb.mks b base id q h2
   refine ⟨m1, ⟨m2.1.on hmk, fun o c' hc => hmk _ _ _ _ (m2.2 o c' hc)⟩, fun k d hk hd2 => ?_⟩
   obtain ⟨g1, g2⟩ := ZhW (x := some (.cells (Zk c) t)) hk
   exact m3 k d g2 (hlow k d g1 hd2)
  ·obtain ⟨rfl, rfl, rfl⟩ := Zhj hk
   obtain ⟨a1, a2⟩ := Zg5 hg
   rw [List.length_drop] at a2
   have hsz : (Zk c).length = c.length := by simp [Zk]
   refine ⟨rfl, ⟨⟨c', C, t, (0, 0), ZaW c', q2, fun hp => by have := q3.1; omega, fun i x y hx hy => ?_⟩, fun o2 c2 hc2 => ιFz_new (by omega) (hno _ _) (ZnH hg hc2)⟩, hiso⟩
   have hi : i < c'.length := by
    have := (List.getElem?_eq_some_iff.1 hx).1
    simpa [Zk] using this
   have hx2 : (Zk c)[base + i]? = some x := by
    unfold Zk at hx ⊢
    rw [List.getElem?_map] at hx ⊢
    rw [a1, List.getElem?_take_of_lt hi, List.getElem?_drop] at hx
    exact hx
   have hv2 := q3.2 (base + i) x y hx2 hy
   unfold Zk at hx2
   rw [List.getElem?_map] at hx2
   cases hz : c[base + i]? with
   | none => rw [hz] at hx2; cases hx2
   | some z =>
    rw [hz] at hx2
    injection hx2 with hx2
    subst hx2
    exact Zj1 hmk hv2
 ·rcases ιFz_inv h2 with ⟨_, h3⟩ | ⟨rfl, _⟩
  ·exact hS.new k b h1 h3
  ·exact hnew
 ·cases ho : lkO post k with
  | none => rw [ho] at h1; cases h1
  | some o => exact hS.alive k (by rw [(Zez (x := some (.cells (Zk c) t)) ho).2]; rfl) h2
 ·exact hS.kind k (ZhW h1).2 h2
 ·cases hq : ιFz ι' post.length b0.1 c k with
  | none => exact absurd hq hk
  | some q =>
   rcases ιFz_inv hq with ⟨h1 | ⟨h1, _⟩, _⟩ | ⟨_, o, c', rfl, _⟩
   ·exact .inl h1
   ·exact .inr h1.1
   ·exact .inr (Zcl _ _ _).1
 ·obtain rfl : b = b0 := by rw [q1] at hb; injection hb with hb; exact hb.symm
  exact ⟨_, ιFz_new (by omega) (hno _ _) hself⟩
theorem ZnJ {α : Type} {E : Enc α} {L : List α} {j n m : Nat} {ι ι2 : Ren} {v' : Value} (hb : ∀ b, ι j = some b → ∃ q, ι2 (Zx b.1 0 (code (ZJ E L))) = some q) (hv : VR ι (.slice (some ⟨j, 0, none⟩) n m) v') : VR ι2 (.slice (some ⟨code (ZJ E L), 0, some 0⟩) n m) v' := by
 cases hv with
 | atom h => cases h
 | slice h1 h2 h3 h4 =>
  obtain ⟨q, hq⟩ := hb _ h1
  have := VR.mslice (ι := ι2) (base := 0) (o := 0) (z := 0) hq h2 h3
  exact this
 | slice0 h => exact .slice0 h
theorem Zh0 {α : Type} {E : Enc α} {L : List α} {ι : Ren} {w w' : World} {e : Ending} {pre : List AObj} {post : List (Option AObj)} {t : TypeId} (hd : ∀ k, ι k ≠ none → k < pre.length ∨ Zaz k) (h : Fin P ι pre w (.slice (some ⟨post.length, 0, none⟩) L.length L.length) (post ++ [some (.cells (Za E L) t)]) e w') (hpre : pre.length ≤ post.length) (hle : post.length < 1000000000) (hUA : ZeF post.length post) : Fin P ι pre w (ms E L) post e w' := by
 rw [Zea] at h
 exact ZnI hd h hpre hle hUA fun ι ι2 v' hk hb hv => ZnJ hb hv
end
end Ev
end Go.Proofs.YtifdgbbbojccdaaGreat
/- slices.Clone, in a store of one's own. -/
namespace Go.Proofs.YtifdgbbbojccdaaGreat
open Go.RowKit
namespace Ev
set_option linter.unusedVariables false
section
variable {P : Program}
theorem Zh1 {w : World} {b o : Nat} {C : Array Value} {t : TypeId} {fr : Nat × Nat} (hB : w.heap[b]? = some (.cells C t fr)) : w.cell? ⟨b, o, none⟩ = C[o]? := by simp [World.cell?, hB]
theorem VR.oneC {ι : Ren} {z : Cell} {y : Value} (h : VR ι (Zbk z) y) : y.oneCell' = true := by
 cases z with
 | any => cases h with
  | atom h => exact (Bool.false_ne_true h).elim
  | glob h => exact h
 | m id o n c => cases h with
  | atom h => exact (Bool.false_ne_true h).elim
  | slice0 h => rfl
  | mslice h hn hc => rfl
 | _ => rw [h.eq_of_atom rfl]; rfl
theorem ZhX {ι : Ren} {h : AH} {w w' : World} (e : Emb P ι h w) (hB : Below w.heap.size w w') : Step P ι h w ι h w' := by
 have hs : ∀ k b, ι k = some b → w'.heap[b.1]? = w.heap[b.1]? := fun k b hk => hB.block _ (e.lt k b hk)
 refine ⟨fun _ _ h => h, ⟨fun k c t hk => ?_, fun k O hk => ?_, e.inj, fun k b hk => Nat.lt_of_lt_of_le (e.lt k b hk) hB.size, e.marks (fun _ _ h => h) (fun b hb _ => hB.block b hb) (fun _ _ _ _ h => h) fun k d hk hd => .inr ⟨k, d, hk, hd, rfl⟩⟩, hB.os, hB.tape, hB.output, hB.size, fun b hb _ => hB.block b hb, fun k b h1 h2 => (by rw [h1] at h2; cases h2), fun k h1 _ => h1, fun k h1 _ => h1⟩
 ·obtain ⟨b, C, h1, h2, h3⟩ := e.obj k c t hk
  exact ⟨b, C, h1, (hs k b h1).trans h2, h3⟩
 ·obtain ⟨b, h1, h2⟩ := e.ro k O hk
  exact ⟨b, h1, by rw [hs k b h1]; exact h2⟩
theorem ZnK {ι : Ren} {h : AH} {w : World} (e : Emb P ι h w) {n : Nat} (hnf : n < 1000000000) (hn : ι n = none) {g cap : Nat} {c : List Value} {cur : Array Value} {t : TypeId} (hg : ∀ k b, ι k = some b → b.1 ≠ g) (hgc : w.heap[g]? = some (.cells cur t (0, 0))) (hc : CR ι c cur) (hq : ∀ i, P.info? t = some i → cap * i.size ≤ cur.size) : Emb P (upd ι n (some (g, cap))) (upd h n (some (.cells c t))) w := by
 have hx : ∀ k b, ι k = some b → upd ι n (some (g, cap)) k = some b := fun k b hk => by
  rw [Zb]; · exact hk
  ·intro e; subst e; rw [hn] at hk; cases hk
 refine ⟨fun k c' t' hk => ?_, fun k O hk => ?_, fun k k' b b' h1 h2 h3 h4 h5 => ?_, fun k b hk => ?_, fun b base id q hq => ?_⟩
 ·by_cases hk0 : k = n
  ·subst hk0
   rw [Zf] at hk
   injection hk with hk
   injection hk with h1 h2
   subst h1 h2
   exact ⟨_, cur, Zf, hgc, hc.ext hx, hq⟩
  ·rw [Zb hk0] at hk
   obtain ⟨b, C', hb, hB, hC, hQ⟩ := e.obj k c' t' hk
   exact ⟨b, C', hx k b hb, hB, hC.ext hx, hQ⟩
 ·by_cases hk0 : k = n
  ·subst hk0; rw [Zf] at hk; injection hk with hk; cases hk
  ·rw [Zb hk0] at hk
   obtain ⟨b, hb, hB⟩ := e.ro k O hk
   exact ⟨b, hx k b hb, hB⟩
 ·by_cases hk0 : k = n
  ·by_cases hk1 : k' = n
   ·exact hk0.trans hk1.symm
   ·subst hk0
    rw [Zf] at h3; rw [Zb hk1] at h4
    injection h3 with h3; subst h3
    exact absurd h5.symm (hg _ _ h4)
  ·rw [Zb hk0] at h1 h3
   by_cases hk1 : k' = n
   ·subst hk1
    rw [Zf] at h4
    injection h4 with h4; subst h4
    exact absurd h5 (hg _ _ h3)
   ·rw [Zb hk1] at h2 h4
    exact e.inj k k' b b' h1 h2 h3 h4 h5
 ·by_cases hk0 : k = n
  ·subst hk0; rw [Zf] at hk; injection hk with hk; subst hk; exact (Array.getElem?_eq_some_iff.1 hgc).1
  ·rw [Zb hk0] at hk; exact e.lt k b hk
 ·have h0 := Zf5 hnf _ _ _ _ hq
  obtain ⟨m1, m2, m3⟩ := e.mks b base id q h0
  refine ⟨m1, ⟨m2.1.ext hx rfl, fun o c hc => hx _ _ (m2.2 o c hc)⟩, fun k d hk hd => ?_⟩
  by_cases hk0 : k = n
  ·subst hk0
   rw [Zf] at hd; injection hd with hd; subst hd
   intro hb
   exact hg _ _ h0 (m1.trans hb.symm)
  ·rw [Zb hk0] at hk hd; exact m3 k d hk hd
theorem ZnL (pre : List AObj) (o : AObj) : lkO (pre.map some ++ [some o]) = upd (lk pre) pre.length (some o) := by
 funext k
 unfold lkO lk upd
 by_cases h : k = pre.length
 ·subst h; simp
 ·rw [if_neg h]
  by_cases h2 : k < pre.length
  ·rw [List.getElem?_append_left (by simpa using h2)]; simp [h2]
  ·rw [List.getElem?_eq_none (by simp; omega)]
   show none = pre[k]?
   rw [List.getElem?_eq_none (by omega)]
theorem Znf (pre : List AObj) : lkO (pre.map some) = lk pre := by
 funext k
 unfold lkO lk
 by_cases h2 : k < pre.length
 ·simp [h2]
 ·rw [List.getElem?_eq_none (by simp; omega)]
  show none = pre[k]?
  rw [List.getElem?_eq_none (by omega)]
theorem Ze0 {ι : Ren} {pre : List AObj} {w w' : World} (hd : ∀ k, ι k ≠ none → k < pre.length ∨ Zaz k) (he : Emb P ι (lk pre) w) (hB : Below w.heap.size w w') {v v' : Value} (hv : VR ι v v') : Fin P ι pre w v (pre.map some) (.returned v') w' := by
 refine ⟨v', ι, rfl, ?_, fun k hk => (hd k hk).imp (fun q => by simpa using q) (fun q => q.1), hv⟩
 rw [Znf]
 exact ZhX he hB
theorem ZnM {ι : Ren} {pre : List AObj} {w w' : World} (hpre : pre.length < 1000000000) (hd : ∀ k, ι k ≠ none → k < pre.length ∨ Zaz k) (he : Emb P ι (lk pre) w) (hB : Below w.heap.size w w') {g cap n : Nat} {c : List Value} {cur : Array Value} {t : TypeId} (hg : w.heap.size ≤ g) (hgc : w'.heap[g]? = some (.cells cur t (0, 0))) (hc : CR ι c cur) (hq : ∀ i, P.info? t = some i → cap * i.size ≤ cur.size) (hn : n ≤ cap) :
  Fin P ι pre w (.slice (some ⟨pre.length, 0, none⟩) n n) (pre.map some ++ [some (.cells c t)]) (.returned (.slice (some ⟨g, 0, none⟩) n cap)) w' := by
 have hj : ι pre.length = none := by
  cases hk : ι pre.length with
  | none => rfl
  | some b => exact absurd (hd pre.length (by rw [hk]; simp)) (by unfold Zaz; omega)
 have S := ZhX he hB
 have E2 := ZnK S.emb hpre hj (g := g) (cap := cap) (c := c) (cur := cur) (t := t) (fun k b hk hb => by have := he.lt k b hk; omega) hgc hc hq
 have hx : ∀ k b, ι k = some b → upd ι pre.length (some (g, cap)) k = some b := fun k b hk => by
  rw [Zb]; · exact hk
  ·intro e; subst e; rw [hj] at hk; cases hk
 refine ⟨_, upd ι pre.length (some (g, cap)), rfl, ?_, fun k hk => ?_, ?_⟩
 ·rw [ZnL]
  refine ⟨hx, E2, S.os, S.tape, S.output, S.size, S.frame, fun k b h1 h2 => ?_, fun k h1 h2 => ?_, fun k h1 h2 => ?_⟩
  ·by_cases hk0 : k = pre.length
   ·subst hk0; rw [Zf] at h2; injection h2 with h2; subst h2; exact .inl hg
   ·rw [Zb hk0, h1] at h2; cases h2
  ·by_cases hk0 : k = pre.length
   ·subst hk0; exact absurd hj h2
   ·rwa [Zb hk0] at h1
  ·by_cases hk0 : k = pre.length
   ·subst hk0; exact absurd hj h2
   ·rwa [Zb hk0] at h1
 ·by_cases hk0 : k = pre.length
  ·subst hk0; exact .inl (by simp)
  ·rw [Zb hk0] at hk; exact (hd k hk).imp (fun q => by simp; omega) (fun q => q.1)
 ·have := VR.slice (ι := upd ι pre.length (some (g, cap))) (k := pre.length) (b := (g, cap)) (o := 0) (n := n) (c := n) (c' := cap) Zf (Nat.le_refl _) hn (fun _ => .inr (Nat.le_refl _))
  exact this
variable {ρ : Shelf.Ren}
open Go.Shelf Go.Lib
set_option maxHeartbeats 2000000 in
set_option maxRecDepth 100000 in
theorem Zm3 (L : SlLaysE0.n41 P ρ) {i0 : TypeInfo} {z : Value} {size bytes : Nat} (hi : P.info? (ρ.t 23) = some i0) (hz0 : i0.zero = some z) (hz1 : i0.size = size) (hz2 : i0.bytes = bytes) (hzs : z.cells.size = size) (hsz : 0 < size)
  (z23 : ∀ w, (Go.sizeOf (ρ.t 23)).run P w = .ok size w) (a : Addr) (n c : Nat) (news : List Value) (w : World) (hl : news.length = n * size) (hn : n ≤ maxLen) (hbig : n * bytes ≤ 140737488355328) (hc : ∀ j u, news[j]? = some u → w.cell? (a.add j) = some u) (h1 : ∀ u ∈ news, u.oneCell' = true) :
  Calls P (ρ.f 41) #[.slice (some a) n c] w fun e w' => ∃ v', e = .returned v' ∧ w'.ownsRow w.heap.size (ρ.t 23) size v' n news ∧ v' ≠ .slice none 0 0 ∧ Below w.heap.size w w' := by
 have g0 := L.mixed; have g1 := L.t4; have g2 := L.a4; have g3 := L.z4; have g4 := L.v4; have g5 := L.t22; have g6 := L.a22; have g7 := L.z22; have g8 := L.v22
 have g9 : ∀ (w : World) (a : Option Addr) (n c n' c' : Nat), (binOp .eql (ρ.t 22) (.slice a n c) (.slice none n' c')).run P w = .ok (.bool a.isNone) w := fun w a n c n' c' => Lib.run_eql_slice_nil w _ _ a n c n' c' L.t22
 have g10 : ∀ w, Sem.run P (underlying (ρ.t 22)) w = .ok (TypeDesc.slice (ρ.t 23)) w := run_underlying g5
 have K : Aside (∀ j u, news[j]? = some u → w.cell? (a.add j) = some u) := hc
 clear hc
 obtain ⟨_, _, FG⟩ := L.f41
 go_enter FG, SlBodyN.n41_ntmps ρ
 go_wp2_with (at_builtin; refine wpList_append_own _ rfl _ _ (ρ.t 22) rfl w.heap.size (ρ.t 23) i0 z size bytes g5 hi hz0 hz1 hz2 hzs hsz _ _ _ rfl (World.ownsRow_made w #[] 0 (Nat.le_refl _) (Nat.zero_le _) (by simp)) a n c news rfl hl ?k1 h1 ?k2 ?k3 ?k4 ?_)
 case k1 => exact fun j u hj => Lib.cell?_alloc_some _ (K.out j u hj)
 case k2 => rw [Nat.zero_add]; exact hn
 case k3 => rw [Nat.zero_add]; exact hbig
 case k4 => simp
 intro v' w1 o1 o2 o3
 go_wp2
 go_ret
 exact ⟨v', rfl, by simpa using o1, o3, ((Below.refl _ w).alloc (Nat.le_refl _) _).grown o2 (by simp) (by intro k hk; simp [Value.ownBlock] at hk; omega)⟩
end
end Ev
end Go.Proofs.YtifdgbbbojccdaaGreat
/- slices.Clone: what it does of a plain row, and of one of one's own. -/
namespace Go.Proofs.YtifdgbbbojccdaaGreat
open Go.RowKit Go.Lib
namespace Ev
set_option linter.unusedVariables false
section
variable {P : Program} {ρ : Shelf.Ren} {α : Type} {E : Enc α} {L : List α}
theorem ZiW {ι : Ren} {id n m : Nat} {x' : Value} (h : VR ι (.slice (some ⟨id, 0, some 0⟩) n m) x') : (∃ b base q c', ι (Zx b base id) = some q ∧ n ≤ m ∧ m ≤ c' ∧ x' = .slice (some ⟨b, base, none⟩) n c') ∨ (n = 0 ∧ m = 0 ∧ ∃ a', x' = .slice a' 0 0) := by
 cases h with
 | atom h => exact (Bool.false_ne_true h).elim
 | mslice h1 h2 h3 => exact .inl ⟨_, _, _, _, h1, h2, h3, rfl⟩
 | slice0 h => exact .inr ⟨rfl, rfl, _, rfl⟩
theorem ZeG {ι : Ren} {k n m : Nat} {x' : Value} (h : VR ι (.slice (some ⟨k, 0, none⟩) n m) x') : (∃ b c', ι k = some b ∧ n ≤ m ∧ m ≤ c' ∧ x' = .slice (some ⟨b.1, 0, none⟩) n c') ∨ (n = 0 ∧ m = 0 ∧ ∃ a', x' = .slice a' 0 0) := by
 cases h with
 | atom h => exact (Bool.false_ne_true h).elim
 | slice h1 h2 h3 h4 => exact .inl ⟨_, _, h1, h2, h3, rfl⟩
 | slice0 h => exact .inr ⟨rfl, rfl, _, rfl⟩
theorem ZgQ {ι : Ren} {a : Value} {args' : Array Value} (h : VRs ι #[a] args') : ∃ x', args' = #[x'] ∧ VR ι a x' := by
 obtain ⟨l⟩ := args'
 match l, h with
 | [x], h => exact ⟨x, rfl, h.2 0 a x rfl rfl⟩
 | [], h => exact absurd h.1 (by simp)
 | _ :: _ :: _, h => exact absurd h.1 (by simp)
theorem Zkg {ι : Ren} {a b : Value} {args' : Array Value} (h : VRs ι #[a, b] args') : ∃ x' y', args' = #[x', y'] ∧ VR ι a x' ∧ VR ι b y' := by
 obtain ⟨l⟩ := args'
 match l, h with
 | [x, y], h => exact ⟨x, y, rfl, h.2 0 a x rfl rfl, h.2 1 b y rfl rfl⟩
 | [], h => exact absurd h.1 (by simp)
 | [_], h => exact absurd h.1 (by simp)
 | _ :: _ :: _ :: _, h => exact absurd h.1 (by simp)
structure ZcZ (P : Program) (ρ : Shelf.Ren) (sz bytes : Nat) : Prop where
 L : SlLaysE0.n41 P ρ
 hi : ∃ i0 z, P.info? (ρ.t 23) = some i0 ∧ i0.zero = some z ∧ i0.size = sz ∧ i0.bytes = bytes ∧ z.cells.size = sz
 pos : 0 < sz
 z23 : ∀ w, (Go.sizeOf (ρ.t 23)).run P w = .ok sz w
theorem Zkh {ι : Ren} {j : Nat} {x y : Value} (hx : (Za E L)[j]? = some x) (h : VR ι x y) : y.oneCell' = true := by
 rw [Zea] at hx
 unfold Zk at hx
 rw [List.getElem?_map] at hx
 cases hz : (ZJ E L)[j]? with
 | none => rw [hz] at hx; cases hx
 | some z => rw [hz] at hx; injection hx with hx; subst hx; exact VR.oneC h
theorem ZeH {bytes : Nat} (C : ZcZ P ρ E.w bytes) (hn : L.length ≤ maxLen) (hbig : L.length * bytes ≤ 140737488355328) {ι : Ren} {pre : List AObj} {w : World} (hpre : pre.length < 1000000000) (hd : ∀ k, ι k ≠ none → k < pre.length ∨ Zaz k) (he : Emb P ι (lk pre) w) {a : Addr} {c : Nat}
  (hc : ∀ j, j < L.length * E.w → ∃ y, w.cell? (a.add j) = some y ∧ ∀ x, (Za E L)[j]? = some x → VR ι x y) :
  Calls P (ρ.f 41) #[.slice (some a) L.length c] w (Fin P ι pre w (.slice (some ⟨pre.length, 0, none⟩) L.length L.length) (pre.map some ++ [some (.cells (Za E L) (ρ.t 23))])) := by
 obtain ⟨i0, z, k1, k2, k3, k4, k5⟩ := C.hi
 obtain ⟨news, hnl, hng⟩ : ∃ news : List Value, news.length = L.length * E.w ∧ ∀ j u, news[j]? = some u → j < L.length * E.w ∧ w.cell? (a.add j) = some u := by
  refine ⟨(List.range (L.length * E.w)).map fun j => (w.cell? (a.add j)).getD undef, by simp, fun j u hj => ?_⟩
  have hl := (List.getElem?_eq_some_iff.1 hj).1
  simp only [List.length_map, List.length_range] at hl
  obtain ⟨y, hy, _⟩ := hc j hl
  simp only [List.getElem?_map, List.getElem?_range hl, Option.map_some, hy, Option.getD_some, Option.some.injEq] at hj
  exact ⟨hl, by rw [hy, hj]⟩
 have hrow : ∀ j, j < L.length * E.w → ∃ x, (Za E L)[j]? = some x := fun j hj => by
  have : j < (Za E L).length := by rw [ZaG]; exact hj
  exact ⟨_, List.getElem?_eq_getElem this⟩
 refine (Zm3 C.L k1 k2 k3 k4 k5 C.pos C.z23 a L.length c news w hnl hn hbig (fun j u hj => (hng j u hj).2) (fun u hu => ?_)).mono ?_
 ·obtain ⟨j, hj⟩ := List.mem_iff_getElem?.1 hu
  obtain ⟨h1, h2⟩ := hng j u hj
  obtain ⟨y, hy, hv⟩ := hc j h1
  obtain ⟨x, hx⟩ := hrow j h1
  rw [h2] at hy; injection hy with hy; subst hy
  exact Zkh hx (hv x hx)
 ·rintro e w' ⟨v', rfl, ⟨_, ⟨h1, _⟩ | ⟨g, cap, cur, rfl, h2, h3, h4, h5, h6, h7⟩⟩, hnil, hB⟩
  ·exact absurd h1 hnil
  ·refine ZnM hpre hd he hB h2 h3 ⟨?_, fun i x y hx hy => ?_⟩ (fun i hi => ?_) h4
   ·rw [ZaG, h6]; exact Nat.mul_le_mul_right _ h4
   ·have hil := (List.getElem?_eq_some_iff.1 hx).1
    rw [ZaG] at hil
    obtain ⟨y2, hy2, hv⟩ := hc i hil
    have hu : news[i]? = some y := by
     rw [← h7, List.getElem?_take_of_lt hil, Array.getElem?_toList]; exact hy
    have := (hng i y hu).2
    rw [hy2] at this; injection this with this; subst this
    exact hv x hx
   ·rw [k1] at hi; injection hi with hi; subst hi
    rw [k3, h6]; exact Nat.le_refl _
theorem ZnN {bytes : Nat} (C : ZcZ P ρ E.w bytes) (hn : L.length ≤ maxLen) (hbig : L.length * bytes ≤ 140737488355328) : LSpec P (ρ.f 41) #[ms E L] [] (ms E L) [] := by
 intro ι w args' hd ha he
 obtain ⟨x', rfl, hv⟩ := ZgQ ha
 rcases ZiW hv with ⟨b, base, q, c', h1, _, h3, rfl⟩ | ⟨h0, _, a', rfl⟩
 ·obtain ⟨_, ⟨⟨c, D, t, fr, m1, m2, m3, m4⟩, _⟩, _⟩ := he.mks b base _ q h1
  rw [ZaW] at m1; injection m1 with m1; subst m1
  have hlen : (ZJ E L).length = L.length * E.w := by
   have := ZaG (E := E) L
   rw [Zea] at this
   simpa [Zk] using this
  refine (ZeH C hn hbig (pre := []) (by decide) hd he (a := ⟨b, base, none⟩) (c := c') fun j hj => ?_).mono fun e w' hf => Zh0 (post := []) hd hf (Nat.le_refl _) (by decide) trivial
  have hsz := m3 (by omega)
  rw [hlen] at hsz
  have hD : base + j < D.size := by omega
  refine ⟨D[base + j], ?_, fun x hx => m4 j x _ (by rw [← Zea]; exact hx) (Array.getElem?_eq_getElem hD)⟩
  rw [Addr.add_lit, Zh1 m2, Array.getElem?_eq_getElem hD]
 ·have hL : L = [] := List.length_eq_zero_iff.1 h0
  subst hL
  cases a' with
  | none => exact (AnyE.slices_Clone_nil C.L 0 0 w).mono fun e w' ⟨h1, h2⟩ => by subst h1 h2; exact Ze0 (pre := []) hd he (Below.refl _ _) (.slice0 fun _ => rfl)
  | some a => exact (ZeH C hn hbig (pre := []) (by decide) hd he (a := a) (c := 0) fun j hj => by simp at hj).mono fun e w' hf => Zh0 (post := []) hd hf (Nat.le_refl _) (by decide) trivial
theorem Zm4 {bytes : Nat} (C : ZcZ P ρ E.w bytes) : LSpec P (ρ.f 41) #[.slice none 0 0] [] (ms E ([] : List α)) [] := by
 intro ι w args' hd ha he
 obtain ⟨x', rfl, hv⟩ := ZgQ ha
 rw [hv.eq_of_atom rfl]
 exact (AnyE.slices_Clone_nil C.L 0 0 w).mono fun e w' ⟨h1, h2⟩ => by subst h1 h2; exact Ze0 (pre := []) hd he (Below.refl _ _) (.slice0 fun _ => rfl)
theorem ZlP {bytes : Nat} {t : TypeId} (C : ZcZ P ρ E.w bytes) (hL : L = []) : LSpec P (ρ.f 41) #[.slice (some ⟨0, 0, none⟩) L.length L.length] [.cells (Za E L) t] (ms E ([] : List α)) [some (.cells (Za E L) t)] := by
 intro ι w args' hd ha he
 subst hL
 obtain ⟨x', rfl, hv⟩ := ZgQ ha
 obtain ⟨a', c', rfl⟩ : ∃ a' c', x' = .slice a' 0 c' := by
  rcases ZeG hv with ⟨b, c', _, _, _, h⟩ | ⟨_, _, a', h⟩
  ·exact ⟨_, _, h⟩
  ·exact ⟨_, _, h⟩
 cases a' with
 | none => exact (AnyE.slices_Clone_nil C.L 0 c' w).mono fun e w' ⟨h1, h2⟩ => by subst h1 h2; exact Ze0 hd he (Below.refl _ _) (.slice0 fun _ => rfl)
 | some a => exact (ZeH (E := E) (L := []) C (Nat.zero_le _) (by simp) (pre := [.cells (Za E []) t]) (show 1 < 1000000000 from by decide) hd he (a := a) (c := c') fun j hj => by simp at hj).mono fun e w' hf => Zh0 (post := [some (.cells (Za E []) t)]) hd hf (Nat.le_refl _) (show 1 < 1000000000 from by decide) ⟨ZW _ _ _, trivial⟩
theorem ZlQ {bytes : Nat} {t : TypeId} (C : ZcZ P ρ E.w bytes) (hL : L ≠ []) (hn : L.length ≤ maxLen) (hbig : L.length * bytes ≤ 140737488355328) : LSpec P (ρ.f 41) #[.slice (some ⟨0, 0, none⟩) L.length L.length] [.cells (Za E L) t] (.slice (some ⟨1, 0, none⟩) L.length L.length) [some (.cells (Za E L) t), some (.cells (Za E L) (ρ.t 23))] := by
 intro ι w args' hd ha he
 obtain ⟨x', rfl, hv⟩ := ZgQ ha
 rcases ZeG hv with ⟨b, c', h1, _, h3, rfl⟩ | ⟨h0, _, _⟩
 ·obtain ⟨b', D, r1, r2, r3, r4⟩ := he.obj 0 (Za E L) t rfl
  rw [h1] at r1; injection r1 with r1; subst r1
  refine ZeH C hn hbig (pre := [.cells (Za E L) t]) (show 1 < 1000000000 from by decide) hd he (a := ⟨b.1, 0, none⟩) (c := c') fun j hj => ?_
  have hD : 0 + j < D.size := by have := r3.1; rw [ZaG] at this; omega
  refine ⟨D[0 + j], ?_, fun x hx => r3.2 j x _ hx (by rw [Array.getElem?_eq_getElem (by omega)]; simp)⟩
  rw [Addr.add_lit, Zh1 r2, Array.getElem?_eq_getElem hD]
 ·exact absurd (List.length_eq_zero_iff.1 h0) hL
end
end Ev
end Go.Proofs.YtifdgbbbojccdaaGreat
/- slices.SortFunc, by a number, of a row of one's own. -/
namespace Go.Proofs.YtifdgbbbojccdaaGreat
open Go.RowKit Go.Lib
namespace Ev
set_option linter.unusedVariables false
section
variable {P : Program} {ρ : Shelf.Ren} {α : Type} {E : Enc α}
structure Zki (P : Program) (ρ : Shelf.Ren) (sz q : Nat) (g : FuncId) : Prop where
 L : SlLaysF0.n6 P ρ
 aE : ∀ w, (isAgg (ρ.t 24)).run P w = .ok true w
 zE : ∀ w, (Go.sizeOf (ρ.t 24)).run P w = .ok sz w
 pos : 0 < sz
 eg : ∀ args w, (callFunc g args).run P w = .ok (.enter g args) w
 hcl : ∀ (x y : List Value) (m n : Int) (W : World), x.length = sz → y.length = sz → x[q]? = some (.int .i64 m) → y[q]? = some (.int .i64 n) → (∀ v ∈ x, v.oneCell' = true) → (∀ v ∈ y, v.oneCell' = true) → Calls P g #[.agg x.toArray, .agg y.toArray] W fun e w' => e = .returned (.int .i64 (Lib.compareInt m n)) ∧ ∃ r os, w' = Go.Sort.grow (W.drewN r) os
def WE (ι : Ren) (E : Enc α) (key : α → Int) (q : Nat) : Type := {p : α × List Value // p.2.length = E.w ∧ (∀ v ∈ p.2, v.oneCell' = true) ∧ p.2[q]? = some (.int .i64 (key p.1)) ∧ ∀ (i : Nat) (x y : Value), (E.enc p.1)[i]? = some x → p.2[i]? = some y → VR ι x y}
def WE.cs {ι : Ren} {key : α → Int} {q : Nat} (p : WE ι E key q) : List Value := p.1.2
def WE.el {ι : Ren} {key : α → Int} {q : Nat} (p : WE ι E key q) : α := p.1.1
theorem Zkj {L : List α} {j i : Nat} (hj : j < L.length) (hi : i < E.w) : (Za E L)[j * E.w + i]? = (E.enc (L.getD j E.dflt))[i]? := by
 have h := Zix (E := E) (L := L) (o := j * E.w) (i := j) (q := 0) hj (by omega) (Nat.zero_le _)
 rw [← List.getElem?_drop, h, List.drop_zero, List.getElem?_append_left (by rw [E.len]; exact hi)]
theorem Zny {ι : Ren} {key : α → Int} {q : Nat} (hkey : ∀ a, (E.enc a)[q]? = some (.int .i64 (key a))) {L : List α} {D : Array Value} (hD : CR ι (Za E L) D) {j : Nat} (hj : j < L.length) : ∃ p : WE ι E key q, p.el = L.getD j E.dflt ∧ ∀ i, i < E.w → p.cs[i]? = D[j * E.w + i]? := by
 have hsz := hD.1
 rw [ZaG] at hsz
 have hjw : j * E.w + E.w ≤ L.length * E.w := by rw [← Nat.succ_mul]; exact Nat.mul_le_mul_right _ hj
 have hl : ((D.toList.drop (j * E.w)).take E.w).length = E.w := by rw [List.length_take, List.length_drop, Array.length_toList]; omega
 have hg : ∀ i, i < E.w → ((D.toList.drop (j * E.w)).take E.w)[i]? = D[j * E.w + i]? := fun i hi => by
  rw [List.getElem?_take_of_lt hi, List.getElem?_drop, Array.getElem?_toList]
 have hv : ∀ i x y, (E.enc (L.getD j E.dflt))[i]? = some x → ((D.toList.drop (j * E.w)).take E.w)[i]? = some y → VR ι x y := fun i x y hx hy => by
  have hi : i < E.w := by have := (List.getElem?_eq_some_iff.1 hx).1; rwa [E.len] at this
  rw [hg i hi] at hy
  exact hD.2 (j * E.w + i) x y ((Zkj hj hi).trans hx) hy
 have hq : q < E.w := by have := (List.getElem?_eq_some_iff.1 (hkey (L.getD j E.dflt))).1; rwa [E.len] at this
 refine ⟨⟨(L.getD j E.dflt, (D.toList.drop (j * E.w)).take E.w), hl, fun v hm => ?_, ?_, hv⟩, rfl, hg⟩
 ·obtain ⟨i, hi⟩ := List.mem_iff_getElem?.1 hm
  have hi2 : i < E.w := by have := (List.getElem?_eq_some_iff.1 hi).1; rwa [hl] at this
  have hx : (E.enc (L.getD j E.dflt))[i]? = some ((E.enc (L.getD j E.dflt))[i]'(by rw [E.len]; exact hi2)) := List.getElem?_eq_getElem _
  exact Zkh (E := E) (L := L) ((Zkj hj hi2).trans hx) (hv i _ v hx hi)
 ·have hlt : q < ((D.toList.drop (j * E.w)).take E.w).length := by rw [hl]; exact hq
  have h1 := List.getElem?_eq_getElem hlt
  show ((D.toList.drop (j * E.w)).take E.w)[q]? = some (.int .i64 (key (L.getD j E.dflt)))
  rw [h1]
  exact congrArg some ((hv q _ _ (hkey _) h1).eq_of_atom rfl)
theorem ZhY {ι : Ren} {key : α → Int} {q : Nat} (x y : WE ι E key q) : ltOf (fun x y : WE ι E key q => Lib.compareInt (key x.el) (key y.el)) x y = decide (key x.el < key y.el) := by
 unfold ltOf Lib.compareInt
 by_cases h1 : key x.el < key y.el
 ·simp [h1]
 ·by_cases h2 : key y.el < key x.el <;> simp [h1, h2]
theorem ZnO {ι : Ren} {key : α → Int} {q : Nat} : Go.Sort.SWO (ltOf (fun x y : WE ι E key q => Lib.compareInt (key x.el) (key y.el))) where
 irrefl x := by rw [ZhY]; simp
 trans x y z h1 h2 := by rw [ZhY] at *; simp at *; omega
 ntrans x y z h1 h2 := by rw [ZhY] at *; simp at *; omega
theorem ZlR {key : α → Int} {A R : List α} (hp : A.Perm R) (ha : A.Pairwise fun a b => key a ≤ key b) (hr : R.Pairwise fun a b => key a < key b) : A = R := by
 have inj : ∀ a b, a ∈ R → b ∈ R → key a = key b → a = b := fun a b h1 h2 hk => by
  obtain ⟨i, hi, rfl⟩ := List.mem_iff_getElem.1 h1
  obtain ⟨j, hj, rfl⟩ := List.mem_iff_getElem.1 h2
  have hw := List.pairwise_iff_getElem.1 hr
  rcases Nat.lt_trichotomy i j with h | h | h
  ·have := hw i j hi hj h; omega
  ·subst h; rfl
  ·have := hw j i hj hi h; omega
 exact List.Perm.eq_of_pairwise (le := fun a b => key a ≤ key b) (fun a b h1 h2 h3 h4 => inj a b (hp.subset h1) h2 (by omega)) ha (hr.imp fun h => by omega) hp
theorem Zng {w : World} {blk : Nat} {C : Array Value} {t : TypeId} {F : Array Value} (hB : w.heap[blk]? = some (.cells C t (0, 0))) (n : Nat) (os : Array Obj) :
  (Go.Sort.grow (Go.Sort.putRow id (Go.Sort.ahead w n) blk 0 F) os).heap[blk]? = some (.cells (Go.Sort.putCells id 0 F C) t (0, 0)) ∧ ∀ b, b < w.heap.size → b ≠ blk → (Go.Sort.grow (Go.Sort.putRow id (Go.Sort.ahead w n) blk 0 F) os).heap[b]? = w.heap[b]? := by
 have hlt := (Array.getElem?_eq_some_iff.1 hB).1
 have hh : (Go.Sort.grow (Go.Sort.putRow id (Go.Sort.ahead w n) blk 0 F) os).heap = w.heap.modify blk (Go.Sort.onCells (Go.Sort.putCells id 0 F)) ++ os := rfl
 constructor
 ·rw [hh, Array.getElem?_append_left (by simpa using hlt), Array.getElem?_modify, if_pos rfl, hB]; rfl
 ·intro b hb hne
  rw [hh, Array.getElem?_append_left (by simpa using hb), Array.getElem?_modify, if_neg (fun e => hne e.symm)]
theorem Znh {sz q : Nat} {g : FuncId} (S : Zki P ρ sz q g) (hw : E.w = sz) {key : α → Int} (hkey : ∀ a, (E.enc a)[q]? = some (.int .i64 (key a))) {L R : List α} {t : TypeId} (hp : R.Perm L) (hr : R.Pairwise fun a b => key a < key b) (hn : L.length ≤ 100000) :
  LSpec P (ρ.f 6) #[.slice (some ⟨0, 0, none⟩) L.length L.length, .func (.func g) #[] #[]] [.cells (Za E L) t] (.tuple #[]) [some (.cells (Za E R) t)] := by
 subst hw
 intro ι w args' hd ha he
 obtain ⟨x', y', rfl, hv, hf⟩ := Zkg ha
 rw [hf.eq_of_atom rfl]
 have htt : VR ι (.tuple #[]) (.tuple #[]) := .tuple rfl fun i x y hx => by simp at hx
 by_cases h0 : L.length = 0
 ·have hL : L = [] := List.length_eq_zero_iff.1 h0
  subst hL
  obtain rfl : R = [] := hp.eq_nil
  obtain ⟨a', c', rfl⟩ : ∃ a' c', x' = .slice a' 0 c' := by
   rcases ZeG hv with ⟨b, c', _, _, _, h⟩ | ⟨_, _, a', h⟩
   ·exact ⟨_, _, h⟩
   ·exact ⟨_, _, h⟩
  exact (AnyF.slices_SortFunc_none S.L a' c' _ w).mono fun e w' ⟨h1, h2⟩ => by subst h1 h2; exact Ze0 hd he (Below.refl _ _) htt
 obtain ⟨b, c', h1, h3, rfl⟩ : ∃ b c', ι 0 = some b ∧ L.length ≤ c' ∧ x' = .slice (some ⟨b.1, 0, none⟩) L.length c' := by
  rcases ZeG hv with ⟨b, c', h1, _, h3, h4⟩ | ⟨h0', _, _⟩
  ·exact ⟨b, c', h1, h3, h4⟩
  ·exact absurd h0' h0
 obtain ⟨b', D, r1, r2, r3, r4⟩ := he.obj 0 (Za E L) t rfl
 rw [h1] at r1; injection r1 with r1; subst r1
 have hlt := (Array.getElem?_eq_some_iff.1 r2).1
 have hDs : L.length * E.w ≤ D.size := by have := r3.1; rwa [ZaG] at this
 -- the elements
 obtain ⟨d, hds, hdg⟩ : ∃ d : Array (WE ι E key q), d.size = L.length ∧ ∀ j (hj : j < d.size), d[j].el = L.getD j E.dflt ∧ ∀ i, i < E.w → d[j].cs[i]? = D[j * E.w + i]? := by
  refine ⟨Array.ofFn fun j : _root_.Fin L.length => Classical.choose (Zny (key := key) (q := q) hkey r3 j.2), by simp, fun j hj => ?_⟩
  have hj2 : j < L.length := by simpa using hj
  simp only [Array.getElem_ofFn]
  exact Classical.choose_spec (Zny (key := key) (q := q) hkey r3 hj2)
 have h0d : 0 < d.size := by omega
 haveI : Inhabited (WE ι E key q) := ⟨d[0]⟩
 have hflat : ∀ (d2 : Array (WE ι E key q)), d2.size = L.length → ∀ j i, j < L.length → i < E.w → (Go.Sort.flatK WE.cs E.w d2)[j * E.w + i]! = (d2[j]!).cs[i]! := fun d2 h2 j i hj hi => by
  have hb : j * E.w + i < d2.size * E.w := by
   rw [h2]
   have : j * E.w + E.w ≤ L.length * E.w := by rw [← Nat.succ_mul]; exact Nat.mul_le_mul_right _ hj
   omega
  rw [Go.Sort.get_flatK _ _ _ _ hb]
  have e1 : (j * E.w + i) / E.w = j := by rw [Nat.mul_comm, Nat.mul_add_div S.pos, Nat.div_eq_of_lt hi, Nat.add_zero]
  have e2 : (j * E.w + i) % E.w = i := by rw [Nat.mul_comm, Nat.mul_add_mod, Nat.mod_eq_of_lt hi]
  rw [e1, e2]
 have hsplit : ∀ m, m < L.length * E.w → ∃ j i, j < L.length ∧ i < E.w ∧ m = j * E.w + i := fun m hm => by
  refine ⟨m / E.w, m % E.w, (Nat.div_lt_iff_lt_mul S.pos).2 hm, Nat.mod_lt _ S.pos, ?_⟩
  rw [Nat.mul_comm]; exact (Nat.div_add_mod m E.w).symm
 have hcsl : ∀ p : WE ι E key q, p.cs.length = E.w := fun p => p.2.1
 have hH : Go.Sort.HoldsK WE.cs E.w w b.1 0 d := fun m hm => by
  rw [Go.Sort.size_flatK, hds] at hm
  obtain ⟨j, i, hj, hi, rfl⟩ := hsplit m hm
  refine ⟨?_, by simp [World.frozen?, r2]⟩
  rw [Nat.zero_add, Zh1 r2, hflat d hds j i hj hi, getElem!_pos d j (by omega)]
  have := (hdg j (by omega)).2 i hi
  rw [← this]
  rw [List.getElem?_eq_getElem (by rw [hcsl]; exact hi)]
  simp [getElem!_pos, hcsl, hi]
 have hc := AnyQ.slices_SortFunc (α := WE ι E key q) S.L E.w S.aE S.zE WE.cs hcsl (fun x => x.2.2.1) (fun x y => Lib.compareInt (key x.el) (key y.el)) ZnO g #[] b.1 0 c' d w S.eg (fun m os dk hs x y => S.hcl x.cs y.cs _ _ _ (hcsl x) (hcsl y) x.2.2.2.1 y.2.2.2.1 x.2.2.1 y.2.2.1) hH hlt (by omega)
 rw [hds] at hc
 refine hc.mono ?_
 rintro e w' ⟨rfl, d', n, os, ⟨ps, _, pp⟩, hso, rfl⟩
 have hds' : d'.size = L.length := ps.trans hds
 have hmapL : d.toList.map WE.el = L := by
  refine List.ext_getElem (by simp [hds]) fun j h1 h2 => ?_
  have hj : j < d.size := by simpa using h1
  rw [List.getElem_map, Array.getElem_toList, (hdg j hj).1, List.getD_eq_getElem?_getD, List.getElem?_eq_getElem h2, Option.getD_some]
 have pl : (d'.toList.map WE.el).Perm L := by
  rw [← hmapL]
  have e1 : d'.extract 0 L.length = d' := by rw [← hds']; simp
  have e2 : d.extract 0 L.length = d := by rw [← hds]; simp
  rw [e1, e2] at pp
  exact pp.map _
 have hsorted : (d'.toList.map WE.el).Pairwise fun a b => key a ≤ key b := by
  rw [List.pairwise_map, List.pairwise_iff_getElem]
  intro i j hi hj hij
  have hi2 : i < d'.size := by simpa using hi
  have hj2 : j < d'.size := by simpa using hj
  have := hso i j (Nat.zero_le _) hij (by omega)
  rw [ZhY, getElem!_pos d' i hi2, getElem!_pos d' j hj2] at this
  simp only [decide_eq_false_iff_not] at this
  simp only [Array.getElem_toList]
  omega
 have hR : d'.toList.map WE.el = R := ZlR (key := key) (pl.trans hp.symm) hsorted hr
 have hRl : R.length = L.length := hp.length_eq
 have hRe : ∀ j (hj : j < d'.size), d'[j].el = R.getD j E.dflt := fun j hj => by
  rw [← hR]
  simp [List.getD_eq_getElem?_getD, hj]
 obtain ⟨g1, g2⟩ := Zng (F := Go.Sort.flatK WE.cs E.w d') r2 n os
 have hlk : ∀ k o, lkO [some (.cells (Za E R) t)] k = some o → k = 0 ∧ o = .cells (Za E R) t := fun k o hk => by
  cases k with
  | zero => exact ⟨rfl, (Option.some.inj hk).symm⟩
  | succ k => simp [lkO] at hk
 have hisC : ∀ k, isC (lkO [some (.cells (Za E R) t)] k) = true → k = 0 := fun k hk => by
  cases ho : lkO [some (.cells (Za E R) t)] k with
  | none => rw [ho] at hk; cases hk
  | some o => exact (hlk k o ho).1
 refine ⟨.tuple #[], ι, rfl, ⟨fun _ _ h => h, ⟨fun k c2 t2 hk => ?_, fun k O hk => ?_, fun k k' b1 b2 q1 q2 q3 q4 q5 => ?_, fun k b2 hk => ?_, he.marks (fun _ _ h => h) (fun b2 hb hno => g2 b2 hb fun e => hno 0 b rfl h1 e.symm) (fun _ _ _ _ h => h) fun k d2 hk hd2 => .inr ⟨k, d2, by rw [hisC k hk]; rfl, hd2, rfl⟩⟩, rfl, rfl, rfl, ?_, fun b2 hb hno => g2 b2 hb fun e => hno 0 b rfl h1 e.symm, fun k b1 q1 q2 => (by rw [q1] at q2; cases q2), fun k q1 _ => ?_, fun k q1 _ => ?_⟩, fun k hk => (hd k hk).imp id (fun q => q.1), htt⟩
 ·obtain ⟨rfl, e1⟩ := hlk k _ hk
  injection e1 with e1 e2
  subst e1 e2
  refine ⟨b, _, h1, g1, ⟨?_, fun m x y hx hy => ?_⟩, fun i hi => ?_⟩
  ·rw [ZaG, hRl]; simpa [Go.Sort.putCells] using hDs
  ·have hm : m < L.length * E.w := by
    have := (List.getElem?_eq_some_iff.1 hx).1
    rwa [ZaG, hRl] at this
   obtain ⟨j, i, hj, hi, rfl⟩ := hsplit m hm
   have hj2 : j < d'.size := by omega
   rw [Zkj (by omega) hi] at hx
   have hmD : j * E.w + i < D.size := by omega
   have hfs : (Go.Sort.flatK WE.cs E.w d').size = L.length * E.w := by rw [Go.Sort.size_flatK, hds']
   have hy2 : y = (d'[j]).cs[i]'(by rw [hcsl]; exact hi) := by
    unfold Go.Sort.putCells at hy
    rw [Array.getElem?_mapIdx, Array.getElem?_eq_getElem hmD, Option.map_some, if_pos ⟨Nat.zero_le _, by rw [hfs]; omega⟩, Nat.sub_zero, hflat d' hds' j i hj hi, getElem!_pos d' j hj2] at hy
    injection hy with hy
    rw [← hy]
    simp [getElem!_pos, hcsl, hi]
   rw [hy2]
   refine (d'[j]).2.2.2.2 i x _ ?_ (List.getElem?_eq_getElem _)
   show (E.enc (d'[j]).el)[i]? = some x
   rw [hRe j hj2]; exact hx
  ·have := r4 i hi
   simpa [Go.Sort.putCells] using this
 ·obtain ⟨_, e1⟩ := hlk k _ hk
  cases e1
 ·have := hisC k q1
  cases ho : lkO [some (.cells (Za E R) t)] k' with
  | none => rw [ho] at q2; cases q2
  | some o => rw [this, (hlk k' o ho).1]
 ·refine Nat.lt_of_lt_of_le (he.lt k b2 hk) ?_
  show w.heap.size ≤ (w.heap.modify _ _ ++ os).size
  simp
 ·show w.heap.size ≤ (w.heap.modify _ _ ++ os).size
  simp
 ·cases ho : lkO [some (.cells (Za E R) t)] k with
  | none => rw [ho] at q1; cases q1
  | some o => rw [(hlk k o ho).1]; rfl
 ·rw [hisC k q1]; rfl
theorem Zm5 {sz q : Nat} {g : FuncId} (S : Zki P ρ sz q g) {L : List α} (hL : L = []) {fv : Value} (hfv : atom fv = true) : LSpec P (ρ.f 6) #[ms E L, fv] [] (.tuple #[]) [] := by
 subst hL
 intro ι w args' hd ha he
 obtain ⟨x', y', rfl, hv, hf⟩ := Zkg ha
 obtain ⟨a', c', rfl⟩ : ∃ a' c', x' = .slice a' 0 c' := by
  rcases ZiW hv with ⟨b, base, q, c', _, _, _, h⟩ | ⟨_, _, a', h⟩
  ·exact ⟨_, _, h⟩
  ·exact ⟨_, _, h⟩
 exact (AnyF.slices_SortFunc_none S.L a' c' _ w).mono fun e w' ⟨h1, h2⟩ => by subst h1 h2; exact Ze0 (pre := []) hd he (Below.refl _ _) (.tuple rfl fun i x y hx => by simp at hx)
end
end Ev
end Go.Proofs.YtifdgbbbojccdaaGreat
/- A row by a number. -/
namespace Go.Proofs.YtifdgbbbojccdaaGreat
open Go.RowKit
namespace Ev
theorem Zg6 {α : Type} (key : α → Int) (x : α) : ∀ l : List α, (Zhz key x l).Perm (x :: l)
 | [] => .refl _
 | y :: l => by
  unfold Zhz
  split
  ·exact .refl _
  ·exact ((Zg6 key x l).cons y).trans (.swap x y l)
theorem ZbN {α : Type} (key : α → Int) : ∀ l : List α, (Zay key l).Perm l
 | [] => .refl _
 | x :: l => (Zg6 key x _).trans ((ZbN key l).cons x)
theorem Zlg {α : Type} (key : α → Int) (x : α) : ∀ l : List α, l.Pairwise (fun a b => key a ≤ key b) → (Zhz key x l).Pairwise (fun a b => key a ≤ key b)
 | [], _ => by unfold Zhz; simp
 | y :: l, h => by
  unfold Zhz
  obtain ⟨h1, h2⟩ := List.pairwise_cons.1 h
  split
  ·rename_i c
   refine List.pairwise_cons.2 ⟨fun b hb => ?_, h⟩
   rcases List.mem_cons.1 hb with rfl | hb
   ·omega
   ·have := h1 b hb; omega
  ·rename_i c
   refine List.pairwise_cons.2 ⟨fun b hb => ?_, Zlg key x l h2⟩
   rcases List.mem_cons.1 ((Zg6 key x l).subset hb) with rfl | hb
   ·omega
   ·exact h1 b hb
theorem Zkk {α : Type} (key : α → Int) : ∀ l : List α, (Zay key l).Pairwise (fun a b => key a ≤ key b)
 | [] => .nil
 | x :: l => Zlg key x _ (Zkk key l)
theorem Zkl {α : Type} (key : α → Int) {l : List α} (h : l.Pairwise fun a b => key a ≠ key b) : (Zay key l).Pairwise (fun a b => key a < key b) := by
 have h2 : (Zay key l).Pairwise fun a b => key a ≠ key b := ((ZbN key l).pairwise_iff (fun {a b} q => fun e => q e.symm)).2 h
 exact ((Zkk key l).and h2).imp fun q => by have := q.1; have := q.2; omega
end Ev
end Go.Proofs.YtifdgbbbojccdaaGreat
/- Library functions, laid at this program. -/
namespace Go.Proofs
open Go.Shelf
def YtifdgbbbojccdaaGreat.Ev.cloneE_ren : Go.Shelf.Ren := ⟨fun | 41 => 14 | n => n, fun | 22 => 22 | 23 => 27 | 4 => 4 | n => n, fun | n => n⟩
theorem YtifdgbbbojccdaaGreat.Ev.cloneE : Go.Proofs.SlLaysE0.n41 Tryz.prog YtifdgbbbojccdaaGreat.Ev.cloneE_ren := {
  mixed := by kernel_rfl
  f41 := ⟨Tryz.f14.name, by decide, Tryz.func14.trans (congrArg some (by kernel_rfl))⟩
  t4 := Tryz.underlying4
  a4 := Tryz.isAgg4
  z4 := Tryz.sizeOf4
  v4 := Tryz.zeroValue4
  t22 := Tryz.underlying22
  a22 := Tryz.isAgg22
  z22 := Tryz.sizeOf22
  v22 := Tryz.zeroValue22 }
def YtifdgbbbojccdaaGreat.Ev.cloneV_ren : Go.Shelf.Ren := ⟨fun | 41 => 18 | n => n, fun | 22 => 24 | 23 => 43 | 4 => 4 | n => n, fun | n => n⟩
theorem YtifdgbbbojccdaaGreat.Ev.cloneV : Go.Proofs.SlLaysE0.n41 Tryz.prog YtifdgbbbojccdaaGreat.Ev.cloneV_ren := {
  mixed := by kernel_rfl
  f41 := ⟨Tryz.f18.name, by decide, Tryz.func18.trans (congrArg some (by kernel_rfl))⟩
  t4 := Tryz.underlying4
  a4 := Tryz.isAgg4
  z4 := Tryz.sizeOf4
  v4 := Tryz.zeroValue4
  t22 := Tryz.underlying24
  a22 := Tryz.isAgg24
  z22 := Tryz.sizeOf24
  v22 := Tryz.zeroValue24 }
def YtifdgbbbojccdaaGreat.Ev.sortE_ren : Go.Shelf.Ren := ⟨fun | 6 => 15 | 15 => 26 | 14 => 25 | 28 => 41 | 29 => 42 | 20 => 33 | 21 => 34 | 22 => 35 | 23 => 36 | 24 => 37 | 25 => 38 | 26 => 39 | 27 => 40 | 46 => 58 | 47 => 59 | 48 => 60 | 49 => 61 | 50 => 62 | 57 => 88 | n => n, fun | 22 => 22 | 24 => 27 | 25 => 39 | 3 => 3 | 39 => 70 | 0 => 0 | 53 => 94 | 55 => 96 | 4 => 4 | 46 => 88 | 45 => 87 | 50 => 67 | 5 => 5 | 9 => 9 | 66 => 113 | 70 => 117 | 76 => 156 | 77 => 157 | n => n, fun | n => n⟩
theorem YtifdgbbbojccdaaGreat.Ev.sortE : Go.Proofs.SlLaysF0.n6 Tryz.prog YtifdgbbbojccdaaGreat.Ev.sortE_ren := {
  mixed := by kernel_rfl
  f6 := ⟨Tryz.f15.name, by decide, Tryz.func15.trans (congrArg some (by kernel_rfl))⟩
  f14 := ⟨Tryz.f25.name, by decide, Tryz.func25.trans (congrArg some (by kernel_rfl))⟩
  f15 := Tryz.func26.trans (congrArg some (by kernel_rfl))
  f20 := ⟨Tryz.f33.name, by decide, Tryz.func33.trans (congrArg some (by kernel_rfl))⟩
  f21 := ⟨Tryz.f34.name, by decide, Tryz.func34.trans (congrArg some (by kernel_rfl))⟩
  f22 := ⟨Tryz.f35.name, by decide, Tryz.func35.trans (congrArg some (by kernel_rfl))⟩
  f23 := ⟨Tryz.f36.name, by decide, Tryz.func36.trans (congrArg some (by kernel_rfl))⟩
  f24 := ⟨Tryz.f37.name, by decide, Tryz.func37.trans (congrArg some (by kernel_rfl))⟩
  f25 := ⟨Tryz.f38.name, by decide, Tryz.func38.trans (congrArg some (by kernel_rfl))⟩
  f26 := ⟨Tryz.f39.name, by decide, Tryz.func39.trans (congrArg some (by kernel_rfl))⟩
  f27 := ⟨Tryz.f40.name, by decide, Tryz.func40.trans (congrArg some (by kernel_rfl))⟩
  f28 := Tryz.func41.trans (congrArg some (by kernel_rfl))
  f29 := Tryz.func42.trans (congrArg some (by kernel_rfl))
  f46 := ⟨Tryz.f58.name, by decide, Tryz.func58.trans (congrArg some (by kernel_rfl))⟩
  f47 := Tryz.func59.trans (congrArg some (by kernel_rfl))
  f48 := Tryz.func60.trans (congrArg some (by kernel_rfl))
  f49 := ⟨Tryz.f61.name, by decide, Tryz.func61.trans (congrArg some (by kernel_rfl))⟩
  f50 := ⟨Tryz.f62.name, by decide, Tryz.func62.trans (congrArg some (by kernel_rfl))⟩
  f57 := ⟨Tryz.f88.name, by decide, Tryz.func88.trans (congrArg some (by kernel_rfl))⟩
  t0 := Tryz.underlying0
  a0 := Tryz.isAgg0
  z0 := Tryz.sizeOf0
  v0 := Tryz.zeroValue0
  t3 := Tryz.underlying3
  a3 := Tryz.isAgg3
  z3 := Tryz.sizeOf3
  v3 := Tryz.zeroValue3
  t4 := Tryz.underlying4
  a4 := Tryz.isAgg4
  z4 := Tryz.sizeOf4
  v4 := Tryz.zeroValue4
  t5 := Tryz.underlying5
  a5 := Tryz.isAgg5
  z5 := Tryz.sizeOf5
  v5 := Tryz.zeroValue5
  t9 := Tryz.underlying9
  a9 := Tryz.isAgg9
  z9 := Tryz.sizeOf9
  v9 := Tryz.zeroValue9
  t22 := Tryz.underlying22
  a22 := Tryz.isAgg22
  z22 := Tryz.sizeOf22
  v22 := Tryz.zeroValue22
  t25 := Tryz.underlying39
  a25 := Tryz.isAgg39
  z25 := Tryz.sizeOf39
  v25 := Tryz.zeroValue39
  t39 := Tryz.underlying70
  a39 := Tryz.isAgg70
  z39 := Tryz.sizeOf70
  v39 := Tryz.zeroValue70
  t45 := Tryz.underlying87
  a45 := Tryz.isAgg87
  z45 := Tryz.sizeOf87
  v45 := Tryz.zeroValue87
  t46 := Tryz.underlying88
  a46 := Tryz.isAgg88
  z46 := Tryz.sizeOf88
  v46 := Tryz.zeroValue88
  t50 := Tryz.underlying67
  a50 := Tryz.isAgg67
  z50 := Tryz.sizeOf67
  v50 := Tryz.zeroValue67
  t53 := Tryz.underlying94
  a53 := Tryz.isAgg94
  z53 := Tryz.sizeOf94
  v53 := Tryz.zeroValue94
  t55 := Tryz.underlying96
  a55 := Tryz.isAgg96
  z55 := Tryz.sizeOf96
  v55 := Tryz.zeroValue96
  t66 := Tryz.underlying113
  a66 := Tryz.isAgg113
  z66 := Tryz.sizeOf113
  v66 := Tryz.zeroValue113
  t70 := Tryz.underlying117
  a70 := Tryz.isAgg117
  z70 := Tryz.sizeOf117
  v70 := Tryz.zeroValue117
  t76 := Tryz.underlying156
  a76 := Tryz.isAgg156
  z76 := Tryz.sizeOf156
  v76 := Tryz.zeroValue156
  t77 := Tryz.underlying157
  a77 := Tryz.isAgg157
  z77 := Tryz.sizeOf157
  v77 := Tryz.zeroValue157 }
def YtifdgbbbojccdaaGreat.Ev.cmpI_ren : Go.Shelf.Ren := ⟨fun | 5 => 17 | 7 => 27 | n => n, fun | 22 => 3 | 3 => 3 | 4 => 4 | n => n, fun | n => n⟩
theorem YtifdgbbbojccdaaGreat.Ev.cmpI : Go.Proofs.SlLaysC2.n5 Tryz.prog YtifdgbbbojccdaaGreat.Ev.cmpI_ren := {
  mixed := by kernel_rfl
  f5 := ⟨Tryz.f17.name, by decide, Tryz.func17.trans (congrArg some (by kernel_rfl))⟩
  f7 := ⟨Tryz.f27.name, by decide, Tryz.func27.trans (congrArg some (by kernel_rfl))⟩
  t3 := Tryz.underlying3
  a3 := Tryz.isAgg3
  z3 := Tryz.sizeOf3
  v3 := Tryz.zeroValue3
  t4 := Tryz.underlying4
  a4 := Tryz.isAgg4
  z4 := Tryz.sizeOf4
  v4 := Tryz.zeroValue4
  t22 := Tryz.underlying3
  a22 := Tryz.isAgg3
  z22 := Tryz.sizeOf3
  v22 := Tryz.zeroValue3 }
end Go.Proofs
namespace Go.Proofs.YtifdgbbbojccdaaGreat
open Go.RowKit Go.Lib
namespace Ev
def Zni (P : Program) (t : TypeId) (sz bytes : Nat) : Bool := match P.info? t with
 | some i => match i.zero with
  | some z => Nat.beq i.size sz && Nat.beq i.bytes bytes && Nat.beq z.cells.size sz
  | none => false
 | none => false
theorem Zm6 {P : Program} {t : TypeId} {sz bytes : Nat} (h : Zni P t sz bytes = true) : ∃ i0 z, P.info? t = some i0 ∧ i0.zero = some z ∧ i0.size = sz ∧ i0.bytes = bytes ∧ z.cells.size = sz := by
 unfold Zni at h
 split at h
 ·rename_i i hi
  split at h
  ·rename_i z hz
   simp only [Bool.and_eq_true] at h
   exact ⟨i, z, hi, hz, Nat.eq_of_beq_eq_true h.1.1, Nat.eq_of_beq_eq_true h.1.2, Nat.eq_of_beq_eq_true h.2⟩
  ·cases h
 ·cases h
theorem Zkm {P : Program} {t : TypeId} {i : TypeInfo} (h : P.info? t = some i) (w : World) : (Go.sizeOf t).run P w = .ok i.size w := by
 simp [Go.sizeOf, typeInfo, h, Result.andThen, Sem.run]
theorem Zlh {ρ : Shelf.Ren} {P : Program} (L : SlLaysE0.n41 P ρ) {t : TypeId} {sz bytes : Nat} (ht : ρ.t 23 = t) (h : Zni P t sz bytes = true) (hp : 0 < sz) : ZcZ P ρ sz bytes := by
 subst ht
 obtain ⟨i0, z, k1, k2, k3, k4, k5⟩ := Zm6 h
 exact ⟨L, ⟨i0, z, k1, k2, k3, k4, k5⟩, hp, fun w => by rw [Zkm k1, k3]⟩
theorem Zh2 : ZcZ Tryz.prog cloneE_ren 8 80 := Zlh cloneE (t := 27) rfl (by kernel_rfl) (by decide)
theorem Znj : ZcZ Tryz.prog cloneV_ren 2 16 := Zlh cloneV (t := 43) rfl (by kernel_rfl) (by decide)
theorem ZnP (w : World) : (isAgg 27).run Tryz.prog w = .ok true w := by
 simp [isAgg, run_underlying Tryz.underlying27, Result.andThen, Sem.run]
set_option maxHeartbeats 1000000 in
theorem ZnQ (x0 x1 x2 x3 x5 x6 x7 y0 y1 y2 y3 y5 y6 y7 : Value) (m n : Int) (W : World) : Calls Tryz.prog 16 #[.agg #[x0, x1, x2, x3, .int .i64 m, x5, x6, x7], .agg #[y0, y1, y2, y3, .int .i64 n, y5, y6, y7]] W fun e w' => e = .returned (.int .i64 (Lib.compareInt m n)) ∧ ∃ r os, w' = Go.Sort.grow (W.drewN r) os := by
 have hcon := fun W' => AnyG.cmp_Compare_int cmpI m n W'
 change ∀ W', Calls Tryz.prog 17 _ _ _ at hcon
 generalize Lib.compareInt m n = r at hcon ⊢
 go_enter Tryz.func16, Tryz.ntmps16
 go_wp2_with (go_at_call 17; refine (hcon _).mono ?_; rintro e w' ⟨rfl, rfl⟩)
 go_ret
 exact ⟨rfl, 0, _, by rw [Go.Sort.alloc_eq_grow, Go.Sort.alloc_eq_grow, Go.Sort.grow_grow]; rfl⟩
theorem Zli : Zki Tryz.prog sortE_ren 8 4 16 := by
 obtain ⟨i0, z, k1, _, k3, _⟩ := Zm6 (P := Tryz.prog) (t := 27) (sz := 8) (bytes := 80) (by kernel_rfl)
 refine ⟨sortE, ZnP, fun w => (Zkm k1 w).trans (by rw [k3]), by decide, enters_of Tryz.func16 (by kernel_rfl) rfl, fun x y m n W hx hy hm hn _ _ => ?_⟩
 match x, hx, hm with
 | [x0, x1, x2, x3, x4, x5, x6, x7], _, hm =>
  match y, hy, hn with
  | [y0, y1, y2, y3, y4, y5, y6, y7], _, hn =>
   obtain rfl : x4 = .int .i64 m := Option.some.inj hm
   obtain rfl : y4 = .int .i64 n := Option.some.inj hn
   exact ZnQ x0 x1 x2 x3 x5 x6 x7 y0 y1 y2 y3 y5 y6 y7 m n W
end Ev
end Go.Proofs.YtifdgbbbojccdaaGreat
