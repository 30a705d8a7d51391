/- Functions with deferred calls. -/
import Derived.Test.YtldlnclkdgfahaaGreatEvK
import Derived.Defers
namespace Go.Proofs.YtldlnclkdgfahaaGreat
open Go.RowKit
namespace Ev
noncomputable section
def isDefer (o : Oper) : Option Call :=
  match o.op with
  | .defer c => some c
  | _ => none
def evDOps (P : Program) (ext : FuncId → Option Ext) (nt fu : Nat) (ops : Array Oper) : List Oper → Tr Value → St → List (FuncId × Array Value) → Option (Tr Value × St × List (FuncId × Array Value))
  | [], T, s, ds => some (T, s, ds)
  | o :: l, T, s, ds =>
    bif okDst nt o.dst && allB goodOp o.op.operands.toList then
      match wantedT ops T o s with
      | some (true, s1) => match isDefer o with
        | some c => match callee (opnd T) c with
          | some (f, args) => evDOps P ext nt fu ops l (putT T o.dst undef) s1 ((f, args) :: ds)
          | none => none
        | none => match evOp P ext fu (opnd T) o s1 with
          | some (v, s') => evDOps P ext nt fu ops l (putT T o.dst v) s' ds
          | none => none
      | some (false, s1) => evDOps P ext nt fu ops l (putT T o.dst undef) s1 ds
      | none => none
    else none
/-- A body with deferred calls: has it come to a return? -/
def evD (P : Program) (ext : FuncId → Option Ext) (nt : Nat) : Nat → Code → Tr Value → St → List (FuncId × Array Value) → Option (Bool × Tr Value × St × List (FuncId × Array Value))
  | 0, _, _, _, _ => none
  | fu + 1, c, T, s, ds => match c with
    | .seq a b => match evD P ext nt fu a T s ds with
      | some (false, T', s', ds') => evD P ext nt fu b T' s' ds'
      | some (true, T', s', ds') => some (true, T', s', ds')
      | none => none
    | .cond x a b => match opnd T x with
      | .bool t => match t with
        | true => evD P ext nt fu a T s ds
        | false => evD P ext nt fu b T s ds
      | _ => none
    | .region _ ops draw => match draw with
      | true => none
      | false => match evDOps P ext nt fu ops ops.toList T s ds with
        | some (T', s', ds') => some (false, T', s', ds')
        | none => none
    | .skip => some (false, T, s, ds)
    | .ret => some (true, T, s, ds)
    | _ => none
def evLeave (P : Program) (ext : FuncId → Option Ext) (fu : Nat) : List (FuncId × Array Value) → St → Option St
  | [], s => some s
  | d :: ds, s => match evCall P ext fu d.1 d.2 s with
    | some (_, s') => evLeave P ext fu ds s'
    | none => none
def evCallD (P : Program) (ext : FuncId → Option Ext) (fu : Nat) (f : FuncId) (args : Array Value) (s : St) : Out :=
  match P.funcs[f]? with
  | some fn => match fn.body with
    | some c => bif Nat.ble args.size fn.ntmps then match evD P ext fn.ntmps fu c (argsT 0 args.toList .nil) s [] with
      | some (_, T, s', ds) => match evLeave P ext fu ds s' with
        | some s2 => match resultsT P T s2 fn.results.toList with
          | some [v] => some (v, s2)
          | some vs => some (.tuple vs.toArray, s2)
          | none => none
        | none => none
      | none => none
      else none
    | none => none
  | none => none
end
section
variable {P : Program} {ext : FuncId → Option Ext}
def DR (ι : Ren) : List (FuncId × Array Value) → List Deferred → Prop
  | [], [] => True
  | d :: ds, x :: D => (∃ b, x.target = .fn (.func d.1) b ∧ VRs ι d.2 (x.args ++ b)) ∧ DR ι ds D
  | _, _ => False
theorem DR.on {ι ι' : Ren} (hi : ∀ k b, ι k = some b → ι' k = some b) : ∀ {ds : List (FuncId × Array Value)} {D : List Deferred}, DR ι ds D → DR ι' ds D
  | [], [], _ => trivial
  | [], _ :: _, h => h.elim
  | _ :: _, [], h => h.elim
  | _ :: _, _ :: _, h => ⟨let ⟨b, h1, h2⟩ := h.1; ⟨b, h1, h2.ext hi⟩, DR.on hi h.2⟩
/-- What is deferred. -/
theorem defer_sound {ι : Ren} {ρ ρ' : Operand → Value} {o : Oper} {c : Call} {f : FuncId} {args : Array Value} (hρ : ∀ x, VR ι (ρ x) (ρ' x)) (ho : o.op = .defer c) (h : callee ρ c = some (f, args)) (w : World) :
    ∃ d b, (execOp ρ' o).run P w = .ok (.defer d) w ∧ d.target = .fn (.func f) b ∧ VRs ι args (d.args ++ b) := by
  unfold callee at h
  split at h
  · rename_i x hx
    split at h
    · rename_i g a b hg
      injection h with h; injection h with h1 h2; subst h1 h2
      have hv := hg ▸ hρ x
      have : ∃ a' b', ρ' x = .func (.func g) a' b' ∧ VRs ι a a' ∧ VRs ι b b' := by
        generalize ρ' x = x' at hv
        cases hv with
        | atom h =>
          simp [Ev.atom] at h
          obtain ⟨rfl, rfl⟩ := h
          exact ⟨_, _, rfl, ⟨rfl, fun i x y hx => by simp at hx⟩, ⟨rfl, fun i x y hx => by simp at hx⟩⟩
        | func hs ht h1 h2 => exact ⟨_, _, rfl, ⟨hs, h1⟩, ⟨ht, h2⟩⟩
      obtain ⟨a', b', hx', ha, hb⟩ := this
      refine ⟨{ target := .fn (.func g) b', args := a' ++ c.args.map ρ' }, b', ?_, rfl, append_VRs (append_VRs ha (map_VRs hρ c.args)) hb⟩
      simp [execOp, ho, resolve, hx, hx', Deferred.ofValue, Result.andThen, Sem.run]
    · cases h
  · cases h
theorem up_dops (F : Fit P ext) {nt fu : Nat} {ops : Array Oper} : ∀ (l : List Oper) (T : Tr Value) (s : St) (ds : List (FuncId × Array Value)) (T' : Tr Value) (s' : St) (ds' : List (FuncId × Array Value)), evDOps P ext nt fu ops l T s ds = some (T', s', ds') → Up s s'
  | [], T, s, ds, T', s', ds', h => by simp only [evDOps] at h; injection h with h; simp only [Prod.mk.injEq] at h; obtain ⟨_, rfl, _⟩ := h; exact Up.refl _
  | o :: l, T, s, ds, T', s', ds', h => by
    simp only [evDOps] at h
    replace h := (bif_some h).2
    have uP := (up_all (P := P) (ext := ext) (fun f g hg => (F.hp f g hg).up) fu).2.2.1
    split at h
    · split at h
      · split at h
        · exact (up_wanted (by assumption)).trans (up_dops F l _ _ _ _ _ _ h)
        · cases h
      · split at h
        · exact (up_wanted (by assumption)).trans ((uP _ _ _ _ _ (by assumption)).trans (up_dops F l _ _ _ _ _ _ h))
        · cases h
    · exact (up_wanted (by assumption)).trans (up_dops F l _ _ _ _ _ _ h)
    · cases h
theorem up_d (F : Fit P ext) {nt : Nat} : ∀ (fu : Nat) (c : Code) (T : Tr Value) (s : St) (ds : List (FuncId × Array Value)) (r : Bool) (T' : Tr Value) (s' : St) (ds' : List (FuncId × Array Value)), evD P ext nt fu c T s ds = some (r, T', s', ds') → Up s s'
  | 0, _, _, _, _, _, _, _, _, h => by simp [evD] at h
  | fu + 1, c, T, s, ds, r, T', s', ds', h => by
    cases c <;> simp only [evD] at h
    case seq a b =>
      split at h
      · exact (up_d F fu _ _ _ _ _ _ _ _ (by assumption)).trans (up_d F fu _ _ _ _ _ _ _ _ h)
      · injection h with h; simp only [Prod.mk.injEq] at h; obtain ⟨_, _, rfl, _⟩ := h; exact up_d F fu _ _ _ _ _ _ _ _ (by assumption)
      · cases h
    case cond x a b =>
      split at h
      · split at h
        · exact up_d F fu _ _ _ _ _ _ _ _ h
        · exact up_d F fu _ _ _ _ _ _ _ _ h
      · cases h
    case region id ops draw =>
      split at h
      · cases h
      · split at h
        · injection h with h; simp only [Prod.mk.injEq] at h; obtain ⟨_, _, rfl, _⟩ := h; exact up_dops F _ _ _ _ _ _ _ (by assumption)
        · cases h
    case skip => injection h with h; simp only [Prod.mk.injEq] at h; obtain ⟨_, _, rfl, _⟩ := h; exact Up.refl _
    case ret => injection h with h; simp only [Prod.mk.injEq] at h; obtain ⟨_, _, rfl, _⟩ := h; exact Up.refl _
    all_goals cases h
theorem up_leave (F : Fit P ext) {fu : Nat} : ∀ (ds : List (FuncId × Array Value)) (s s' : St), evLeave P ext fu ds s = some s' → Up s s'
  | [], s, s', h => by simp only [evLeave] at h; injection h with h; subst h; exact Up.refl _
  | d :: ds, s, s', h => by
    simp only [evLeave] at h
    split at h
    · exact ((up_all (P := P) (ext := ext) (fun f g hg => (F.hp f g hg).up) fu).2.2.2.1 _ _ _ _ _ (by assumption)).trans (up_leave F ds _ _ h)
    · cases h
theorem dops_sound (F : Fit P ext) {nt fu : Nat} {ops : Array Oper} : ∀ (l : List Oper) (T : Tr Value) (s : St) (ds : List (FuncId × Array Value)) (T' : Tr Value) (s' : St) (ds' : List (FuncId × Array Value)), evDOps P ext nt fu ops l T s ds = some (T', s', ds') → (∀ p ∈ s'.ob, p.1 = p.2) →
    ∀ ι D a w (Q : Exit → Act → World → Prop), TR ι nt D T a → DR ι ds D → Emb P ι s.h.get w → Fresh ι s.n s'.n →
      (∀ ι' D' a' w', Step P ι s.h.get w ι' s'.h.get w' → Dom ι ι' s.n s'.n → TR ι' nt D' T' a' → DR ι' ds' D' → Q .normal a' w') → wpList P ops Q l a w
  | [], T, s, ds, T', s', ds', h, ho, ι, D, a, w, Q, hT, hD, he, hf, hQ => by
    simp only [evDOps] at h
    injection h with h; simp only [Prod.mk.injEq] at h; obtain ⟨rfl, rfl, rfl⟩ := h
    exact hQ ι D a w (Step.refl he) Dom.refl hT hD
  | o :: l, T, s, ds, T', s', ds', h, ho, ι, D, a, w, Q, hT, hD, he, hf, hQ => by
    simp only [evDOps] at h
    obtain ⟨hg, h⟩ := bif_some h
    simp only [Bool.and_eq_true] at hg
    unfold wpList
    split at h
    · rename_i s1 hw
      have u1 := up_wanted hw
      obtain ⟨hwant, e2, e3⟩ := wanted_sound (fun t _ => hT.2.2 t) hw
      rw [if_pos hwant]
      split at h
      · rename_i c hc
        have hop : o.op = .defer c := by
          unfold isDefer at hc
          split at hc
          · rename_i c' h'; injection hc with hc; subst hc; exact h'
          · cases hc
        split at h
        · rename_i f args hcal
          obtain ⟨d, b, hrun, h1, h2⟩ := defer_sound (P := P) hT.opnd hop hcal w
          rw [exec_good (fun cs b e => by rw [hop] at e; cases e) hg.2] at hrun
          refine .inl ?_
          unfold Oper.wp
          rw [hrun, Oper.upon_defer]
          refine dops_sound F l _ s1 _ T' s' ds' h ho ι (d :: D) _ w Q ?_ ⟨⟨b, h1, h2⟩, hD⟩ (e2 ▸ he) (e3 ▸ hf) fun ι2 D2 a2 w2 k1 k2 k3 k4 => hQ ι2 D2 a2 w2 (e2 ▸ k1) (e3 ▸ k2) k3 k4
          exact TR.put (a := { a with defers := d :: a.defers }) ⟨hT.1, by rw [hT.2.1], hT.2.2⟩ hg.1 VR.undef'
        · cases h
      · split at h
        · rename_i v s2 hv
          have ua := up_all (P := P) (ext := ext) (fun f g hg => (F.hp f g hg).up) fu
          have u2 := ua.2.2.1 _ _ _ _ _ hv
          have u3 := up_dops F _ _ _ _ _ _ _ h
          refine .inl ((sound_all F fu).2.2.1 (opnd T) (evalG a) o s1 v s2 hv (suffix_ob u3.ob ho) ι w hT.opnd (e2 ▸ he) (e3 ▸ (hf.mono (Nat.le_refl _) u3.n)) a _ Q (exec_good (evOp_sel hv) hg.2).symm fun v' w' ι' g1 g2 g3 => ?_)
          rw [e2] at g1
          rw [e3] at g2
          have hle : s.n ≤ s2.n := by rw [← e3]; exact u2.n
          exact dops_sound F l (putT T o.dst v) s2 ds T' s' ds' h ho ι' D _ w' Q ((hT.on g1.ext).put hg.1 g3) (hD.on g1.ext) g1.emb (hf.after g2 hle) fun ι2 D2 a2 w2 k1 k2 k3 k4 =>
            hQ ι2 D2 a2 w2 (g1.trans k1) (g2.trans k2 hle u3.n) k3 k4
        · cases h
    · rename_i s1 hw
      have u1 := up_wanted hw
      obtain ⟨hwant, e2, e3⟩ := wanted_sound (fun t _ => hT.2.2 t) hw
      rw [if_neg (by rw [hwant]; simp)]
      exact dops_sound F l (putT T o.dst undef) s1 ds T' s' ds' h ho ι D _ w Q (hT.put hg.1 VR.undef') hD (e2 ▸ he) (e3 ▸ hf) fun ι2 D2 a2 w2 k1 k2 k3 k4 => hQ ι2 D2 a2 w2 (e2 ▸ k1) (e3 ▸ k2) k3 k4
    · cases h
def PostD (P : Program) (ι : Ren) (s : St) (w : World) (nt : Nat) (r : Bool) (T' : Tr Value) (s' : St) (ds' : List (FuncId × Array Value)) (ex : Exit) (a' : Act) (w' : World) : Prop :=
  ex = (match r with | true => .ret | false => .normal) ∧ ∃ ι' D', Step P ι s.h.get w ι' s'.h.get w' ∧ Dom ι ι' s.n s'.n ∧ TR ι' nt D' T' a' ∧ DR ι' ds' D'
theorem d_sound (F : Fit P ext) {nt : Nat} : ∀ (fu : Nat) (c : Code) (T : Tr Value) (s : St) (ds : List (FuncId × Array Value)) (r : Bool) (T' : Tr Value) (s' : St) (ds' : List (FuncId × Array Value)), evD P ext nt fu c T s ds = some (r, T', s', ds') → (∀ p ∈ s'.ob, p.1 = p.2) →
    ∀ ι D a w, TR ι nt D T a → DR ι ds D → Emb P ι s.h.get w → Fresh ι s.n s'.n → c.wp P (PostD P ι s w nt r T' s' ds') a w
  | 0, _, _, _, _, _, _, _, _, h => by simp [evD] at h
  | fu + 1, c, T, s, ds, r, T', s', ds', h => by
    intro ho ι D a w hT hD he hf
    cases c <;> simp only [evD] at h
    case seq x y =>
      split at h
      · rename_i T1 s1 ds1 h1
        have u1 := up_d F fu _ _ _ _ _ _ _ _ h1
        have u2 := up_d F fu _ _ _ _ _ _ _ _ h
        refine wp_seq (wp_mono (d_sound F fu x T s ds _ T1 s1 ds1 h1 (suffix_ob u2.ob ho) ι D a w hT hD he (hf.mono (Nat.le_refl _) u2.n)) ?_)
        rintro ex a1 w1 ⟨rfl, ι1, D1, g1, g2, g3, g4⟩
        refine wp_mono (d_sound F fu y T1 s1 ds1 r T' s' ds' h ho ι1 D1 a1 w1 g3 g4 g1.emb (hf.after g2 u1.n)) ?_
        rintro ex a2 w2 ⟨rfl, ι2, D2, k1, k2, k3, k4⟩
        exact ⟨rfl, ι2, D2, g1.trans k1, g2.trans k2 u1.n u2.n, k3, k4⟩
      · rename_i T1 s1 ds1 h1
        injection h with h; simp only [Prod.mk.injEq] at h; obtain ⟨rfl, rfl, rfl, rfl⟩ := h
        refine wp_seq (wp_mono (d_sound F fu x T s ds _ _ _ _ h1 ho ι D a w hT hD he hf) ?_)
        rintro ex a1 w1 ⟨rfl, hq⟩
        exact ⟨rfl, hq⟩
      · cases h
    case cond x y z =>
      split at h
      · rename_i t ht
        have hx : a.eval x = .bool t := evalG_bool ((ht ▸ hT.opnd x : VR ι (.bool t) (evalG a x)).bool_inv)
        split at h
        · exact wp_cond_true hx (d_sound F fu y T s ds r T' s' ds' h ho ι D a w hT hD he hf)
        · exact wp_cond_false hx (d_sound F fu z T s ds r T' s' ds' h ho ι D a w hT hD he hf)
      · cases h
    case region id ops draw =>
      split at h
      · cases h
      · split at h
        · rename_i T1 s1 ds1 h1
          injection h with h; simp only [Prod.mk.injEq] at h; obtain ⟨rfl, rfl, rfl, rfl⟩ := h
          exact wp_region_list (dops_sound F ops.toList T s ds T1 s1 ds1 h1 ho ι D a w _ hT hD he hf fun ι' D' a' w' g1 g2 g3 g4 => ⟨rfl, ι', D', g1, g2, g3, g4⟩)
        · cases h
    case skip => injection h with h; simp only [Prod.mk.injEq] at h; obtain ⟨rfl, rfl, rfl, rfl⟩ := h; exact wp_skip ⟨rfl, ι, D, Step.refl he, Dom.refl, hT, hD⟩
    case ret => injection h with h; simp only [Prod.mk.injEq] at h; obtain ⟨rfl, rfl, rfl, rfl⟩ := h; exact wp_ret ⟨rfl, ι, D, Step.refl he, Dom.refl, hT, hD⟩
    all_goals cases h
/-- A call's body. -/
theorem call_wp (F : Fit P ext) {fu : Nat} {f : FuncId} {args args' : Array Value} {s s' : St} {v : Value} (h : evCall P ext fu f args s = some (v, s')) (ho : ∀ p ∈ s'.ob, p.1 = p.2) {ι : Ren} {w : World} (ha : VRs ι args args') (he : Emb P ι s.h.get w) (hf : Fresh ι s.n s'.n) :
    ∃ fn c, P.funcs[f]? = some fn ∧ fn.body = some c ∧ c.wp P (bodyPost P fn (PostV P ι s w v s')) { tmps := args' ++ Array.replicate (fn.ntmps - args'.size) undef, defers := [] } w := by
  cases fu with
  | zero => simp [evCall] at h
  | succ fu =>
    simp only [evCall] at h
    split at h
    · rename_i fn hfn
      split at h
      · rename_i c hb
        obtain ⟨hsz, h⟩ := bif_some h
        have hle : args.size ≤ fn.ntmps := Nat.le_of_ble_eq_true hsz
        split at h
        · cases h
        · rename_i ex T1 s1 hne h1
          have hs : s' = s1 ∧ (match resultsT P T1 s1 fn.results.toList with | some [v] => some v | some vs => some (.tuple vs.toArray) | none => none) = some v := by
            split at h
            · rename_i hr; injection h with h; injection h with q1 q2; subst q1 q2; exact ⟨rfl, by rw [hr]⟩
            · rename_i vs hn hr; injection h with h; injection h with q1 q2; subst q1 q2
              refine ⟨rfl, ?_⟩
              rw [hr]
              rcases vs with _ | ⟨x, _ | ⟨y, vs⟩⟩
              · rfl
              · exact absurd rfl (hn x)
              · rfl
            · cases h
          obtain ⟨rfl, hres⟩ := hs
          refine ⟨fn, c, hfn, hb, wp_mono ((sound_all F fu).1 fn.ntmps c _ s ex T1 s' h1 ho ι [] _ w (args_TR ha hle) he hf) ?_⟩
          rintro e2 a2 w2 ⟨rfl, ι2, g1, g2, g3⟩
          obtain ⟨v', hrun, hv⟩ := results_run g3 g1.emb hres
          cases ex with
          | normal => exact ⟨g3.2.1, v', hrun, v', ι2, rfl, g1, g2, hv⟩
          | ret => exact ⟨g3.2.1, v', hrun, v', ι2, rfl, g1, g2, hv⟩
          | exit i => exact (hne i rfl).elim
        · cases h
      · cases h
    · cases h
theorem leave_sound (F : Fit P ext) {fu : Nat} {fn : Func} {tmps : Array Value} {R : Ending → World → Prop} : ∀ (ds : List (FuncId × Array Value)) (s s' : St), evLeave P ext fu ds s = some s' → (∀ p ∈ s'.ob, p.1 = p.2) →
    ∀ ι D w, DR ι ds D → Emb P ι s.h.get w → Fresh ι s.n s'.n → (∀ ι' w', Step P ι s.h.get w ι' s'.h.get w' → Dom ι ι' s.n s'.n → Leaves P fn tmps R [] .returning w') → Leaves P fn tmps R D .returning w
  | [], s, s', h, ho, ι, D, w, hD, he, hf, hR => by
    simp only [evLeave] at h
    injection h with h; subst h
    cases D with
    | nil => exact hR ι w (Step.refl he) Dom.refl
    | cons _ _ => exact hD.elim
  | d :: ds, s, s', h, ho, ι, D, w, hD, he, hf, hR => by
    simp only [evLeave] at h
    split at h
    · rename_i v s1 h1
      cases D with
      | nil => exact hD.elim
      | cons x D =>
        obtain ⟨⟨b, ht, hargs⟩, hD⟩ := hD
        have u1 := (up_all (P := P) (ext := ext) (fun f g hg => (F.hp f g hg).up) fu).2.2.2.1 _ _ _ _ _ h1
        have u2 := up_leave F ds _ _ h
        obtain ⟨fn', c, hfn, hb, hwp⟩ := call_wp F h1 (suffix_ob u2.ob ho) hargs he (hf.mono (Nat.le_refl _) u2.n)
        refine ⟨by simp, _, _, d.1, x.args ++ b, ht, ?_, ?_⟩
        · rw [ht]
          exact callFunc_enter hfn (F.go _ _ hfn) hb _ _
        · refine (callsD_of_wp (u := .returning) hfn hb hwp).mono ?_
          rintro e u' w' ⟨rfl, v', ι', rfl, g1, g2, g3⟩
          exact leave_sound F ds s1 s' h ho ι' D w' (hD.on g1.ext) g1.emb (hf.after g2 u1.n) fun ι2 w2 k1 k2 => hR ι2 w2 (g1.trans k1) (g2.trans k2 u1.n u2.n)
    · cases h
/-- A FUNCTION WITH DEFERRED CALLS DOES WHAT THE RUNNER SAYS OF IT. -/
theorem calld_does (F : Fit P ext) {fu : Nat} {f : FuncId} {fn : Func} {c : Code} (hfn : P.funcs[f]? = some fn) (hb : fn.body = some c) : Does P f (evCallD P ext fu f) := by
  refine ⟨⟨fn, c, hfn, hb⟩, fun args s v s' h => ?_, fun args s v s' h ho ι w args' ha he hf => ?_⟩
  · unfold evCallD at h
    rw [hfn] at h
    simp only [hb] at h
    replace h := (bif_some h).2
    split at h
    · rename_i r T s1 ds h1
      split at h
      · rename_i s2 h2
        have u := (up_d F fu _ _ _ _ _ _ _ _ h1).trans (up_leave F _ _ _ h2)
        split at h
        · injection h with h; injection h with q1 q2; subst q2; exact u
        · injection h with h; injection h with q1 q2; subst q2; exact u
        · cases h
      · cases h
    · cases h
  · unfold evCallD at h
    rw [hfn] at h
    simp only [hb] at h
    obtain ⟨hsz, h⟩ := bif_some h
    have hle : args.size ≤ fn.ntmps := Nat.le_of_ble_eq_true hsz
    split at h
    · rename_i r T s1 ds h1
      split at h
      · rename_i s2 h2
        have hs : s' = s2 ∧ (match resultsT P T s2 fn.results.toList with | some [v] => some v | some vs => some (.tuple vs.toArray) | none => none) = some v := by
          split at h
          · rename_i hr; injection h with h; injection h with q1 q2; subst q1 q2; exact ⟨rfl, rfl⟩
          · rename_i vs hn hr; injection h with h; injection h with q1 q2; subst q1 q2
            exact ⟨rfl, rfl⟩
          · cases h
        obtain ⟨rfl, hres⟩ := hs
        have u1 := up_d F fu _ _ _ _ _ _ _ _ h1
        have u2 := up_leave F _ _ _ h2
        refine calls_of_wp_defers hfn hb (wp_mono (d_sound F fu c _ s [] r T s1 ds h1 (suffix_ob u2.ob ho) ι [] _ w (args_TR ha hle) trivial he (hf.mono (Nat.le_refl _) u2.n)) ?_)
        rintro ex a1 w1 ⟨rfl, ι1, D1, g1, g2, g3, g4⟩
        have key : Leaves P fn a1.tmps (PostV P ι s w v s') a1.defers .returning w1 := by
          rw [g3.2.1]
          refine leave_sound F ds s1 s' h2 ho ι1 D1 w1 g4 g1.emb (hf.after g2 u1.n) fun ι2 w2 k1 k2 => ?_
          obtain ⟨v', hrun, hv⟩ := results_run (g3.on k1.ext) k1.emb hres
          exact ⟨v', hrun, v', ι2, rfl, g1.trans k1, g2.trans k2 u1.n u2.n, hv⟩
        cases r <;> exact key
      · cases h
    · cases h
end
end Ev
end Go.Proofs.YtldlnclkdgfahaaGreat
