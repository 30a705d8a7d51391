/- Ranges over functions: the rounds, the iterator, the statement. -/
import Derived.Test.YtldlnclkdgfahaaGreatEvRa
import Derived.RangeFuncRecord
namespace Go.Proofs.YtldlnclkdgfahaaGreat
open Go.RowKit
namespace Ev
noncomputable section
/-- The loop: the caller's temporaries, the loop's left sides, its body. -/
structure Cx where
  nt : Nat
  T : Tr Value
  ps : Array Tmp
  asg : Code
  body : Code
def parT : List Tmp → List Value → Tr Value → Tr Value
  | t :: ts, v :: vs, T => parT ts vs (T.set t (some v))
  | _, _, T => T
def isN : Ex → Bool
  | .normal => true
  | _ => false
def pend : Ex → Option Ex
  | .normal => none
  | e => some e
def evRound (P : Program) (ext : FuncId → Option Ext) (cx : Cx) (fu : Nat) (xs : List Value) (s : St) : Option (Ex × St) :=
  bif Nat.beq xs.length cx.ps.toList.length && allB (fun t => Nat.blt t cx.nt) cx.ps.toList && noDef cx.asg && noDef cx.body then
    match evCode P ext cx.nt fu cx.asg (parT cx.ps.toList xs cx.T) s with
    | some (.normal, T1, s1) => match evCode P ext cx.nt fu cx.body T1 s1 with
      | some (e, _, s2) => some (e, s2)
      | none => none
    | _ => none
  else none
def yieldOf (ys : List Tmp) (o : Oper) : Option (Array Operand) :=
  match o.op with
  | .call c => match c.callee with
    | .value (.tmp t) => bif memN t ys then some c.args else none
    | _ => none
  | _ => none
def moveOf (ys : List Tmp) (o : Oper) : Bool :=
  match o.op with
  | .move (.tmp t) => memN t ys
  | _ => false
def dropY (dst : Option Tmp) (ys : List Tmp) : List Tmp := match dst with | some d => ys.filter (fun t => !Nat.beq t d) | none => ys
def addY (dst : Option Tmp) (ys : List Tmp) : List Tmp := match dst with | some d => d :: ys | none => ys
def evIOps (P : Program) (ext : FuncId → Option Ext) (nt : Nat) (cx : Cx) (fu : Nat) (ops : Array Oper) : List Oper → Tr Value → St → List Tmp → Option Ex → Option (Tr Value × St × List Tmp × Option Ex)
  | [], T, s, ys, pe => some (T, s, ys, pe)
  | o :: l, T, s, ys, pe =>
    bif okDst nt o.dst && allB goodOp o.op.operands.toList && (noDefO o && o.guard.isNone) then
      match yieldOf ys o with
      | some xs => match pe with
        | none => match evRound P ext cx fu (xs.toList.map (opnd T)) s with
          | some (e, s1) => evIOps P ext nt cx fu ops l (putT T o.dst (.bool (isN e))) s1 (dropY o.dst ys) (pend e)
          | none => none
        | some _ => none
      | none => bif moveOf ys o then evIOps P ext nt cx fu ops l (putT T o.dst (.chan (some 0))) s (addY o.dst ys) pe
        else match evOp P ext fu (opnd T) o s with
          | some (v, s1) => evIOps P ext nt cx fu ops l (putT T o.dst v) s1 (dropY o.dst ys) pe
          | none => none
    else none
def evI (P : Program) (ext : FuncId → Option Ext) (nt : Nat) (cx : Cx) : Nat → Code → Tr Value → St → List Tmp → Option Ex → Option (Ex × Tr Value × St × List Tmp × Option Ex)
  | 0, _, _, _, _, _ => none
  | fu + 1, c, T, s, ys, pe => match c with
    | .skip => some (.normal, T, s, ys, pe)
    | .ret => some (.ret, T, s, ys, pe)
    | .exit id => some (.exit id, T, s, ys, pe)
    | .seq a b => match evI P ext nt cx fu a T s ys pe with
      | some (.normal, T', s', ys', pe') => evI P ext nt cx fu b T' s' ys' pe'
      | some (.exit i, r) => some (.exit i, r)
      | some (.ret, r) => some (.ret, r)
      | none => none
    | .cond x a b => match opnd T x with
      | .bool t => match t with
        | true => evI P ext nt cx fu a T s ys pe
        | false => evI P ext nt cx fu b T s ys pe
      | _ => none
    | .block id a => match evI P ext nt cx fu a T s ys pe with
      | some (.exit i, r) => bif Nat.beq i id then some (.normal, r) else some (.exit i, r)
      | some (.normal, r) => some (.normal, r)
      | some (.ret, r) => some (.ret, r)
      | none => none
    | .loop a => match evI P ext nt cx fu a T s ys pe with
      | some (.normal, T', s', ys', pe') => evI P ext nt cx fu (.loop a) T' s' ys' pe'
      | some (.exit i, r) => some (.exit i, r)
      | some (.ret, r) => some (.ret, r)
      | none => none
    | .region _ ops draw => match draw with
      | true => none
      | false => match evIOps P ext nt cx fu ops ops.toList T s ys pe with
        | some (T', s', ys', pe') => some (.normal, T', s', ys', pe')
        | none => none
    | _ => none
def evRF (P : Program) (ext : FuncId → Option Ext) (nt fu : Nat) (g : Operand) (ps : Array Tmp) (asg body : Code) (T : Tr Value) (s : St) : Option (Ex × St) :=
  match opnd T g with
  | .func (.func gf) av bv => match P.funcs[gf]? with
    | some fn => match fn.body with
      | some c => bif goodOp g && Nat.ble (av ++ #[Value.chan (some 0)] ++ bv).size fn.ntmps && Nat.beq fn.results.toList.length 0 then
          match evI P ext fn.ntmps ⟨nt, T, ps, asg, body⟩ fu c (argsT 0 (av ++ #[Value.chan (some 0)] ++ bv).toList .nil) s [av.size] none with
          | some (.exit _, _) => none
          | some (_, _, s', _, none) => some (.normal, s')
          | some (_, _, s', _, some e) => bif isN e then none else some (e, s')
          | none => none
        else none
      | none => none
    | none => none
  | _ => none
/-- A body with a range over a function: has a mark been laid? -/
def evR (P : Program) (ext : FuncId → Option Ext) (nt : Nat) : Nat → Code → Tr Value → St → Bool → Option (Ex × Tr Value × St × Bool)
  | 0, _, _, _, _ => none
  | fu + 1, c, T, s, m => match c with
    | .seq a b => match evR P ext nt fu a T s m with
      | some (.normal, T', s', m') => evR P ext nt fu b T' s' m'
      | some (.exit i, r) => some (.exit i, r)
      | some (.ret, r) => some (.ret, r)
      | none => none
    | .cond x a b => match opnd T x with
      | .bool t => match t with
        | true => evR P ext nt fu a T s m
        | false => evR P ext nt fu b T s m
      | _ => none
    | .block id a => match evR P ext nt fu a T s m with
      | some (.exit i, r) => bif Nat.beq i id then some (.normal, r) else some (.exit i, r)
      | some (.normal, r) => some (.normal, r)
      | some (.ret, r) => some (.ret, r)
      | none => none
    | .rangeFunc g ps asg body => bif m then none else match evRF P ext nt fu g ps asg body T s with
      | some (e, s') => some (e, T, s', true)
      | none => none
    | .region i ops draw => match evCode P ext nt (fu + 1) (.region i ops draw) T s with
      | some (e, T', s') => some (e, T', s', m)
      | none => none
    | .loop a => match evCode P ext nt (fu + 1) (.loop a) T s with
      | some (e, T', s') => some (e, T', s', m)
      | none => none
    | .skip => some (.normal, T, s, m)
    | .ret => some (.ret, T, s, m)
    | .exit id => some (.exit id, T, s, m)
    | _ => none
def evCallR (P : Program) (ext : FuncId → Option Ext) (fu : Nat) (f : FuncId) (args : Array Value) (s : St) : Out :=
  match P.funcs[f]? with
  | some fn => match fn.body with
    | some c => bif Nat.ble args.size fn.ntmps then match evR P ext fn.ntmps fu c (argsT 0 args.toList .nil) s false with
      | some (.exit _, _) => none
      | some (_, T, s', _) => match resultsT P T s' fn.results.toList with
        | some [v] => some (v, s')
        | some vs => some (.tuple vs.toArray, s')
        | none => none
      | none => none
      else none
    | none => none
  | none => none
end
section
variable {P : Program} {ext : FuncId → Option Ext}
/-- A block that no one has is turned. -/
theorem Step.put {ι0 ι : Ren} {h0 h : AH} {w0 W : World} (st : Step P ι0 h0 w0 ι h W) {l : Nat} (hl : w0.heap.size ≤ l) (hn : ∀ k b, ι k = some b → b.1 ≠ l) (o : Obj) : Step P ι0 h0 w0 ι h (W.putObj l o) where
  ext := st.ext
  emb := ⟨fun k c t hk => by
      obtain ⟨b, C, q1, q2, q3⟩ := st.emb.obj k c t hk
      exact ⟨b, C, q1, (World.putObj_heap_other (hn k b q1)).trans q2, q3⟩,
    fun k O hk => by
      obtain ⟨b, q1, q2⟩ := st.emb.ro k O hk
      exact ⟨b, q1, q2.on (World.putObj_heap_other (hn k b q1))⟩, st.emb.inj, fun k b hk => by
      have := st.emb.lt k b hk
      simpa [World.putObj] using this⟩
  os := st.os
  tape := st.tape
  output := st.output
  size := by have := st.size; simpa [World.putObj] using this
  frame := fun b hb hc => (World.putObj_heap_other (by omega)).trans (st.frame b hb hc)
  new := st.new
  alive := st.alive
  kind := st.kind
/-- How it stands between two rounds. -/
structure IS (P : Program) (ι0 : Ren) (h0 : AH) (w0 : World) (n0 : Nat) (cn : Nat) (cT : Tr Value) (ac : Act) (l K : Nat) (R : Loop) (ι : Ren) (s : St) (W : World) : Prop where
  st : Step P ι0 h0 w0 ι s.h.get W
  dm : Dom ι0 ι n0 s.n
  hn : n0 ≤ s.n
  tr : TR ι cn [] cT { tmps := ac.tmps, defers := [] }
  lo : W.heap[l]? = some (.loop R)
  de : W.heap[K]? = some (.deferred (some []))
  ll : w0.heap.size ≤ l
  lk : K ≠ l
  nl : ∀ k b, ι k = some b → b.1 ≠ l ∧ b.1 ≠ K
/-- Blocks that no one has stay so. -/
theorem none_has {ι ι1 : Ren} {h h1 : AH} {W W1 : World} (g : Step P ι h W ι1 h1 W1) {l : Nat} (hl : l < W.heap.size) (hn : ∀ k b, ι k = some b → b.1 ≠ l) : (∀ k b, ι1 k = some b → b.1 ≠ l) ∧ W1.heap[l]? = W.heap[l]? := by
  refine ⟨fun k b hk => ?_, g.frame l hl fun k c _ hc => hn k c hc⟩
  cases hi : ι k with
  | some c =>
    have := g.ext k c hi
    rw [hk] at this
    injection this with this
    rw [this]; exact hn k c hi
  | none =>
    rcases g.new k b hi hk with h | ⟨j, c, _, hj, e⟩
    · omega
    · rw [← e]; exact hn j c hj
section
variable {ι0 : Ren} {h0 : AH} {w0 : World} {n0 cn : Nat} {cT : Tr Value} {ac : Act} {l K : Nat} {R : Loop}
theorem IS.step {ι ι1 : Ren} {s s1 : St} {W W1 : World} (I : IS P ι0 h0 w0 n0 cn cT ac l K R ι s W) (g1 : Step P ι s.h.get W ι1 s1.h.get W1) (g2 : Dom ι ι1 s.n s1.n) (hle : s.n ≤ s1.n) : IS P ι0 h0 w0 n0 cn cT ac l K R ι1 s1 W1 := by
  have hl : l < W.heap.size := (Array.getElem?_eq_some_iff.1 I.lo).1
  have hk : K < W.heap.size := (Array.getElem?_eq_some_iff.1 I.de).1
  obtain ⟨a1, a2⟩ := none_has g1 hl fun k b h => (I.nl k b h).1
  obtain ⟨b1, b2⟩ := none_has g1 hk fun k b h => (I.nl k b h).2
  exact ⟨I.st.trans g1, I.dm.trans g2 I.hn hle, Nat.le_trans I.hn hle, I.tr.on g1.ext, a2.trans I.lo, b2.trans I.de, I.ll, I.lk, fun k b h => ⟨a1 k b h, b1 k b h⟩⟩
theorem IS.put {ι : Ren} {s : St} {W : World} (I : IS P ι0 h0 w0 n0 cn cT ac l K R ι s W) (R' : Loop) : IS P ι0 h0 w0 n0 cn cT ac l K R' ι s (W.putObj l (.loop R')) := by
  have hl : l < W.heap.size := (Array.getElem?_eq_some_iff.1 I.lo).1
  exact ⟨I.st.put I.ll (fun k b h => (I.nl k b h).1) _, I.dm, I.hn, I.tr, World.putObj_heap_same hl, (World.putObj_heap_other I.lk).trans I.de, I.ll, I.lk, I.nl⟩
end
def codeOf : Ex → Code
  | .exit i => .exit i
  | _ => .ret
/-- The loop's record between two rounds. -/
def Rp (R : Loop) : Option Ex → Loop
  | none => { R with state := .ready, pending := none }
  | some e => { R with state := .done, pending := some (codeOf e) }
theorem par_TR {ι : Ren} {nt : Nat} : ∀ (ps : List Tmp) (xs xs' : List Value) (T : Tr Value) (t : Array Value), TR ι nt [] T { tmps := t, defers := [] } → xs.length = ps.length → VRs ι xs.toArray xs'.toArray → allB (fun t => Nat.blt t nt) ps = true →
    TR ι nt [] (parT ps xs T) { tmps := (ps.zip xs').foldl (fun t p => t.setIfInBounds p.1 p.2) t, defers := [] }
  | [], xs, xs', T, t, hT, hl, hx, hp => by
    cases xs with
    | nil => exact hT
    | cons x xs => simp at hl
  | p :: ps, [], xs', T, t, hT, hl, hx, hp => by simp at hl
  | p :: ps, x :: xs, [], T, t, hT, hl, hx, hp => by have := hx.1; simp at this
  | p :: ps, x :: xs, x' :: xs', T, t, hT, hl, hx, hp => by
    have hp1 : okDst nt (some p) = true := allB_mem hp p (List.mem_cons_self ..)
    have hp2 : allB (fun t => Nat.blt t nt) ps = true := allB_of fun y hy => allB_mem hp y (List.mem_cons_of_mem _ hy)
    have h1 : VR ι x x' := hx.2 0 x x' (by simp) (by simp)
    have h2 : VRs ι xs.toArray xs'.toArray := ⟨by have := hx.1; simpa using this, fun i y y' hy hy' => hx.2 (i + 1) y y' (by simpa using hy) (by simpa using hy')⟩
    exact par_TR ps xs xs' (T.set p (some x)) (t.setIfInBounds p x') (hT.put (dst := some p) hp1 h1) (by simpa using hl) h2 hp2
section
variable {ι0 : Ren} {h0 : AH} {w0 : World} {n0 : Nat} {ac : Act} {l K : Nat} {R : Loop} {cx : Cx}
/-- ONE ROUND. -/
theorem round_sound (F : Fit P ext) {fu : Nat} {xs : List Value} {s s' : St} {e : Ex} (h : evRound P ext cx fu xs s = some (e, s')) (ho : ∀ p ∈ s'.ob, p.1 = p.2) {ι : Ren} {W : World}
    (hR : R.tmps = ac.tmps ∧ R.params = cx.ps ∧ R.assign = cx.asg ∧ R.body = cx.body) (I : IS P ι0 h0 w0 n0 cx.nt cx.T ac l K (Rp R none) ι s W) (hf : Fresh ι s.n s'.n) {xs' : Array Value} (hx : VRs ι xs.toArray xs') :
    ∃ tm, (Instr.yield l xs').run P W = .ok (.round l R.fn tm cx.asg cx.body) W ∧
      RoundIn (Fr none) 0 P l R.fn tm cx.asg cx.body W fun en W' => en = .returned (.bool (isN e)) ∧ ∃ ι', (∀ k b, ι k = some b → ι' k = some b) ∧ Dom ι ι' s.n s'.n ∧ IS P ι0 h0 w0 n0 cx.nt cx.T ac l K (Rp R (pend e)) ι' s' W' := by
  unfold evRound at h
  obtain ⟨hg, h⟩ := bif_some h
  simp only [Bool.and_eq_true] at hg
  obtain ⟨⟨⟨hl, hps⟩, hna⟩, hnb⟩ := hg
  have hl := Nat.eq_of_beq_eq_true hl
  obtain ⟨upC, _⟩ := up_all (P := P) (ext := ext) (fun f g hg => (F.hp f g hg).up) fu
  split at h
  · rename_i T1 s1 h1
    split at h
    · rename_i e' T2 s2 h2
      injection h with h; injection h with q1 q2; subst q1 q2
      have u1 := upC _ _ _ _ _ _ _ h1
      have u2 := upC _ _ _ _ _ _ _ h2
      have hy := run_yield (P := P) (args := xs') I.lo (by
        show xs'.size = R.params.size
        rw [hR.2.1]
        have a := hx.1
        have b := hl
        simp only [List.size_toArray, Array.length_toList] at a b
        omega)
      have e1 : (Rp R none).tmps = ac.tmps := hR.1
      have e2 : (Rp R none).params = cx.ps := hR.2.1
      have e3 : (Rp R none).assign = cx.asg := hR.2.2.1
      have e4 : (Rp R none).body = cx.body := hR.2.2.2
      have e5 : (Rp R none).fn = R.fn := rfl
      rw [e1, e2, e3, e4, e5] at hy
      refine ⟨_, hy, ?_⟩
      have htr := par_TR cx.ps.toList xs xs'.toList cx.T ac.tmps I.tr hl (by simpa using hx) hps
      have hfold : (cx.ps.zip xs').foldl (fun (tmps : Array Value) (x : Tmp × Value) => match x with | (t, a) => tmps.setIfInBounds t a) ac.tmps = (cx.ps.toList.zip xs'.toList).foldl (fun t p => t.setIfInBounds p.1 p.2) ac.tmps := by
        rw [← Array.foldl_toList, Array.toList_zip]
      rw [hfold]
      refine roundIn_of_wpIn (F := Fr none) trivial ?_
      refine wpIn_mono (((sound_in (r := some l) F fu).1 cx.nt cx.asg _ s .normal T1 s1 h1 hna (suffix_ob u2.ob ho) ι [] _ W htr I.st.emb (hf.mono (Nat.le_refl _) u2.n)) : Code.wpIn (Fr (some l)) 0 P _ _ _ W) ?_
      rintro ex a1 w1 ⟨rfl, ι1, g1, g2, g3⟩
      have I1 := I.step g1 g2 u1.n
      refine ⟨_, run_beginRound I1.lo rfl, ?_⟩
      have I2 := I1.put { Rp R none with state := .busy }
      refine wpIn_mono (((sound_in (r := some l) F fu).1 cx.nt cx.body T1 s1 e' T2 s2 h2 hnb ho ι1 [] a1 _ g3 I2.st.emb (hf.after g2 u1.n)) : Code.wpIn (Fr (some l)) 0 P _ _ _ _) ?_
      rintro ex a2 w2 ⟨rfl, ι2, k1, k2, k3⟩
      have I3 := I2.step k1 k2 u2.n
      have hext : ∀ k b, ι k = some b → ι2 k = some b := fun k b hk => k1.ext k b (g1.ext k b hk)
      have hdom : Dom ι ι2 s.n s2.n := g2.trans k2 u1.n u2.n
      cases e' with
      | normal => exact ⟨_, _, run_endRound none I3.lo, rfl, ι2, hext, hdom, I3.put _⟩
      | ret => exact ⟨_, _, run_endRound (some .ret) I3.lo, rfl, ι2, hext, hdom, I3.put _⟩
      | exit i => exact ⟨_, _, run_endRound (some (.exit i)) I3.lo, rfl, ι2, hext, hdom, I3.put _⟩
    · cases h
  · cases h
end
end
end Ev
end Go.Proofs.YtldlnclkdgfahaaGreat
