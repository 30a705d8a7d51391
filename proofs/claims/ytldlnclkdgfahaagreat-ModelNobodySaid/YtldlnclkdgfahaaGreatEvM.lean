/- A region that draws its order: what the run in the text's order tells. -/
import Derived.Test.YtldlnclkdgfahaaGreatEvL
namespace Go.Proofs.YtldlnclkdgfahaaGreat
open Go.RowKit
namespace Ev
section
variable {P : Program} {ext : FuncId → Option Ext}

/-- What is known of operation i. -/
structure EntOk (P : Program) (ext : FuncId → Option Ext) (nt fu : Nat) (ops : Array Oper) (before : List Ent) (T T' : Tr Value) (s s' : St) (e : Ent) : Prop where
  eT : e.T = T
  eT' : T' = putT T e.o.dst e.v
  es' : s' = e.s'
  dst : okDst nt e.o.dst = true
  good : allB goodOp e.o.op.operands.toList = true
  edges : okEdges before.length e.o.after.toList = true
  em : e.m = orMasks before e.o.after.toList
  pairs : okPairs ops e.o e.r e.m 0 before = true
  run : ∃ b, wantedT ops T e.o s = some (b, e.s) ∧ (b = true → ∃ fu', fu' < fu ∧ evOne P ext fu' (opnd (pickT T (tmpsOf e.o.op.operands.toList))) e.o e.s = some (e.v, e.s', e.r)) ∧ (b = false → e.v = undef ∧ e.s' = e.s ∧ e.r = rec0 e.s)
theorem EntOk.fuel {nt fu fu1 : Nat} {ops : Array Oper} {before : List Ent} {T T' : Tr Value} {s s' : St} {e : Ent} (h : EntOk P ext nt fu ops before T T' s s' e) (hf : fu ≤ fu1) : EntOk P ext nt fu1 ops before T T' s s' e :=
  ⟨h.eT, h.eT', h.es', h.dst, h.good, h.edges, h.em, h.pairs, by
    obtain ⟨b, h1, h2, h3⟩ := h.run
    exact ⟨b, h1, fun hb => (by obtain ⟨fu', h4, h5⟩ := h2 hb; exact ⟨fu', Nat.lt_of_lt_of_le h4 hf, h5⟩), h3⟩⟩
theorem draw_facts (nt : Nat) (ops : Array Oper) : ∀ (fu : Nat) (l : List Oper) (done : List Ent) (T : Tr Value) (s : St) (es : List Ent) (T' : Tr Value) (s' : St), evDraw P ext nt fu ops done l T s = some (es, T', s') →
    ∃ (es2 : List Ent) (σ : Nat → St) (τ : Nat → Tr Value), es = done ++ es2 ∧ es2.map (·.o) = l ∧ σ 0 = s ∧ τ 0 = T ∧ σ l.length = s' ∧ τ l.length = T' ∧
      ∀ (i : Nat) (e : Ent), es2[i]? = some e → EntOk P ext nt fu ops (done ++ es2.take i) (τ i) (τ (i + 1)) (σ i) (σ (i + 1)) e
  | 0, _, _, _, _, _, _, _, h => by simp [evDraw, St.keep_eq] at h
  | fu + 1, [], done, T, s, es, T', s', h => by
    simp only [evDraw, St.keep_eq] at h
    injection h with h
    simp only [Prod.mk.injEq] at h
    obtain ⟨rfl, rfl, rfl⟩ := h
    exact ⟨[], fun _ => s, fun _ => T, by simp, rfl, rfl, rfl, rfl, rfl, fun i e hi => by simp at hi⟩
  | fu + 1, o :: l, done, T, s, es, T', s', h => by
    simp only [evDraw, St.keep_eq] at h
    obtain ⟨hg, h⟩ := bif_some h
    simp only [Bool.and_eq_true] at hg
    have go : ∀ (e1 : Ent), EntOk P ext nt (fu + 1) ops done T (putT T e1.o.dst e1.v) s e1.s' e1 → e1.o = o → evDraw P ext nt fu ops (done ++ [e1]) l (putT T e1.o.dst e1.v) e1.s' = some (es, T', s') →
        ∃ (es2 : List Ent) (σ : Nat → St) (τ : Nat → Tr Value), es = done ++ es2 ∧ es2.map (·.o) = o :: l ∧ σ 0 = s ∧ τ 0 = T ∧ σ (o :: l).length = s' ∧ τ (o :: l).length = T' ∧
          ∀ (i : Nat) (e : Ent), es2[i]? = some e → EntOk P ext nt (fu + 1) ops (done ++ es2.take i) (τ i) (τ (i + 1)) (σ i) (σ (i + 1)) e := fun e1 hok ho hrec => by
      obtain ⟨es2, σ, τ, h1, h2, h3, h4, h5, h6, h7⟩ := draw_facts nt ops fu l _ _ _ es T' s' hrec
      refine ⟨e1 :: es2, fun i => match i with | 0 => s | i + 1 => σ i, fun i => match i with | 0 => T | i + 1 => τ i, by rw [h1]; simp, by simp [h2, ho], rfl, rfl, by simpa using h5, by simpa using h6, fun i e hi => ?_⟩
      cases i with
      | zero =>
        simp at hi
        subst hi
        simp only [List.take_zero, List.append_nil, h3, h4]
        exact hok
      | succ i =>
        have := (h7 i e (by simpa using hi)).fuel (Nat.le_succ fu)
        simpa using this
    split at h
    · rename_i s1 hw
      split at h
      · rename_i v s2 r hv
        obtain ⟨hp, h⟩ := bif_some h
        exact go ⟨o, orMasks done o.after.toList, r, T, s1, v, s2⟩ ⟨rfl, rfl, rfl, hg.1.1, hg.1.2, hg.2, rfl, hp, true, hw, fun _ => ⟨fu, Nat.lt_succ_self _, hv⟩, (fun e => by cases e)⟩ rfl h
      · cases h
    · rename_i s1 hw
      obtain ⟨hp, h⟩ := bif_some h
      exact go ⟨o, orMasks done o.after.toList, rec0 s1, T, s1, undef, s1⟩ ⟨rfl, rfl, rfl, hg.1.1, hg.1.2, hg.2, rfl, hp, false, hw, (fun e => by cases e), fun _ => ⟨rfl, rfl, rfl⟩⟩ rfl h
    · cases h

/-! ### Which operations stand ahead -/
theorem okEdges_spec {i : Nat} : ∀ {l : List Edge}, okEdges i l = true → ∀ e ∈ l, Region.binds .any e = true → e.on < i
  | [], _, e, he => by cases he
  | d :: l, h, e, he => by
    simp only [okEdges, Bool.and_eq_true, Bool.or_eq_true, Bool.not_eq_true'] at h
    rcases List.mem_cons.1 he with rfl | he
    · intro hb
      rcases h.1 with h1 | h1
      · rw [hb] at h1; cases h1
      · exact Nat.le_of_ble_eq_true h1
    · exact okEdges_spec h.2 e he
theorem orMasks_bit {before : List Ent} {j : Nat} : ∀ {l : List Edge}, (orMasks before l).testBit j = true → ∃ e ∈ l, Region.binds .any e = true ∧ (e.on = j ∨ ∃ d, before[e.on]? = some d ∧ d.m.testBit j = true)
  | [], h => by simp [orMasks] at h
  | d :: l, h => by
    simp only [orMasks] at h
    cases hb : Region.binds .any d with
    | false =>
      rw [hb] at h
      obtain ⟨e, h1, h2⟩ := orMasks_bit (l := l) (by simpa using h)
      exact ⟨e, List.mem_cons_of_mem _ h1, h2⟩
    | true =>
      rw [hb] at h
      simp only [cond_true, Nat.testBit_or, Bool.or_eq_true] at h
      rcases h with (h | h) | h
      · rw [Nat.testBit_two_pow] at h
        exact ⟨d, by simp, hb, .inl (by simpa using h)⟩
      · refine ⟨d, by simp, hb, .inr ?_⟩
        split at h
        · exact ⟨_, by assumption, h⟩
        · simp at h
      · obtain ⟨e, h1, h2⟩ := orMasks_bit (l := l) h
        exact ⟨e, List.mem_cons_of_mem _ h1, h2⟩
theorem okPairs_spec {ops : Array Oper} {o : Oper} {r : Rec} {m : Nat} : ∀ {l : List Ent} {j : Nat}, okPairs ops o r m j l = true → ∀ (i : Nat) (d : Ent), l[i]? = some d → m.testBit (j + i) = true ∨ (Oper.apart ops d.o o = true ∧ compat d.r r = true)
  | [], j, _, i, d, hd => by simp at hd
  | x :: l, j, h, i, d, hd => by
    simp only [okPairs, Bool.and_eq_true, Bool.or_eq_true] at h
    cases i with
    | zero =>
      simp at hd
      subst hd
      rcases h.1 with h1 | h1
      · exact .inl (by simpa using h1)
      · exact .inr h1
    | succ i =>
      have := okPairs_spec h.2 i d (by simpa using hd)
      rwa [show j + 1 + i = j + (i + 1) by omega] at this
/-- A closed set: with an operation all that it waits for. -/
def ClosedL (es : List Ent) (L : Nat → Bool) : Prop := ∀ (i : Nat) (e : Ent), es[i]? = some e → L i = true → ∀ d ∈ e.o.after.toList, Region.binds .any d = true → L d.on = true
theorem mask_listed {es : List Ent} {L : Nat → Bool} (hc : ClosedL es L) (hm : ∀ (i : Nat) (e : Ent), es[i]? = some e → e.m = orMasks (es.take i) e.o.after.toList) {j : Nat} :
    ∀ (i : Nat) (e : Ent), es[i]? = some e → (∀ d ∈ e.o.after.toList, Region.binds .any d = true → L d.on = true) → e.m.testBit j = true → L j = true := by
  intro i
  induction i using Nat.strongRecOn with
  | _ i ih =>
    intro e he hr hb
    rw [hm i e he] at hb
    obtain ⟨d, hd, hbd, h1 | ⟨x, hx, hxb⟩⟩ := orMasks_bit hb
    · rw [← h1]; exact hr d hd hbd
    · have hlt : d.on < i := by
        have := (List.getElem?_eq_some_iff.1 hx).1
        rw [List.length_take] at this
        omega
      rw [List.getElem?_take_of_lt hlt] at hx
      exact ih d.on hlt x hx (hc d.on x hx (hr d hd hbd)) hxb
end
end Ev
end Go.Proofs.YtldlnclkdgfahaaGreat
