/- Each operation of the runner against the model's own: the operations. -/
import Derived.Test.YtldlnclkdgfahaaGreatEvB
namespace Go.Proofs.YtldlnclkdgfahaaGreat
open Go.RowKit
namespace Ev
section
variable {P : Program} {ι : Ren} {w : World} {ρ ρ' : Operand → Value} {s s' : St} {v : Value}

theorem bif_some {α : Type} {b : Bool} {x : Option α} {y : α} (h : (bif b then x else none) = some y) : b = true ∧ x = some y := by
  cases b with
  | false => simp at h
  | true => exact ⟨rfl, by simpa using h⟩
theorem VR.ptr_inv {k o : Nat} {v' : Value} (h : VR ι (.pointer (some ⟨k, o, none⟩)) v') : ∃ b, ι k = some b ∧ v' = .pointer (some ⟨b.1, o, none⟩) := by
  cases h with
  | atom h => simp [Ev.atom] at h
  | ptr h => exact ⟨_, h, rfl⟩
theorem VR.bool_inv {b : Bool} {v' : Value} (h : VR ι (.bool b) v') : v' = .bool b := h.eq_of_atom rfl
theorem VR.int_inv {k : IntKind} {n : Int} {v' : Value} (h : VR ι (.int k n) v') : v' = .int k n := h.eq_of_atom rfl
theorem VR.agg_inv {a : Array Value} {v' : Value} (h : VR ι (.agg a) v') : ∃ a' : Array Value, v' = .agg a' ∧ a.size = a'.size ∧ ∀ (i : Nat) x y, a[i]? = some x → a'[i]? = some y → VR ι x y := by
  cases h with
  | atom h => simp [Ev.atom] at h
  | agg hs h => exact ⟨_, rfl, hs, h⟩
theorem VR.tuple_inv {a : Array Value} {v' : Value} (h : VR ι (.tuple a) v') : ∃ a' : Array Value, v' = .tuple a' ∧ a.size = a'.size ∧ ∀ (i : Nat) x y, a[i]? = some x → a'[i]? = some y → VR ι x y := by
  cases h with
  | atom h => simp [Ev.atom] at h
  | tuple hs h => exact ⟨_, rfl, hs, h⟩
theorem natOf_inv {x x' : Value} {n : Nat} (h : natOf x = some n) (hv : VR ι x x') : ∃ k, x' = .int k (n : Int) := by
  unfold natOf at h
  split at h
  · injection h with h; subst h; exact ⟨_, hv.int_inv⟩
  · cases h

theorem alloc_sound {o : Oper} {t : TypeId} (ho : o.op = .alloc t) (he : Emb P ι s.h.get w) {z : List Value} (hz : zeroT P t = some z) (hf : Fresh ι s.n (s.n + 1)) :
    Res P ((execOp ρ' o).run P w) s ι w (at0 s.n) (s.add z t) := by
  obtain ⟨i, u, hi, hu, rfl, ha⟩ := zeroT_spec hz
  obtain ⟨h1, h2⟩ := add_step he hf t (C := u.cells) (by have := CR.of_atoms (ι := ι) ha; simpa using this) 0 (by simp)
  refine ⟨.value (.pointer (some ⟨w.heap.size, 0, none⟩)), _, _, _, ?_, .inl rfl, h1, h2, .ptr (b := (w.heap.size, 0)) upd_same⟩
  simp [execOp, ho, Instr.alloc, zeroValue, typeInfo, hi, hu, newVar, newRow, newObj, Sem.run, Result.andThen]
theorem box_sound {o : Oper} {t : TypeId} {x : Operand} (ho : o.op = .box t x) (hρ : VR ι (ρ x) (ρ' x)) (he : Emb P ι s.h.get w) (hf : Fresh ι s.n (s.n + 1)) :
    Res P ((execOp ρ' o).run P w) s ι w (at0 s.n) (s.add (ρ x).cells.toList t) := by
  obtain ⟨h1, h2⟩ := add_step he hf t hρ.cells.2 0 (by simp)
  refine ⟨.value (.pointer (some ⟨w.heap.size, 0, none⟩)), _, _, _, ?_, .inl rfl, h1, h2, .ptr (b := (w.heap.size, 0)) upd_same⟩
  simp [execOp, ho, Instr.box, newVar, newRow, newObj, Sem.run, Result.andThen]
theorem store_sound {o : Oper} {t : TypeId} {a x : Operand} (ho : o.op = .store t a x) (hρ : ∀ x, VR ι (ρ x) (ρ' x)) (he : Emb P ι s.h.get w) (h : evStore P ρ t a x s = some (v, s')) :
    Res P ((execOp ρ' o).run P w) s ι w v s' := by
  unfold evStore at h
  split at h
  · rename_i k o' i ha hi
    obtain ⟨hsz, h⟩ := bif_some h
    split at h
    · rename_i s1 hs
      injection h with h
      injection h with h1 h2
      subst h1 h2
      obtain ⟨b', hb, ha'⟩ := (ha ▸ hρ a).ptr_inv
      obtain ⟨hc1, hc2⟩ := (hρ x).cells
      obtain ⟨b, w', hb2, hrun, hstep, hn, _, _⟩ := writeAt_sound he (c := (ρ' x).cells) hs (by simpa using hc1) hc2.2
      rw [hb] at hb2; injection hb2 with hb2; subst hb2
      refine ⟨.skip, w', ι, undef, ?_, .inr ⟨rfl, rfl⟩, hstep, hn ▸ Dom.refl, VR.of_free rfl⟩
      have hsz' : (ρ' x).cells.size = i.size := by rw [← hc1]; exact Nat.eq_of_beq_eq_true hsz
      simp [execOp, ho, Instr.storeAt, ha', Instr.sureAddr, storeVar, sizeOf, typeInfo, hi, hsz', hrun, Result.andThen, Sem.run]
    · cases h
  · cases h
theorem load_sound {o : Oper} {t : TypeId} {a : Operand} {k o' : Nat} (ho : o.op = .load t a) (ha : ρ a = .pointer (some ⟨k, o', none⟩)) (hρ : VR ι (ρ a) (ρ' a)) (he : Emb P ι s.h.get w) (h : readAt P s t k o' = some v) :
    Res P ((execOp ρ' o).run P w) s ι w v s := by
  obtain ⟨b', hb, ha'⟩ := (ha ▸ hρ).ptr_inv
  obtain ⟨b, v', hb2, hrun, hv⟩ := loadVar_sound he h
  rw [hb] at hb2; injection hb2 with hb2; subst hb2
  refine Res.same he (v' := v') ?_ hv
  simp [execOp, ho, Instr.loadAt, ha', Instr.sureAddr, hrun, Result.andThen, Sem.run]
theorem fieldAddr_sound {o : Oper} {t : TypeId} {x : Operand} {f : Nat} (ho : o.op = .fieldAddr t x f) (hρ : ∀ x, VR ι (ρ x) (ρ' x)) (he : Emb P ι s.h.get w) (h : evFieldAddr P ρ t x f s = some (v, s')) :
    s' = s ∧ Res P ((execOp ρ' o).run P w) s ι w v s' := by
  unfold evFieldAddr at h
  split at h
  · rename_i fs k o' hu hx
    split at h
    · rename_i fd hfd
      split at h
      · rename_i i hi
        cases hz : Nat.beq i.size 0 with
        | true => rw [hz] at h; simp at h
        | false =>
          rw [hz] at h
          simp only [cond_false, Option.some.injEq, Prod.mk.injEq] at h
          obtain ⟨rfl, rfl⟩ := h
          obtain ⟨b, hb, hx'⟩ := (hx ▸ hρ x).ptr_inv
          have hz' : ¬ i.size = 0 := fun e => by rw [e] at hz; simp at hz
          refine ⟨rfl, Res.same he (v' := .pointer (some ⟨b.1, o' + fd.offset, none⟩)) ?_ (.ptr hb)⟩
          have hadd : (⟨b.1, o', none⟩ : Addr).add fd.offset = ⟨b.1, o' + fd.offset, none⟩ := by
            unfold Addr.add; split
            · rename_i h0; rw [h0]; rfl
            · rfl
          simp [execOp, ho, Instr.fieldAt, run_underlying hu, hfd, hx', Instr.sureAddr, fieldPlace, sizeOf, typeInfo, hi, hz', Result.andThen, Sem.run, hadd]
      · cases h
    · cases h
  · cases h
theorem partOf_sound {t : TypeId} {cs cs' : Array Value} {o : Nat} (hs : cs.size = cs'.size) (hc : ∀ (i : Nat) x y, cs[i]? = some x → cs'[i]? = some y → VR ι x y) (h : partOf P t cs o = some v) : ∃ v', (part t cs' o).run P w = .ok v' w ∧ VR ι v v' := by
  unfold partOf at h
  split at h
  · rename_i m hsh
    injection h with h
    subst h
    obtain ⟨hA, i, hi, him⟩ := run_isAgg (w := w) hsh
    subst him
    refine ⟨.agg (cs'.extract o (o + i.size)), by simp [part, hA, Result.andThen, sizeOf, typeInfo, hi, Sem.run], .agg (by simp [hs]) fun j x y hx hy => ?_⟩
    rw [Array.getElem?_extract] at hx hy
    split at hx
    · split at hy
      · exact hc _ x y hx hy
      · cases hy
    · cases hx
  · rename_i m hsh
    obtain ⟨hA, _⟩ := run_isAgg (w := w) hsh
    have hlt : o < cs'.size := by rw [← hs]; exact (Array.getElem?_eq_some_iff.1 h).1
    refine ⟨cs'[o], by simp [part, hA, Result.andThen, Sem.run, Array.getElem?_eq_getElem hlt], hc o v _ h (Array.getElem?_eq_getElem hlt)⟩
  · cases h
theorem field_sound {o : Oper} {t : TypeId} {x : Operand} {f : Nat} (ho : o.op = .field t x f) (hρ : ∀ x, VR ι (ρ x) (ρ' x)) (he : Emb P ι s.h.get w) (h : evField P ρ t x f s = some (v, s')) :
    s' = s ∧ Res P ((execOp ρ' o).run P w) s ι w v s' := by
  unfold evField at h
  split at h
  · rename_i fs cs hu hx
    split at h
    · rename_i fd hfd
      split at h
      · rename_i u hp
        injection h with h
        injection h with h1 h2
        subst h1 h2
        obtain ⟨cs', hx', hs, hc⟩ := (hx ▸ hρ x).agg_inv
        obtain ⟨v', hrun, hv⟩ := partOf_sound (w := w) hs hc hp
        refine ⟨rfl, Res.same he (v' := v') ?_ hv⟩
        simp [execOp, ho, Instr.field, run_underlying hu, hfd, hx', asAgg, hrun, Result.andThen, Sem.run]
      · cases h
    · cases h
  · cases h
theorem index_sound {o : Oper} {t : TypeId} {x ix : Operand} (ho : o.op = .index t x ix) (hρ : ∀ x, VR ι (ρ x) (ρ' x)) (he : Emb P ι s.h.get w) (h : evIndex P ρ t x ix s = some (v, s')) :
    s' = s ∧ Res P ((execOp ρ' o).run P w) s ι w v s' := by
  unfold evIndex at h
  split at h
  · rename_i len e cs i hu hx hi
    split at h
    · rename_i ie hie
      obtain ⟨hlt, h⟩ := bif_some h
      split at h
      · rename_i u hp
        injection h with h
        injection h with h1 h2
        subst h1 h2
        obtain ⟨cs', hx', hs, hc⟩ := (hx ▸ hρ x).agg_inv
        obtain ⟨kk, hix⟩ := natOf_inv hi (hρ ix)
        obtain ⟨v', hrun, hv⟩ := partOf_sound (w := w) hs hc hp
        have hlt' : i < len := by simpa [Nat.blt_eq] using hlt
        refine ⟨rfl, Res.same he (v' := v') ?_ hv⟩
        simp [execOp, ho, Instr.index, run_underlying hu, hx', hix, asIntOf, hlt', sizeOf, typeInfo, hie, hrun, Result.andThen, Sem.run]
      · cases h
    · cases h
  · cases h
theorem indexAddr_sound {o : Oper} {t : TypeId} {x ix : Operand} (ho : o.op = .indexAddr t x ix) (hρ : ∀ x, VR ι (ρ x) (ρ' x)) (he : Emb P ι s.h.get w) (h : evIndexAddr P ρ t x ix s = some (v, s')) :
    s' = s ∧ Res P ((execOp ρ' o).run P w) s ι w v s' := by
  have hadd : ∀ (b o' n : Nat), (⟨b, o', none⟩ : Addr).add n = ⟨b, o' + n, none⟩ := fun b o' n => by
    unfold Addr.add; split
    · rename_i h0; rw [h0]; rfl
    · rfl
  unfold evIndexAddr at h
  split at h
  · rename_i e k o' n c i hu hx hi
    split at h
    · rename_i ie hie
      obtain ⟨hlt, h⟩ := bif_some h
      injection h with h
      injection h with h1 h2
      subst h1 h2
      obtain ⟨kk, hix⟩ := natOf_inv hi (hρ ix)
      have hlt' : i < n := by simpa [Nat.blt_eq] using hlt
      have hv := hx ▸ hρ x
      generalize hx' : ρ' x = x' at hv
      cases hv with
      | atom h => simp [Ev.atom] at h
      | slice hb hn hc hq =>
        rename_i b c'
        refine ⟨rfl, Res.same he (v' := .pointer (some ⟨b.1, o' + i * ie.size, none⟩)) ?_ (.ptr hb)⟩
        simp [execOp, ho, Instr.indexAt, run_underlying hu, hx', hix, asIntOf, hlt', sizeOf, typeInfo, hie, Result.andThen, Sem.run, hadd]
      | slice0 => omega
    · cases h
  · rename_i n e k o' i hu hx hi
    split at h
    · rename_i ie hie
      obtain ⟨hlt, h⟩ := bif_some h
      injection h with h
      injection h with h1 h2
      subst h1 h2
      obtain ⟨kk, hix⟩ := natOf_inv hi (hρ ix)
      have hlt' : i < n := by simpa [Nat.blt_eq] using hlt
      obtain ⟨b, hb, hx'⟩ := (hx ▸ hρ x).ptr_inv
      refine ⟨rfl, Res.same he (v' := .pointer (some ⟨b.1, o' + i * ie.size, none⟩)) ?_ (.ptr hb)⟩
      simp [execOp, ho, Instr.indexAt, run_underlying hu, hx', hix, asIntOf, Instr.sureAddr, hlt', sizeOf, typeInfo, hie, Result.andThen, Sem.run, hadd]
    · cases h
  · cases h
theorem nextX_eq {s s1 : St} {a : Option Nat} (h : s.nextX = (a, s1)) : s1.h = s.h ∧ s1.n = s.n ∧ s1.ob = s.ob ∧ s1.wr = s.wr := by
  unfold St.nextX at h
  split at h <;> (injection h with h1 h2; subst h1 h2; exact ⟨rfl, rfl, rfl, rfl⟩)
theorem nextL_eq {s s1 : St} {a : Option (List Cell)} (h : s.nextL = (a, s1)) : s1.h = s.h ∧ s1.n = s.n ∧ s1.ob = s.ob ∧ s1.wr = s.wr := by
  unfold St.nextL at h
  split at h <;> (injection h with h1 h2; subst h1 h2; exact ⟨rfl, rfl, rfl, rfl⟩)
theorem natTold_spec {v : Value} {n : Nat} (h : natTold v n = true) : natOf v = some n := by
  unfold natTold at h
  split at h
  · rename_i k b
    have := beq_iff_eq.1 h
    subst this
    rfl
  · cases h
theorem indexAddrT_sound {o : Oper} {t : TypeId} {x ix : Operand} {i : Nat} (ho : o.op = .indexAddr t x ix) (hρ : ∀ x, VR ι (ρ x) (ρ' x)) (he : Emb P ι s.h.get w) (hob : ∀ p ∈ s'.ob, p.1 = p.2) (h : evIndexAddrT P ρ t x ix i s = some (v, s')) :
    Res P ((execOp ρ' o).run P w) s ι w v s' := by
  unfold evIndexAddrT at h
  split at h
  · rename_i e k o' n c hu hx
    split at h
    · rename_i ie hie
      injection h with h
      injection h with h1 h2
      subst h1 h2
      have q1 : Nat.blt i n = true := hob (Nat.blt i n, true) (by simp [St.told])
      have q2 : natTold (ρ ix) i = true := hob (natTold (ρ ix) i, true) (by simp [St.told])
      have hi := natTold_spec q2
      exact (indexAddr_sound (s := s) (s' := s) (v := .pointer (some ⟨k, o' + i * ie.size, none⟩)) ho hρ he (by unfold evIndexAddr; rw [hu, hx, hi]; simp [hie, q1])).2
    · cases h
  · rename_i n e k o' hu hx
    split at h
    · rename_i ie hie
      injection h with h
      injection h with h1 h2
      subst h1 h2
      have q1 : Nat.blt i n = true := hob (Nat.blt i n, true) (by simp [St.told])
      have q2 : natTold (ρ ix) i = true := hob (natTold (ρ ix) i, true) (by simp [St.told])
      have hi := natTold_spec q2
      exact (indexAddr_sound (s := s) (s' := s) (v := .pointer (some ⟨k, o' + i * ie.size, none⟩)) ho hρ he (by unfold evIndexAddr; rw [hu, hx, hi]; simp [hie, q1])).2
    · cases h
  · cases h
theorem dP_iff {p : Prop} : dP p = true ↔ p := by unfold dP; exact @decide_eq_true_iff p (Classical.propDecidable p)
theorem dP_of {p : Prop} (h : p) : dP p = true := dP_iff.2 h
/-- Cells as they are told. -/
def CellsAs (c : List Value) (l : List Cell) : Prop := c.length = l.length ∧ ∀ (i : Nat) x b, c[i]? = some x → l[i]? = some b → (x = cellV b ∧ b ≠ .any) ∨ (b = .any ∧ x.oneCell' = true)
theorem CellsAs.cons {x : Value} {b : Cell} {c : List Value} {l : List Cell} (h : (x = cellV b ∧ b ≠ .any) ∨ (b = .any ∧ x.oneCell' = true)) (t : CellsAs c l) : CellsAs (x :: c) (b :: l) := by
  refine ⟨by simp [t.1], fun i y d hy hd => ?_⟩
  cases i with
  | zero => simp at hy hd; subst hy hd; exact h
  | succ i => exact t.2 i y d (by simpa using hy) (by simpa using hd)
theorem sameC_spec : ∀ {c : List Value} {l : List Cell}, sameC c l = true → CellsAs c l
  | [], [], _ => ⟨rfl, fun i x b hx => by simp at hx⟩
  | [], _ :: _, h => by simp [sameC] at h
  | v :: r, [], h => by cases v <;> simp [sameC] at h
  | v :: r, b :: l, h => by
    unfold sameC at h
    split at h
    · cases ‹_ :: _ = []›
    · rename_i a r' b' l' h1 h2
      injection h1 with h1 h3
      injection h2 with h2 h4
      subst h1 h2 h3 h4
      simp only [Bool.and_eq_true, beq_iff_eq] at h
      obtain ⟨rfl, h⟩ := h
      exact (sameC_spec h).cons (.inl ⟨rfl, by simp⟩)
    · rename_i a r' b' l' h1 h2
      injection h1 with h1 h3
      injection h2 with h2 h4
      subst h1 h2 h3 h4
      simp only [Bool.and_eq_true, beq_iff_eq] at h
      obtain ⟨rfl, h⟩ := h
      exact (sameC_spec h).cons (.inl ⟨rfl, by simp⟩)
    · rename_i k a r' k' b' l' h1 h2
      injection h1 with h1 h3
      injection h2 with h2 h4
      subst h1 h2 h3 h4
      simp only [Bool.and_eq_true, beq_iff_eq, decide_eq_true_eq] at h
      obtain ⟨⟨rfl, rfl⟩, h⟩ := h
      exact (sameC_spec h).cons (.inl ⟨rfl, by simp⟩)
    · rename_i a r' b' l' h1 h2
      injection h1 with h1 h3
      injection h2 with h2 h4
      subst h1 h2 h3 h4
      simp only [Bool.and_eq_true, dP_iff] at h
      obtain ⟨rfl, h⟩ := h
      exact (sameC_spec h).cons (.inl ⟨rfl, by simp⟩)
    · rename_i v' r' l' h1 h2
      injection h1 with h1 h3
      injection h2 with h2 h4
      subst h1 h2 h3 h4
      simp only [Bool.and_eq_true, dP_iff] at h
      exact (sameC_spec h.2).cons (.inr ⟨rfl, h.1⟩)
    · cases h
theorem sameR_spec {r : Option (List Value)} {l : List Cell} (h : sameR r l = true) : ∃ c, r = some c ∧ CellsAs c l := by
  unfold sameR at h
  split at h
  · exact ⟨_, rfl, sameC_spec h⟩
  · cases h
theorem VR.one {v v' : Value} (h : VR ι v v') (h1 : v.oneCell' = true) : v'.oneCell' = true := by
  cases h with
  | atom h => exact h1
  | glob h => exact h
  | ptr h => rfl
  | map h => rfl
  | slice h => rfl
  | slice0 => rfl
  | func hs => rfl
  | agg hs h => cases h1
  | tuple hs h => first | rfl | cases h1
/-- A told cell stands for what is there. -/
theorem told_VR {x y : Value} {b : Cell} (h : (x = cellV b ∧ b ≠ .any) ∨ (b = .any ∧ x.oneCell' = true)) (hv : VR ι x y) : VR ι (cellV b) y := by
  rcases h with ⟨rfl, _⟩ | ⟨rfl, h⟩
  · exact hv
  · exact .glob (hv.one h)
theorem told_self {x : Value} {b : Cell} (h : (x = cellV b ∧ b ≠ .any) ∨ (b = .any ∧ x.oneCell' = true)) : VR ι (cellV b) x := by
  rcases h with ⟨rfl, h⟩ | ⟨rfl, h⟩
  · cases b with
    | any => exact absurd rfl h
    | _ => exact .atom rfl
  · exact .glob h
theorem told_agg {c : List Value} {l : List Cell} (h : CellsAs c l) {y : Value} (hv : VR ι (.agg c.toArray) y) : VR ι (.agg (cellsV l).toArray) y := by
  cases hv with
  | atom h => simp [Ev.atom] at h
  | agg hs hp =>
    refine .agg (by rw [← hs]; simp [cellsV, h.1]) fun i x z hx hz => ?_
    have hi : i < c.length := by
      have := (Array.getElem?_eq_some_iff.1 hz).1
      have e : c.length = _ := hs
      omega
    have hx' : (cellsV l)[i]? = some x := by simpa using hx
    unfold cellsV at hx'
    rw [List.getElem?_map] at hx'
    cases hb : l[i]? with
    | none => rw [hb] at hx'; cases hx'
    | some b =>
      rw [hb] at hx'
      injection hx' with hx'
      subst hx'
      exact told_VR (h.2 i c[i] b (List.getElem?_eq_getElem hi) hb) (hp i c[i] z (by simp [hi]) hz)
theorem Res.weak {r : Result Next} {u : Value} (h : Res P r s ι w v s') (hu : ∀ ι v', VR ι v v' → VR ι u v') : Res P r s ι w u s' := by
  obtain ⟨nx, w', ι', v', a, b, c, d, e⟩ := h
  exact ⟨nx, w', ι', v', a, b, c, d, hu ι' v' e⟩
theorem rowT_cells {k o m : Nat} {c : List Value} {t : TypeId} (h : s.h.get k = some (.cells c t)) : rowT s k o m = rowAt s k o m := by
  unfold rowT rowAt
  rw [h]
theorem ro_cells {b o m : Nat} {C : Array Value} {t : TypeId} {fr : Nat × Nat} {l : List Value} (hB : w.heap[b]? = some (.cells C t fr)) (h : takeN m (C.toList.drop o) = some l) : l.length = m ∧ ∀ (j : Nat) u, l[j]? = some u → w.cell? ((⟨b, o, none⟩ : Addr).add j) = some u := by
  obtain ⟨rfl, hl⟩ := takeN_spec h
  refine ⟨by simp at hl ⊢; omega, fun j u hu => ?_⟩
  have hc : w.cell? ((⟨b, o, none⟩ : Addr).add j) = C[o + j]? := by
    unfold Addr.add
    split
    · rename_i h; subst h; exact cell_of_row w b o C t fr hB
    · exact cell_of_row w b (o + j) C t fr hB
  have hj : j < m := by
    have := (List.getElem?_eq_some_iff.1 hu).1
    simp at this; omega
  rw [List.getElem?_take_of_lt hj, List.getElem?_drop] at hu
  rw [hc]
  simpa using hu
theorem ro_load {t : TypeId} {q : Bool} {m k o : Nat} {O : Obj} {c : List Value} (he : Emb P ι s.h.get w) (hk : s.h.get k = some (.ro O)) (hs : shapeT P t = some (q, m)) (hr : roRow O o (if q then m else 1) = some c) :
    ∃ b, ι k = some b ∧ (loadVar t ⟨b.1, o, none⟩).run P w = .ok (if q then .agg c.toArray else c.headD undef) w := by
  obtain ⟨b, hb, hB⟩ := he.ro0 hk
  refine ⟨b, hb, ?_⟩
  unfold roRow at hr
  split at hr
  · rename_i C tt fr
    obtain ⟨hl, hcs⟩ := ro_cells (w := w) hB hr
    obtain ⟨hA, i, hi, him⟩ := run_isAgg (w := w) hs
    cases q with
    | true =>
      simp only [if_true] at hl ⊢
      have := run_loadCells_list (P := P) w ⟨b.1, o, none⟩ c hcs
      rw [hl] at this
      subst him
      simp [loadVar, hA, Result.andThen, sizeOf, typeInfo, hi, this]
    | false =>
      simp only [Bool.false_eq_true, if_false] at hl ⊢
      have h0 : c[0]? = some (c.headD undef) := by
        cases c with
        | nil => cases hl
        | cons x r => rfl
      have := hcs 0 _ h0
      simp only [Addr.add, if_true] at this
      simp [loadVar, hA, Result.andThen, load, Sem.run, this]
  · cases hr
theorem VRs_told {c : List Value} {l : List Cell} (h : CellsAs c l) : VR ι (.agg (cellsV l).toArray) (.agg c.toArray) := .agg (by simp [cellsV, h.1]) fun i x y hx hy => by
  have hx' : (cellsV l)[i]? = some x := by simpa using hx
  have hy' : c[i]? = some y := by simpa using hy
  unfold cellsV at hx'
  rw [List.getElem?_map] at hx'
  cases hb : l[i]? with
  | none => rw [hb] at hx'; cases hx'
  | some b =>
    rw [hb] at hx'
    injection hx' with hx'
    subst hx'
    exact told_self (h.2 i y b hy' hb)
theorem as_one {c : List Value} {x : Cell} (h : CellsAs c [x]) : ∃ y, c = [y] ∧ ((y = cellV x ∧ x ≠ .any) ∨ (x = .any ∧ y.oneCell' = true)) := by
  obtain ⟨h1, h2⟩ := h
  rcases c with _ | ⟨y, _ | ⟨z, c⟩⟩
  · cases h1
  · exact ⟨y, rfl, h2 0 y x rfl rfl⟩
  · simp at h1
theorem loadT_sound {o : Oper} {t : TypeId} {a : Operand} {l : List Cell} (ho : o.op = .load t a) (hρ : VR ι (ρ a) (ρ' a)) (he : Emb P ι s.h.get w) (hob : ∀ p ∈ s'.ob, p.1 = p.2) (h : evLoadT P ρ t a l s = some (v, s')) :
    Res P ((execOp ρ' o).run P w) s ι w v s' := by
  unfold evLoadT at h
  split at h
  · rename_i k o' ha
    have key : ∀ {q : Bool} {m : Nat} {c : List Value}, shapeT P t = some (q, m) → rowT s k o' (if q then m else 1) = some c → CellsAs c l → (q = false → ∃ x, l = [x]) → Res P ((execOp ρ' o).run P w) s ι w (if q then .agg (cellsV l).toArray else (cellsV l).headD undef) s := fun {q m c} hm hq hc hx => by
      cases hk : s.h.get k with
      | none => unfold rowT at hq; rw [hk] at hq; cases hq
      | some ob =>
        cases ob with
        | cells c0 tc =>
          rw [rowT_cells hk] at hq
          cases q with
          | true => exact (load_sound (s := s) (v := .agg c.toArray) ho ha hρ he (by unfold readAt; rw [hm]; simp only [if_true] at hq ⊢; rw [hq])).weak fun ι v' hv => told_agg hc hv
          | false =>
            obtain ⟨x, rfl⟩ := hx rfl
            obtain ⟨y, rfl, hy⟩ := as_one hc
            exact (load_sound (s := s) (v := y) ho ha hρ he (by unfold readAt; rw [hm]; simp only [Bool.false_eq_true, if_false] at hq ⊢; rw [hq])).weak fun ι v' hv => told_VR hy hv
        | ro O m1 =>
          obtain rfl : m1 = false := by
            cases m1 with
            | false => rfl
            | true => unfold rowT at hq; rw [hk] at hq; cases hq
          have hr : roRow O o' (if q then m else 1) = some c := by unfold rowT at hq; rw [hk] at hq; exact hq
          obtain ⟨b, hb, hrun⟩ := ro_load he hk hm hr
          obtain ⟨b', hb', ha'⟩ := (ha ▸ hρ).ptr_inv
          rw [hb] at hb'; injection hb' with hb'; subst hb'
          refine Res.same he (v' := if q then .agg c.toArray else c.headD undef) ?_ ?_
          · simp [execOp, ho, Instr.loadAt, ha', Instr.sureAddr, hrun, Result.andThen, Sem.run]
          · cases q with
            | true => exact VRs_told hc
            | false =>
              obtain ⟨x, rfl⟩ := hx rfl
              obtain ⟨y, rfl, hy⟩ := as_one hc
              exact told_self hy
    split at h
    · rename_i m hm
      injection h with h
      injection h with h1 h2
      subst h1 h2
      obtain ⟨c, q, hc⟩ := sameR_spec (hob (sameR (rowT s k o' m) l, true) (by simp [St.told]))
      exact key (q := true) hm (by simpa using q) hc (fun h => by cases h)
    · rename_i m hm
      split at h
      · rename_i x
        injection h with h
        injection h with h1 h2
        subst h1 h2
        obtain ⟨c, q, hc⟩ := sameR_spec (hob (sameR (rowT s k o' 1) [x], true) (by simp [St.told]))
        exact key (q := false) hm (by simpa using q) hc (fun _ => ⟨x, rfl⟩)
      · cases h
    · cases h
  · cases h
end
end Ev
end Go.Proofs.YtldlnclkdgfahaaGreat
