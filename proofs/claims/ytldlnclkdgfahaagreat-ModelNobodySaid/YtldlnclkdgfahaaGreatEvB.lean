/- Each operation of the runner against the model's own. -/
import Derived.Test.YtldlnclkdgfahaaGreatEvA
import Derived.Deep.AppendSrc
import Derived.Laws.MakeOwn
import Derived.Laws.LoneSync
namespace Go.Proofs.YtldlnclkdgfahaaGreat
open Go.RowKit
namespace Ev
section
variable {P : Program}

theorem prun_run {α : Type} : ∀ {s : Sem α} {a : α} (w : World), prun P s = some a → s.run P w = .ok a w
  | .pure a, b, w, h => by simp [prun] at h; subst h; rfl
  | .program k, b, w, h => by simp only [prun] at h; simp only [Sem.run]; exact prun_run w h
  | .mark m k, b, w, h => by simp only [prun] at h; simp only [Sem.run]; exact prun_run w h
  | .load _ _ _, _, _, h | .store _ _ _ _, _, _, h | .new _ _, _, _, h | .shape _ _, _, _, h | .freeze _ _ _, _, _, h | .frozen _ _, _, _, h | .getObj _ _, _, _, h | .setObj _ _ _, _, _, h | .choose _ _, _, _, h | .sys _ _, _, _, h | .halt _, _, _, h => by simp [prun] at h

/-- What an operation comes to. -/
def Res (P : Program) (r : Result Next) (s : St) (ι : Ren) (w : World) (v : Value) (s' : St) : Prop :=
  ∃ nx w' ι' v', r = .ok nx w' ∧ (nx = .value v' ∨ (nx = .skip ∧ v' = undef)) ∧ Step P ι s.h.get w ι' s'.h.get w' ∧ Dom ι ι' s.n s'.n ∧ VR ι' v v'
variable {ι : Ren} {w : World} {ρ ρ' : Operand → Value} {s s' : St} {v : Value}
theorem Res.same {r : Result Next} {v' : Value} (he : Emb P ι s.h.get w) (hr : r = .ok (.value v') w) (hv : VR ι v v') : Res P r s ι w v s :=
  ⟨_, w, ι, v', hr, .inl rfl, Step.refl he, Dom.refl, hv⟩
theorem Res.heap {r : Result Next} (h : Res P r s ι w v s') {s1 : St} (h1 : s1.h = s.h) (h2 : s1.n = s.n) : Res P r s1 ι w v s' := by
  obtain ⟨nx, w', ι', v', a, b, c, d, e⟩ := h
  exact ⟨nx, w', ι', v', a, b, h1 ▸ c, h2 ▸ d, e⟩
theorem tst_eq {s s1 : St} {t b : Bool} (h : s.tst t = (b, s1)) (ho : ∀ p ∈ s1.ob, p.1 = p.2) : b = t ∧ s1.h = s.h ∧ s1.n = s.n := by
  unfold St.tst at h
  split at h
  · injection h with h1 h2; subst h1 h2; exact ⟨rfl, rfl, rfl⟩
  · injection h with h1 h2; subst h1 h2; exact ⟨rfl, rfl, rfl⟩
  · injection h with h1 h2; subst h1 h2; exact ⟨(ho (t, _) (by simp)).symm, rfl, rfl⟩

theorem vst_eq {s s1 : St} {x y : Int} (h : s.vst x = (y, s1)) (ho : ∀ p ∈ s1.ob, p.1 = p.2) : y = x ∧ s1.h = s.h ∧ s1.n = s.n := by
  unfold St.vst at h
  split at h
  · injection h with h1 h2; subst h1 h2; exact ⟨rfl, rfl, rfl⟩
  · injection h with h1 h2; subst h1 h2; exact ⟨rfl, rfl, rfl⟩
  · injection h with h1 h2; subst h1 h2; exact ⟨(beq_iff_eq.1 (ho (x == _, true) (by simp))).symm, rfl, rfl⟩

theorem free_all {o : Oper} (hρ : ∀ x, VR ι (ρ x) (ρ' x)) (h : allB (fun x => free (ρ x)) o.op.operands.toList = true) : ∀ x ∈ o.op.operands, ρ x = ρ' x := fun x hx =>
  ((hρ x).eq_of_free (allB_mem h x (by simpa using hx))).symm
theorem general_sound {o : Oper} (hs : ∀ cs b, o.op ≠ .select cs b) (hρ : ∀ x, VR ι (ρ x) (ρ' x)) (he : Emb P ι s.h.get w) (h : general P ρ o s = some (v, s')) : s' = s ∧ Res P ((execOp ρ' o).run P w) s ι w v s' := by
  unfold general at h
  cases ha : allB (fun x => free (ρ x)) o.op.operands.toList with
  | false => rw [ha] at h; simp at h
  | true =>
    rw [ha] at h
    simp only [cond_true] at h
    split at h
    · rename_i u hu
      cases hf : free u with
      | false => rw [hf] at h; simp at h
      | true =>
        rw [hf] at h
        simp only [cond_true, Option.some.injEq, Prod.mk.injEq] at h
        obtain ⟨rfl, rfl⟩ := h
        refine ⟨rfl, Res.same he ?_ (VR.of_free hf)⟩
        rw [← execOp_congr o hs (free_all hρ ha)]
        exact prun_run w hu
    · cases h

/-! ### Cells -/
theorem VR.cells {v v' : Value} (h : VR ι v v') : v.cells.size = v'.cells.size ∧ CR ι v.cells.toList v'.cells := by
  have one : ∀ {v v' : Value}, VR ι v v' → v.cells = #[v] → v'.cells = #[v'] → v.cells.size = v'.cells.size ∧ CR ι v.cells.toList v'.cells := fun h h1 h2 => by
    rw [h1, h2]
    refine ⟨rfl, by simp, fun i x y hx hy => ?_⟩
    rcases i with _ | i
    · simp at hx hy; subst hx hy; exact h
    · simp at hx
  cases h with
  | atom ha =>
    cases v <;> first | exact one (.atom ha) rfl rfl | (simp [Ev.atom] at ha)
  | agg hs h =>
    refine ⟨hs, by simp [Value.cells, hs], fun i x y hx hy => h i x y (by simpa [Value.cells] using hx) (by simpa [Value.cells] using hy)⟩
  | glob h => rename_i g; exact one (.glob h) rfl (by cases v' <;> first | rfl | (simp [Value.oneCell'] at h))
  | ptr h => exact one (.ptr h) rfl rfl
  | map h => exact one (.map h) rfl rfl
  | slice h a b c => exact one (.slice h a b c) rfl rfl
  | slice0 h => exact one (.slice0 h) rfl rfl
  | func a b c d => exact one (.func a b c d) rfl rfl
  | tuple a b => exact one (.tuple a b) rfl rfl
theorem cell1_VR {v v' : Value} (h : VR ι v v') (hc : cell1 v = true) : v'.oneCell' = true := by
  cases h with
  | atom h => cases v <;> first | rfl | (simp [cell1] at hc)
  | glob h => exact h
  | agg _ _ => simp [cell1] at hc
  | tuple _ _ => simp [cell1] at hc
  | _ => rfl
theorem CR.of_atoms {l : List Value} (h : allB atom l = true) : CR ι l l.toArray := ⟨by simp, fun i x y hx hy => by
  simp at hy
  rw [hx] at hy
  injection hy with hy
  subst hy
  exact .atom (allB_mem h x (List.mem_of_getElem? hx))⟩
theorem takeN_spec {α : Type} : ∀ {n : Nat} {l r : List α}, takeN n l = some r → r = l.take n ∧ n ≤ l.length
  | 0, l, r, h => by simp [takeN] at h; subst h; simp
  | n + 1, [], r, h => by simp [takeN] at h
  | n + 1, x :: l, r, h => by
    simp only [takeN] at h
    split at h
    · rename_i r' hr
      injection h with h
      subst h
      obtain ⟨rfl, hl⟩ := takeN_spec hr
      exact ⟨rfl, by simpa using hl⟩
    · cases h
/-- m cells from o on, in the world. -/
theorem rowAt_spec (he : Emb P ι s.h.get w) {k o m : Nat} {l : List Value} (h : rowAt s k o m = some l) :
    ∃ b C t, ι k = some b ∧ w.heap[b.1]? = some (.cells C t (0, 0)) ∧ l.length = m ∧ ∀ (j : Nat) x, l[j]? = some x → ∃ y, C[o + j]? = some y ∧ VR ι x y := by
  unfold rowAt at h
  split at h
  · rename_i c t hk
    obtain ⟨b, C, hb, hB, hC, _⟩ := he.obj k c t hk
    obtain ⟨rfl, hl⟩ := takeN_spec h
    have h0 := hC.1
    simp only [List.length_drop] at hl
    refine ⟨b, C, t, hb, hB, by simp; omega, fun j x hx => ?_⟩
    have hj : j < m := by
      have := (List.getElem?_eq_some_iff.1 hx).1
      simp at this; omega
    rw [List.getElem?_take_of_lt hj, List.getElem?_drop] at hx
    have hlt : o + j < C.size := by
      have := (List.getElem?_eq_some_iff.1 hx).1
      omega
    exact ⟨C[o + j], Array.getElem?_eq_getElem hlt, hC.2 (o + j) x _ hx (Array.getElem?_eq_getElem hlt)⟩
  · cases h
theorem cell_at {b o j : Nat} {C : Array Value} {t : TypeId} (hB : w.heap[b]? = some (.cells C t (0, 0))) : w.cell? ((⟨b, o, none⟩ : Addr).add j) = C[o + j]? := by
  unfold Addr.add
  split
  · rename_i h; subst h; exact cell_of_row w b o C t (0, 0) hB
  · exact cell_of_row w b (o + j) C t (0, 0) hB
theorem row_load (he : Emb P ι s.h.get w) {k o m : Nat} {l : List Value} (h : rowAt s k o m = some l) :
    ∃ (b : Nat × Nat) (cs : List Value), ι k = some b ∧ cs.length = m ∧ l.length = m ∧ (∀ j u, cs[j]? = some u → w.cell? ((⟨b.1, o, none⟩ : Addr).add j) = some u) ∧ ∀ (j : Nat) x y, l[j]? = some x → cs[j]? = some y → VR ι x y := by
  obtain ⟨b, C, t, hb, hB, hl, hx⟩ := rowAt_spec he h
  have hc : ∀ j, j < m → o + j < C.size := fun j hj => by
    obtain ⟨y, hy, _⟩ := hx j l[j] (List.getElem?_eq_getElem (by omega))
    exact (Array.getElem?_eq_some_iff.1 hy).1
  refine ⟨b, (List.range m).map fun j => C.getD (o + j) undef, hb, by simp, hl, fun j u hu => ?_, fun j x y h1 h2 => ?_⟩
  · have hj : j < m := by have := (List.getElem?_eq_some_iff.1 hu).1; simpa using this
    rw [cell_at hB]
    simp only [List.getElem?_map, List.getElem?_range hj, Option.map_some, Option.some.injEq] at hu
    rw [← hu, Array.getElem?_eq_getElem (hc j hj)]
    simp [Array.getD, hc j hj]
  · have hj : j < m := by have := (List.getElem?_eq_some_iff.1 h1).1; omega
    obtain ⟨y', hy, hv⟩ := hx j x h1
    simp only [List.getElem?_map, List.getElem?_range hj, Option.map_some, Option.some.injEq] at h2
    rw [Array.getElem?_eq_getElem (hc j hj)] at hy
    injection hy with hy
    subst h2
    rw [show C.getD (o + j) undef = y' by simp [Array.getD, hc j hj]; exact hy]
    exact hv
theorem run_isAgg {t : TypeId} {q : Bool} {m : Nat} (h : shapeT P t = some (q, m)) : (isAgg t).run P w = .ok q w ∧ ∃ i, P.info? t = some i ∧ i.size = m := by
  unfold shapeT at h
  cases hu : P.underlying t with
  | none => rw [hu] at h; simp at h
  | some d =>
    cases hi : P.info? t with
    | none => rw [hu, hi] at h; cases d <;> simp at h
    | some i =>
      rw [hu, hi] at h
      have : (isAgg t).run P w = .ok (match d with | .struct _ | .array _ _ => true | _ => false) w := by
        simp only [isAgg, Sem.run_bind, run_underlying hu, Result.andThen]
        cases d <;> rfl
      rw [this]
      cases d <;> simp at h <;> (obtain ⟨rfl, rfl⟩ := h; exact ⟨rfl, i, rfl, rfl⟩)
theorem loadVar_sound (he : Emb P ι s.h.get w) {t k o : Nat} (h : readAt P s t k o = some v) : ∃ b v', ι k = some b ∧ (loadVar t ⟨b.1, o, none⟩).run P w = .ok v' w ∧ VR ι v v' := by
  unfold readAt at h
  split at h
  · rename_i m hs
    split at h
    · rename_i l hl
      injection h with h
      subst h
      obtain ⟨hA, i, hi, him⟩ := run_isAgg (w := w) hs
      obtain ⟨b, cs, hb, hcl, hll, hcs, hv⟩ := row_load he hl
      refine ⟨b, .agg cs.toArray, hb, ?_, .agg (by simp; omega) fun j x y hx hy => hv j x y (by simpa using hx) (by simpa using hy)⟩
      have := run_loadCells_list (P := P) w ⟨b.1, o, none⟩ cs hcs
      rw [hcl] at this
      subst him
      simp [loadVar, hA, Result.andThen, sizeOf, typeInfo, hi, this]
    · cases h
  · rename_i m hs
    split at h
    · rename_i u hl
      injection h with h
      subst h
      obtain ⟨hA, _⟩ := run_isAgg (w := w) hs
      obtain ⟨b, cs, hb, hcl, hll, hcs, hv⟩ := row_load he hl
      have h0 : cs[0]? = some cs[0] := List.getElem?_eq_getElem (by omega)
      refine ⟨b, cs[0], hb, ?_, hv 0 _ _ rfl h0⟩
      have := hcs 0 _ h0
      simp only [Addr.add, if_true] at this
      simp [loadVar, hA, Result.andThen, load, Sem.run, this]
    · cases h
  · cases h

/-! ### Writes -/
theorem setRow_at {g : Nat} {C C' : Array Value} {t : TypeId} (hB : w.heap[g]? = some (.cells C t (0, 0))) : (w.setRow g C').heap[g]? = some (.cells C' t (0, 0)) ∧ (∀ i, i ≠ g → (w.setRow g C').heap[i]? = w.heap[i]?) ∧ (w.setRow g C').heap.size = w.heap.size := by
  refine ⟨?_, fun i hi => ?_, by simp [World.setRow]⟩
  · simp only [World.setRow, Array.getElem?_modify, if_true, hB, Option.map_some]
  · simp only [World.setRow, Array.getElem?_modify]
    rw [if_neg (fun e => hi e.symm)]
theorem writeAt_sound (he : Emb P ι s.h.get w) {k o : Nat} {l : List Value} {c : Array Value} (h : writeAt s k o l = some s') (hl : l.length = c.size) (hc : ∀ (i : Nat) x y, l[i]? = some x → c[i]? = some y → VR ι x y) :
    ∃ b w', ι k = some b ∧ (storeCells ⟨b.1, o, none⟩ c.toList).run P w = .ok () w' ∧ Step P ι s.h.get w ι s'.h.get w' ∧ s'.n = s.n ∧ (∃ C t, w.heap[b.1]? = some (.cells C t (0, 0)) ∧ o + c.size ≤ C.size ∧ w' = w.setRow b.1 (C.toList.take o ++ c.toList ++ C.toList.drop (o + c.size)).toArray) ∧ (∀ u ∈ c.toList, u.oneCell' = true) := by
  unfold writeAt at h
  split at h
  · rename_i a t hk
    cases hg : (Nat.ble (o + l.length) a.length && allB cell1 l) with
    | false => rw [hg] at h; simp at h
    | true =>
      rw [hg] at h
      simp only [cond_true, Option.some.injEq] at h
      subst h
      simp only [Bool.and_eq_true] at hg
      have hle : o + l.length ≤ a.length := Nat.le_of_ble_eq_true hg.1
      obtain ⟨b, C, hb, hB, hC, hQ⟩ := he.obj k a t hk
      have h1 : ∀ u ∈ c.toList, u.oneCell' = true := fun u hu => by
        obtain ⟨j, hj⟩ := List.mem_iff_getElem?.1 hu
        have hjl : j < l.length := by have := (List.getElem?_eq_some_iff.1 hj).1; simp at this; omega
        exact cell1_VR (hc j l[j] u (List.getElem?_eq_getElem hjl) (by simpa using hj)) (allB_mem hg.2 _ (List.getElem_mem hjl))
      have hfit : o + 0 + c.toList.length ≤ C.size := by have := hC.1; simp; omega
      have hrun := run_storeCells_at P b.1 o t c.toList 0 C w hB hfit h1
      obtain ⟨q1, q2, q3⟩ := setRow_at (C' := (C.toList.take o ++ c.toList ++ C.toList.drop (o + c.size)).toArray) hB
      simp only [Nat.add_zero, Array.length_toList] at hrun hfit
      refine ⟨b, _, hb, hrun, ?_, rfl, ⟨C, t, hB, by omega, rfl⟩, h1⟩
      show Step P ι s.h.get w ι (s.h.set k (some (.cells (putN a o l) t))).get _
      rw [Tr.get_set]
      have hsz : (C.toList.take o ++ c.toList ++ C.toList.drop (o + c.size)).length = C.size := by
        simp [List.length_take, List.length_drop]; omega
      refine Step.store he hk hb (C := C) ?_ (by simpa using hsz) hB q1 q2 q3 rfl rfl rfl
      have h0 := hC.1
      unfold putN
      refine ⟨by simp [List.length_take, List.length_drop]; omega, fun i x y hx hy => ?_⟩
      simp only [List.getElem?_toArray] at hy
      have e1 : (a.take o).length = o := by rw [List.length_take]; omega
      have e2 : (C.toList.take o).length = o := by rw [List.length_take]; simp; omega
      by_cases hi : i < o
      · rw [List.append_assoc, List.getElem?_append_left (by rw [e1]; exact hi), List.getElem?_take_of_lt hi] at hx
        rw [List.append_assoc, List.getElem?_append_left (by rw [e2]; exact hi), List.getElem?_take_of_lt hi] at hy
        exact hC.2 i x y hx (by simpa using hy)
      · by_cases hi2 : i < o + l.length
        · rw [List.append_assoc, List.getElem?_append_right (by rw [e1]; omega), e1, List.getElem?_append_left (by omega)] at hx
          rw [List.append_assoc, List.getElem?_append_right (by rw [e2]; omega), e2, List.getElem?_append_left (by simp; omega)] at hy
          exact hc (i - o) x y hx (by simpa using hy)
        · rw [List.getElem?_append_right (by rw [List.length_append, e1]; omega), List.length_append, e1, List.getElem?_drop] at hx
          rw [List.getElem?_append_right (by rw [List.length_append, e2]; simp; omega), List.length_append, e2, List.getElem?_drop] at hy
          have ei : o + l.length + (i - (o + l.length)) = i := by omega
          have ei2 : o + c.size + (i - (o + c.toList.length)) = i := by simp; omega
          rw [ei] at hx
          rw [ei2] at hy
          exact hC.2 i x y hx (by simpa using hy)
  · cases h

/-! ### The operations -/
theorem add_step (he : Emb P ι s.h.get w) (hf : Fresh ι s.n (s.n + 1)) {c : List Value} {C : Array Value} (t : TypeId) (hc : CR ι c C) (q : Nat) (hq : ∀ i, P.info? t = some i → q * i.size ≤ C.size) :
    Step P ι s.h.get w (upd ι s.n (some (w.heap.size, q))) (s.add c t).h.get (w.alloc (.cells C t)) ∧ Dom ι (upd ι s.n (some (w.heap.size, q))) s.n (s.add c t).n := by
  have := Step.alloc he (hf.2 s.n (Nat.le_refl _) (Nat.lt_succ_self _)) t hc q hq
  refine ⟨?_, Dom.one⟩
  show Step P ι s.h.get w _ (s.h.set s.n (some (.cells c t))).get _
  rw [Tr.get_set]
  exact this
theorem zeroT_spec {t : TypeId} {z : List Value} (h : zeroT P t = some z) : ∃ i u, P.info? t = some i ∧ i.zero = some u ∧ z = u.cells.toList ∧ allB atom z = true := by
  unfold zeroT at h
  split at h
  · rename_i i hi
    split at h
    · rename_i u hu
      cases ha : allB atom u.cells.toList with
      | false => rw [ha] at h; simp at h
      | true => rw [ha] at h; simp at h; subst h; exact ⟨i, u, hi, hu, rfl, ha⟩
    · cases h
  · cases h
end
end Ev
end Go.Proofs.YtldlnclkdgfahaaGreat
