/- The runner against the model: what it says holds in every world. -/
import Derived.Test.YtldlnclkdgfahaaGreatEvI
namespace Go.Proofs.YtldlnclkdgfahaaGreat
open Go.RowKit
namespace Ev
section
variable {P : Program} {ext : FuncId → Option Ext}

theorem callFunc_enter {f : FuncId} {fn : Func} {c : Code} (hf : P.funcs[f]? = some fn) (hn : (fn.name == "runtime.NumGoroutine") = false) (hb : fn.body = some c) (args : Array Value) (w : World) :
    (callFunc f args).run P w = .ok (.enter f args) w := by
  have h1 : fn.name ≠ "runtime.NumGoroutine" := by simpa using hn
  simp [callFunc, hf, h1, hb]
theorem row_one {ι : Ren} {s : St} {w : World} (he : Emb P ι s.h.get w) {k o : Nat} {kk : IntKind} {v : Int} (h : rowAt s k o 1 = some [.int kk v]) : ∃ b C t, ι k = some b ∧ w.heap[b.1]? = some (.cells C t (0, 0)) ∧ w.cell? ⟨b.1, o, none⟩ = some (.int kk v) ∧ w.frozen? ⟨b.1, o, none⟩ = false := by
  obtain ⟨b, C, t, hb, hB, hl, hx⟩ := rowAt_spec he h
  obtain ⟨y, hy, hv⟩ := hx 0 _ rfl
  refine ⟨b, C, t, hb, hB, ?_, by simp only [World.frozen?, hB]; simp⟩
  rw [cell_of_row w b.1 o C t (0, 0) hB]
  simpa [hv.int_inv] using hy
theorem setCell_setRow {w : World} {b o : Nat} {C : Array Value} {t : TypeId} {x : Value} (hB : w.heap[b]? = some (.cells C t (0, 0))) (ho : o < C.size) : w.setRow b (C.toList.take o ++ [x] ++ C.toList.drop (o + 1)).toArray = w.setCell ⟨b, o, none⟩ x := by
  have e : (C.toList.take o ++ [x] ++ C.toList.drop (o + 1)).toArray = C.setIfInBounds o x := by
    apply Array.ext'
    simp only [Array.toList_setIfInBounds]
    rw [List.set_eq_take_append_cons_drop, if_pos (by simpa using ho)]
    simp
  rw [e]
  unfold World.setRow World.setCell
  congr 1
  apply Array.ext
  · simp
  · intro i h1 h2
    simp only [Array.getElem_modify]
    split
    · rename_i hi
      subst hi
      have hlt : b < w.heap.size := (Array.getElem?_eq_some_iff.1 hB).1
      have : w.heap[b] = .cells C t (0, 0) := by
        have := Array.getElem?_eq_getElem hlt
        rw [hB] at this
        exact (Option.some.inj this).symm
      simp [this]
    · rfl
theorem write_one {ι : Ren} {s s' : St} {w : World} (he : Emb P ι s.h.get w) {k o : Nat} {x : Int} {kk : IntKind} (h : writeAt s k o [.int kk x] = some s') {b : Nat × Nat} (hb : ι k = some b) :
    Step P ι s.h.get w ι s'.h.get (w.setCell ⟨b.1, o, none⟩ (.int kk x)) ∧ s'.n = s.n := by
  obtain ⟨b2, w', hb2, _, hstep, hn, ⟨C, t, hB, hfit, hw⟩, _⟩ := writeAt_sound he (c := #[.int kk x]) h rfl (fun i a b h1 h2 => by
    rcases i with _ | i
    · simp at h1 h2; subst h1 h2; exact .atom rfl
    · simp at h1)
  rw [hb] at hb2; injection hb2 with hb2; subst hb2
  have ho : o < C.size := by simp at hfit; omega
  have : w' = w.setCell ⟨b.1, o, none⟩ (.int kk x) := by
    rw [hw]
    exact setCell_setRow hB ho
  rw [← this]
  exact ⟨hstep, hn⟩
theorem mark_sound (F : Fit P ext) {f n : Nat} (hx : ext f = some (.mark n)) {ι : Ren} {w : World} {s s' : St} {args args' : Array Value} {v : Value} (ha : VRs ι args args') (he : Emb P ι s.h.get w) (h : evMark n args s = some (v, s')) :
    Res P ((callFunc f args').run P w) s ι w v s' := by
  obtain ⟨fn, hf, hb, hn, hk⟩ := F.mark f n hx
  have hname := F.go f fn hf
  unfold evMark at h
  split at h
  · rename_i hargs
    injection h with h; injection h with h1 h2; subst h1 h2
    have hA : args' = #[] := by
      have := ha.1
      rw [← Array.length_toList, hargs] at this
      exact Array.eq_empty_of_size_eq_zero this.symm
    rcases hk with ⟨_, m, hk⟩ | ⟨h, _⟩
    · exact Res.same he (v' := .tuple #[]) (by rw [hA]; exact run_call_mark0 hf hname hb hn m hk w) (VR.of_free rfl)
    · omega
  · rename_i k o hargs
    injection h with h; injection h with h1 h2; subst h1 h2
    have hsz : args'.size = 1 := by rw [← ha.1, ← Array.length_toList, hargs]; rfl
    have h0 : args[0]? = some (.pointer (some ⟨k, o, none⟩)) := by
      have : args.toList[0]? = some (.pointer (some ⟨k, o, none⟩)) := by rw [hargs]; rfl
      simpa using this
    have hv := ha.2 0 _ args'[0] h0 (Array.getElem?_eq_getElem (by omega))
    obtain ⟨b, hb2, hp⟩ := hv.ptr_inv
    have hA : args' = #[.pointer (some ⟨b.1, o, none⟩)] := by
      apply Array.ext (by simpa using hsz)
      intro i h3 h4
      have : i = 0 := by omega
      subst this
      simpa using hp
    rcases hk with ⟨h, _⟩ | ⟨_, m, hk⟩
    · omega
    · exact Res.same he (v' := .tuple #[]) (by rw [hA]; exact run_call_marked hf hname hb hn m hk _ w) (VR.of_free rfl)
  · cases h
theorem atomic_sound (F : Fit P ext) {f e : Nat} {kk : IntKind} (hx : ext f = some (.at kk e)) {ι : Ren} {w : World} {s s' : St} {args args' : Array Value} {v : Value} (ha : VRs ι args args') (he : Emb P ι s.h.get w) (ho : ∀ p ∈ s'.ob, p.1 = p.2) (h : evAtomic kk e args s = some (v, s')) :
    Res P ((callFunc f args').run P w) s ι w v s' := by
  obtain ⟨fn, hf, hb, hn, hk⟩ := F.ext f kk e hx
  have hname := F.go f fn hf
  clear hx
  have get : ∀ {i : Nat} {x : Value}, args.toList[i]? = some x → ∃ y, args'[i]? = some y ∧ VR ι x y := fun {i x} hi => by
    have hi' : args[i]? = some x := by simpa using hi
    have hlt : i < args'.size := by rw [← ha.1]; exact (Array.getElem?_eq_some_iff.1 hi').1
    exact ⟨args'[i], Array.getElem?_eq_getElem hlt, ha.2 i x _ hi' (Array.getElem?_eq_getElem hlt)⟩
  have arr : ∀ {l : List Value}, args'.size = l.length → (∀ (i : Nat) (y : Value), l[i]? = some y → args'[i]? = some y) → args' = l.toArray := fun {l} h1 h2 => by
    apply Array.ext (by simpa using h1)
    intro i h3 h4
    have := h2 i l[i] (List.getElem?_eq_getElem (by simpa using h4))
    rw [Array.getElem?_eq_getElem h3] at this
    simpa using Option.some.inj this
  unfold evAtomic at h
  split at h
  · rename_i k o r hargs
    split at h
    · rename_i ck vv hrow
      split at h
      · rename_i hck
        subst hck
        obtain ⟨b, C, t, hbk, hB, hc, hz⟩ := row_one he hrow
        obtain ⟨y0, hy0, hv0⟩ := get (i := 0) (by rw [hargs]; rfl)
        obtain ⟨b', hb', rfl⟩ := hv0.ptr_inv
        rw [hbk] at hb'; injection hb' with hb'; subst hb'
        have hsz : args'.size = r.length + 1 := by rw [← ha.1, ← Array.length_toList, hargs]; rfl
        split at h
        · injection h with h; injection h with h1 h2; subst h1 h2
          have hA : args' = #[.pointer (some ⟨b.1, o, none⟩)] := arr (l := [_]) (by simpa using hsz) fun i y hi => by
            rcases i with _ | i
            · simp at hi; subst hi; exact hy0
            · simp at hi
          rcases hk with ⟨_, hk⟩ | ⟨h, _⟩ | ⟨h, _⟩ | ⟨h, _⟩ <;> try omega
          exact Res.same he (v' := .int ck vv) (by rw [hA]; exact run_call_load hf hname hb hn _ hk hc) (.atom rfl)
        · rename_i xk x
          split at h
          · rename_i hxk
            subst hxk
            split at h
            · rename_i s1 hw
              injection h with h; injection h with h1 h2; subst h1 h2
              obtain ⟨y1, hy1, hv1⟩ := get (i := 1) (by rw [hargs]; rfl)
              have := hv1.int_inv
              subst this
              have hA : args' = #[.pointer (some ⟨b.1, o, none⟩), .int _ x] := arr (l := [_, _]) (by simpa using hsz) fun i y hi => by
                rcases i with _ | _ | i
                · simp at hi; subst hi; exact hy0
                · simp at hi; subst hi; exact hy1
                · simp at hi
              rcases hk with ⟨h, _⟩ | ⟨_, hk⟩ | ⟨h, _⟩ | ⟨h, _⟩ <;> try omega
              obtain ⟨q1, q2⟩ := write_one he hw hbk
              exact ⟨_, _, ι, .tuple #[], by rw [hA]; exact run_call_store hf hname hb hn hk hc hz, .inl rfl, q1, q2 ▸ Dom.refl, VR.of_free rfl⟩
            · cases h
          · cases h
        · rename_i xk d
          split at h
          · rename_i hxk
            subst hxk
            split at h
            · rename_i s1 hw
              injection h with h; injection h with h1 h2; subst h1 h2
              obtain ⟨y1, hy1, hv1⟩ := get (i := 1) (by rw [hargs]; rfl)
              have := hv1.int_inv
              subst this
              have hA : args' = #[.pointer (some ⟨b.1, o, none⟩), .int _ d] := arr (l := [_, _]) (by simpa using hsz) fun i y hi => by
                rcases i with _ | _ | i
                · simp at hi; subst hi; exact hy0
                · simp at hi; subst hi; exact hy1
                · simp at hi
              rcases hk with ⟨h, _⟩ | ⟨h, _⟩ | ⟨_, hk⟩ | ⟨h, _⟩ <;> try omega
              obtain ⟨q1, q2⟩ := write_one he hw hbk
              exact ⟨_, _, ι, .int _ _, by rw [hA]; exact run_call_add hf hname hb hn _ hk hc hz (by simp [Op.intArith]), .inl rfl, q1, q2 ▸ Dom.refl, .atom rfl⟩
            · cases h
          · cases h
        · rename_i xk x yk y
          split at h
          · rename_i hxy
            obtain ⟨hxk, hyk⟩ := hxy
            subst hxk
            subst hyk
            obtain ⟨y1, hy1, hv1⟩ := get (i := 1) (by rw [hargs]; rfl)
            have := hv1.int_inv
            subst this
            obtain ⟨y2, hy2, hv2⟩ := get (i := 2) (by rw [hargs]; rfl)
            have := hv2.int_inv
            subst this
            have hA : args' = #[.pointer (some ⟨b.1, o, none⟩), .int _ x, .int _ y] := arr (l := [_, _, _]) (by simpa using hsz) fun i z hi => by
              rcases i with _ | _ | _ | i
              · simp at hi; subst hi; exact hy0
              · simp at hi; subst hi; exact hy1
              · simp at hi; subst hi; exact hy2
              · simp at hi
            rcases hk with ⟨h, _⟩ | ⟨h, _⟩ | ⟨h, _⟩ | ⟨_, hk⟩ <;> try omega
            split at h
            · rename_i s1 hs
              split at h
              · rename_i s2 hw
                injection h with h; injection h with h1 h2; subst h1 h2
                obtain ⟨e1, e2, e3⟩ := tst_eq hs (suffix_ob (up_writeAt hw).ob ho)
                have hvx : vv = x := by simpa using e1.symm
                subst hvx
                obtain ⟨q1, q2⟩ := write_one (e2 ▸ he) hw hbk
                exact ⟨_, _, ι, .bool true, by rw [hA]; exact run_call_cas_hit hf hname hb hn _ hk hc hz, .inl rfl, e2 ▸ q1, (q2.trans e3) ▸ Dom.refl, .atom rfl⟩
              · cases h
            · rename_i s1 hs
              injection h with h; injection h with h1 h2; subst h1 h2
              obtain ⟨e1, e2, e3⟩ := tst_eq hs ho
              have hvx : vv ≠ x := by simpa using e1.symm
              exact Res.heap (s := s1) (Res.same (e2 ▸ he) (v' := .bool false) (by rw [hA]; exact run_call_cas_miss hf hname hb hn _ hk hc hz hvx) (.atom rfl)) e2.symm e3.symm
          · cases h
        · cases h
      · cases h
    · cases h
  · cases h
/-- An atomic operation that is told comes to the one that is not. -/
theorem atomicT_eq {kk : IntKind} {e : Nat} {args : Array Value} {z : Int} {c' : List Value} {s s' : St} {v : Value} (hob : ∀ p ∈ s'.ob, p.1 = p.2) (h : evAtomicT kk e args z c' s = some (v, s')) (hw : s.orc.w = s.orc.w) :
    ∃ s0 s1, evAtomic kk e args s0 = some (v, s1) ∧ s0.h = s.h ∧ s0.n = s.n ∧ s'.h = s1.h ∧ s'.n = s1.n ∧ ∀ p ∈ s1.ob, p.1 = p.2 := by
  unfold evAtomicT at h
  split at h
  · rename_i k o r hargs
    split at h
    · rename_i c t hk
      split at h
      · injection h with h
        injection h with h1 h2
        subst h1 h2
        have q := dP_iff.1 (hob (_, true) List.mem_cons_self)
        refine ⟨s, s, ?_, rfl, rfl, rfl, rfl, fun p hp => hob p (List.mem_cons_of_mem _ hp)⟩
        unfold evAtomic
        rw [hargs]
        simp only [rowAt, hk, q, if_true]
      · rename_i xk x
        split at h
        · rename_i hxk
          subst hxk
          injection h with h
          injection h with h1 h2
          subst h1 h2
          obtain ⟨q, q1, q2⟩ := dP_iff.1 (hob (_, true) List.mem_cons_self)
          refine ⟨s, s.putK k c' t, ?_, rfl, rfl, rfl, rfl, fun p hp => hob p (List.mem_cons_of_mem _ hp)⟩
          unfold evAtomic
          rw [hargs]
          simp only [rowAt, hk, q, if_true, writeAt, List.length_cons, List.length_nil, Nat.zero_add, Nat.ble_eq_true_of_le q1, allB, cell1, Bool.and_self, cond_true, q2]
        · cases h
      · rename_i xk d
        split at h
        · rename_i hxk
          subst hxk
          injection h with h
          injection h with h1 h2
          subst h1 h2
          obtain ⟨q, q1, q2⟩ := dP_iff.1 (hob (_, true) List.mem_cons_self)
          refine ⟨s, s.putK k c' t, ?_, rfl, rfl, rfl, rfl, fun p hp => hob p (List.mem_cons_of_mem _ hp)⟩
          unfold evAtomic
          rw [hargs]
          simp only [rowAt, hk, q, if_true, writeAt, List.length_cons, List.length_nil, Nat.zero_add, Nat.ble_eq_true_of_le q1, allB, cell1, Bool.and_self, cond_true, q2]
        · cases h
      · rename_i xk x yk y
        split at h
        · rename_i hxy
          obtain ⟨hxk, hyk⟩ := hxy
          subst hxk
          subst hyk
          generalize hs0 : s.told (dP (takeN 1 (c.drop o) = some [.int _ z])) = s0 at h
          have e0 : s0.h = s.h := by rw [← hs0]; rfl
          have en : s0.n = s.n := by rw [← hs0]; rfl
          have em : (dP (takeN 1 (c.drop o) = some [.int yk z]), true) ∈ s0.ob := by rw [← hs0]; exact List.mem_cons_self
          split at h
          · rename_i s1 hs
            injection h with h
            injection h with h1 h2
            subst h1 h2
            have ho1 : ∀ p ∈ s1.ob, p.1 = p.2 := fun p hp => hob p (List.mem_cons_of_mem _ hp)
            obtain ⟨q1, q2⟩ := dP_iff.1 (hob (_, true) List.mem_cons_self)
            obtain ⟨e1, e2, e3⟩ := tst_eq hs ho1
            have q := dP_iff.1 (ho1 (_, true) ((up_tst hs).ob.subset em))
            refine ⟨s0, s1.putK k c' t, ?_, e0, en, rfl, rfl, ho1⟩
            unfold evAtomic
            rw [hargs]
            have hk1 : s1.h.get k = some (.cells c t) := by rw [e2, e0]; exact hk
            simp only [rowAt, e0, hk, q, and_self, if_true, hs, writeAt, hk1, List.length_cons, List.length_nil, Nat.zero_add, Nat.ble_eq_true_of_le q1, allB, cell1, Bool.and_self, cond_true, q2]
          · rename_i s1 hs
            injection h with h
            injection h with h1 h2
            subst h1 h2
            have q := dP_iff.1 (hob (_, true) ((up_tst hs).ob.subset em))
            refine ⟨s0, s1, ?_, e0, en, rfl, rfl, hob⟩
            unfold evAtomic
            rw [hargs]
            simp only [rowAt, e0, hk, q, and_self, if_true, hs]
        · cases h
      · cases h
    · cases h
  · cases h
end
end Ev
end Go.Proofs.YtldlnclkdgfahaaGreat
