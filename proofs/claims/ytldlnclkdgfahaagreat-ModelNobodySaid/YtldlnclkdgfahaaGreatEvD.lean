/- Each operation of the runner against the model's own: the other operations. -/
import Derived.Test.YtldlnclkdgfahaaGreatEvC
import Derived.Great.BuildSlice
namespace Go.Proofs.YtldlnclkdgfahaaGreat
open Go.RowKit
namespace Ev
section
variable {P : Program} {ι : Ren} {w : World} {ρ ρ' : Operand → Value} {s s' : St} {v : Value}

/-! ### Rows that are filled -/
def PW (ι : Ren) (a a' : Array Value) : Prop := a.size = a'.size ∧ ∀ (i : Nat) x y, a[i]? = some x → a'[i]? = some y → VR ι x y
theorem PW.set {a a' : Array Value} (h : PW ι a a') (k : Nat) {x x' : Value} (hx : VR ι x x') : PW ι (a.setIfInBounds k x) (a'.setIfInBounds k x') := by
  refine ⟨by simp [h.1], fun i u u' hu hu' => ?_⟩
  by_cases hk : k = i
  · subst hk
    rw [Array.getElem?_setIfInBounds_self] at hu hu'
    split at hu
    · split at hu'
      · injection hu with hu; injection hu' with hu'; subst hu hu'; exact hx
      · cases hu'
    · cases hu
  · rw [Array.getElem?_setIfInBounds_ne hk] at hu hu'
    exact h.2 i u u' hu hu'
theorem fold_fill (off : Nat) : ∀ (l l' : List Value) (n : Nat) (a a' : Array Value), l.length = l'.length → (∀ (i : Nat) x y, l[i]? = some x → l'[i]? = some y → VR ι x y) → PW ι a a' →
    PW ι ((l.zipIdx n).foldl (fun cs (c, j) => cs.setIfInBounds (off + j) c) a) ((l'.zipIdx n).foldl (fun cs (c, j) => cs.setIfInBounds (off + j) c) a')
  | [], l', n, a, a', hl, _, h => by
    have : l' = [] := List.eq_nil_of_length_eq_zero hl.symm
    subst this
    exact h
  | x :: l, [], n, a, a', hl, _, h => by simp at hl
  | x :: l, y :: l', n, a, a', hl, hv, h => by
    simp only [List.zipIdx_cons, List.foldl_cons]
    exact fold_fill off l l' (n + 1) _ _ (by simpa using hl) (fun i u u' hu hu' => hv (i + 1) u u' (by simpa using hu) (by simpa using hu')) (h.set _ (hv 0 x y rfl rfl))
theorem fill_sound (place : Nat → Option (Nat × Nat)) (hρ : ∀ x, VR ι (ρ x) (ρ' x)) : ∀ (ps : List (Nat × Operand)) (a a' r : Array Value), PW ι a a' → Instr.fill place a (ps.map fun p => (p.1, ρ p.2)) = some r →
    ∃ r', Instr.fill place a' (ps.map fun p => (p.1, ρ' p.2)) = some r' ∧ PW ι r r'
  | [], a, a', r, h, hf => by
    simp only [List.map_nil, Instr.fill, Option.some.injEq] at hf ⊢
    subst hf
    exact ⟨a', rfl, h⟩
  | p :: ps, a, a', r, h, hf => by
    simp only [List.map_cons, Instr.fill] at hf ⊢
    obtain ⟨hc1, hc2⟩ := (hρ p.2).cells
    cases hp : place p.1 with
    | none => rw [hp] at hf; cases hf
    | some q =>
      obtain ⟨off, size⟩ := q
      rw [hp] at hf
      simp only [] at hf ⊢
      rw [← hc1, ← h.1]
      split at hf
      · cases hf
      · rename_i hg
        rw [if_neg hg]
        refine fill_sound place hρ ps _ _ r ?_ hf
        have := fold_fill (ι := ι) off (ρ p.2).cells.toList (ρ' p.2).cells.toList 0 a a' (by simpa using hc1) (fun i x y hx hy => hc2.2 i x y hx (by simpa using hy)) h
        rw [← Array.foldl_toList, ← Array.foldl_toList]
        simpa using this
theorem PW.of_atoms {a : Array Value} (h : allB atom a.toList = true) : PW ι a a := ⟨rfl, fun i x y hx hy => by rw [hx] at hy; injection hy with hy; subst hy; exact .atom (allB_get h i x hx)⟩
theorem built_sound (hρ : ∀ x, VR ι (ρ x) (ρ' x)) {t : TypeId} {ps : List (Nat × Operand)} {z : List Value} {r : Array Value} (hz : zeroT P t = some z) (h : P.built t (ps.map fun p => (p.1, ρ p.2)) = some r) :
    ∃ r', P.built t (ps.map fun p => (p.1, ρ' p.2)) = some r' ∧ PW ι r r' := by
  obtain ⟨i, u, hi, hu, rfl, ha⟩ := zeroT_spec hz
  unfold Program.built at h ⊢
  split at h
  · rename_i it n e hit hun
    rw [hi] at hit; injection hit with hit; subst hit
    simp only [hi, hun, hu] at h ⊢
    split at h
    · rename_i z2 ie hz2 hie
      injection hz2 with hz2; subst hz2
      try simp only [hie]
      exact fill_sound _ hρ ps _ _ r (PW.of_atoms ha) h
    · cases h
  · rename_i it fs hit hun
    rw [hi] at hit; injection hit with hit; subst hit
    simp only [hi, hun, hu] at h ⊢
    split at h
    · rename_i z2 places hz2 hpl
      injection hz2 with hz2; subst hz2
      try simp only [hpl]
      exact fill_sound _ hρ ps _ _ r (PW.of_atoms ha) h
    · cases h
  · cases h
theorem map_pairs (ps : Array (Nat × Operand)) : (ps.map fun (i, x) => (i, ρ' x)).toList = ps.toList.map fun p => (p.1, ρ' p.2) := by simp
theorem build_sound {o : Oper} {t : TypeId} {ps : Array (Nat × Operand)} (ho : o.op = .build t ps) (hρ : ∀ x, VR ι (ρ x) (ρ' x)) (he : Emb P ι s.h.get w) (h : evBuild P ρ t ps s = some (v, s')) :
    s' = s ∧ Res P ((execOp ρ' o).run P w) s ι w v s' := by
  unfold evBuild at h
  split at h
  · rename_i z cs hz hb
    injection h with h
    injection h with h1 h2
    subst h1 h2
    obtain ⟨r', hr, hpw⟩ := built_sound hρ hz hb
    refine ⟨rfl, Res.same he (v' := .agg r') ?_ (.agg hpw.1 hpw.2)⟩
    have := run_build (P := P) w t (ps.map fun (i, x) => (i, ρ' x)) r' (by rw [map_pairs]; exact hr)
    simp [execOp, ho, this, Result.andThen, Sem.run]
  · cases h
theorem rep_CR {z : Array Value} (ha : allB atom z.toList = true) (hz : 0 < z.size) (n : Nat) : PW ι (rep z.toList n).toArray ((Array.range n).map (z[· % z.size]!)) := by
  refine ⟨by simp [rep], fun i x y hx hy => ?_⟩
  have hi : i < n := by have := (Array.getElem?_eq_some_iff.1 hy).1; simpa using this
  have hm : i % z.size < z.size := Nat.mod_lt _ hz
  simp only [rep, List.getElem?_toArray, List.getElem?_map, List.getElem?_range hi, Option.map_some, Option.some.injEq] at hx
  simp only [Array.getElem?_map, Array.getElem?_range, hi, if_true, Option.map_some, Option.some.injEq] at hy
  have e1 : x = z[i % z.size] := by
    rw [← hx]; simp [List.getD, hm]
  have e2 : y = z[i % z.size] := by rw [← hy]; simp [hm]
  subst e1 e2
  exact .atom (allB_get ha _ _ (Array.getElem?_eq_getElem hm))
theorem buildSlice_sound {o : Oper} {t n : Nat} {ps : Array (Nat × Operand)} (ho : o.op = .buildSlice t n ps) (hρ : ∀ x, VR ι (ρ x) (ρ' x)) (he : Emb P ι s.h.get w) (hf : Fresh ι s.n s'.n) (h : evBuildSlice P ρ t n ps s = some (v, s')) :
    Res P ((execOp ρ' o).run P w) s ι w v s' := by
  unfold evBuildSlice at h
  split at h
  · rename_i e hu
    split at h
    · rename_i i z hi hz
      cases hn0 : (Nat.beq n 0 && ps.isEmpty) with
      | true =>
      rw [hn0] at h
      simp only [Bool.and_eq_true] at hn0
      have hn := Nat.eq_of_beq_eq_true hn0.1
      have hps : ps = #[] := by simpa using hn0.2
      subst hn hps
      injection h with h
      injection h with h3 h4
      subst h3 h4
      obtain ⟨g1, g2⟩ := add_step he hf e (c := []) (C := #[]) ⟨by simp, fun j x y hx => by simp at hx⟩ 0 (by simp)
      refine ⟨.value (.slice (some ⟨w.heap.size, 0, none⟩) 0 0), _, _, _, ?_, .inl rfl, g1, g2, .slice (b := (w.heap.size, 0)) upd_same (Nat.le_refl _) (Nat.le_refl _) (fun _ => .inl (Nat.le_refl _))⟩
      simp [execOp, ho, Instr.buildSlice, run_underlying hu, sizeOf, typeInfo, hi, Instr.fill, newRow, newObj, Result.andThen, Sem.run]
      congr 2
      apply Array.ext'
      simp
      | false =>
      rw [hn0] at h
      simp only [cond_false] at h
      obtain ⟨hg, h⟩ := bif_some h
      simp only [Bool.and_eq_true] at hg
      have h1 : n * i.size ≤ 100000 := Nat.le_of_ble_eq_true hg.1.1
      have h2 : 0 < n * i.size := by simpa [Nat.blt_eq] using hg.1.2
      split at h
      · rename_i c hc
        injection h with h
        injection h with h3 h4
        subst h3 h4
        obtain ⟨i', u, hi', hu', rfl, ha⟩ := zeroT_spec hz
        rw [hi] at hi'; injection hi' with hi'; subst hi'
        have hzs : 0 < u.cells.size := by simpa [Nat.blt_eq] using hg.2
        obtain ⟨c', hc', hpw⟩ := fill_sound (fun j => some (j * i.size, i.size)) hρ ps.toList _ _ c (rep_CR ha hzs (n * i.size)) hc
        have hrun := run_buildSlice (P := P) w t e n (ps.map fun (i, x) => (i, ρ' x)) c' i u hu hi hu' (by omega) (by omega) (by rw [map_pairs]; exact hc')
        obtain ⟨g1, g2⟩ := add_step he hf e (c := c.toList) (C := c') ⟨by simp [hpw.1], fun j x y hx hy => hpw.2 j x y (by simpa using hx) hy⟩ 0 (by simp)
        refine ⟨.value (.slice (some ⟨w.heap.size, 0, none⟩) n n), _, _, _, ?_, .inl rfl, g1, g2, .slice (b := (w.heap.size, 0)) upd_same (Nat.le_refl _) (Nat.le_refl _) (fun _ => .inl (Nat.le_refl _))⟩
        simp [execOp, ho, hrun, Result.andThen, Sem.run]
      · cases h
    · cases h
  · cases h
theorem bytes_le {a b : Nat} (h1 : a ≤ 1000) (h2 : b ≤ 100000) : (a : Int) * (b : Int) ≤ 281474976710656 := by
  rw [← Int.natCast_mul]
  exact Int.le_trans (Int.ofNat_le.2 (Nat.mul_le_mul h1 h2)) (by decide)
theorem makeSlice_sound {o : Oper} {t : TypeId} {l c : Operand} (ho : o.op = .makeSlice t l c) (hρ : ∀ x, VR ι (ρ x) (ρ' x)) (he : Emb P ι s.h.get w) (hf : Fresh ι s.n s'.n) (h : evMakeSlice P ρ t l c s = some (v, s')) :
    Res P ((execOp ρ' o).run P w) s ι w v s' := by
  unfold evMakeSlice at h
  split at h
  · rename_i e l' c' hu hl hc
    split at h
    · rename_i i z hi hz
      obtain ⟨hg, h⟩ := bif_some h
      simp only [Bool.and_eq_true] at hg
      obtain ⟨⟨⟨hg1, hg2⟩, hg3⟩, hg4⟩ := hg
      have h1 : l' ≤ c' := Nat.le_of_ble_eq_true hg1
      have h2 : c' ≤ 100000 := Nat.le_of_ble_eq_true hg2
      have h3 : i.bytes ≤ 1000 := Nat.le_of_ble_eq_true hg3
      injection h with h
      injection h with h4 h5
      subst h4 h5
      obtain ⟨i', u, hi', hu', rfl, ha⟩ := zeroT_spec hz
      rw [hi] at hi'; injection hi' with hi'; subst hi'
      have hzs : 0 < u.cells.size := by simpa [Nat.blt_eq] using hg4
      obtain ⟨kl, hl'⟩ := natOf_inv hl (hρ l)
      obtain ⟨kc, hc'⟩ := natOf_inv hc (hρ c)
      have hrun := run_make (P := P) w t e i u hu hi hu' kl kc l' c' (by omega) (by omega) (bytes_le h3 h2) (by omega)
      simp only [Int.toNat_natCast] at hrun
      have hpw := rep_CR (ι := ι) ha hzs (c' * i.size)
      obtain ⟨g1, g2⟩ := add_step he hf e (c := rep u.cells.toList (c' * i.size)) (C := madeCells u.cells (c' * i.size)) ⟨by simp [rep, madeCells], fun j x y hx hy => hpw.2 j x y (by simpa using hx) hy⟩ 0 (by simp)
      refine ⟨.value (.slice (some ⟨w.heap.size, 0, none⟩) l' c'), _, _, _, ?_, .inl rfl, g1, g2, .slice (b := (w.heap.size, 0)) upd_same h1 (Nat.le_refl _) (fun _ => .inl (Nat.le_refl _))⟩
      simp [execOp, ho, hl', hc', hrun, Result.andThen, Sem.run]
    · cases h
  · cases h
theorem bound_run {x' : Value} {k : IntKind} {n y : Nat} {code : BoundsCode} (hx : x' = .int k (n : Int)) (h : n ≤ y) : (Instr.sliceBound x' y code).run P w = .ok n w := by
  have : ((n : Int) ≤ (y : Int)) := by omega
  simp [Instr.sliceBound, hx, asIntOf, this, Result.andThen, Sem.run]
theorem bounds_run {lo hi : Option Operand} {n c l h c' : Nat} (hρ : ∀ x, VR ι (ρ x) (ρ' x)) (hl : opNat ρ 0 lo = some l) (hh : opNat ρ n hi = some h) (h1 : l ≤ h) (h2 : h ≤ c) (h3 : c ≤ c') (q : Bool) :
    (Instr.sliceBounds q n c' (lo.map ρ') (hi.map ρ') none).run P w = .ok (l, h, c') w := by
  have A : ∀ code, (match (hi.map ρ' : Option Value) with | some v => Instr.sliceBound v c' code | none => pure n : Sem Nat).run P w = .ok h w := fun code => by
    cases hi with
    | none => simp only [opNat, Option.some.injEq] at hh; subst hh; rfl
    | some x => obtain ⟨k, hk⟩ := natOf_inv hh (hρ x); exact bound_run (code := code) hk (by omega)
  have B : ∀ code, (match (lo.map ρ' : Option Value) with | some v => Instr.sliceBound v h code | none => pure 0 : Sem Nat).run P w = .ok l w := fun code => by
    cases lo with
    | none => simp only [opNat, Option.some.injEq] at hl; subst hl; rfl
    | some x => obtain ⟨k, hk⟩ := natOf_inv hl (hρ x); exact bound_run (code := code) hk h1
  cases hi with
  | none =>
    cases lo with
    | none => have a := A .index; have b := B .index; simp only [Option.map_none] at a b; cases a; cases b; rfl
    | some y => have a := A .index; have b := B .sliceB; simp only [Option.map_none, Option.map_some] at a b; cases a; simp [Instr.sliceBounds, b, Result.andThen, Sem.run]
  | some x =>
    cases lo with
    | none => have a := A (if q then .sliceAcap else .sliceAlen); have b := B .index; simp only [Option.map_none, Option.map_some] at a b; cases b; cases q <;> simp at a <;> simp [Instr.sliceBounds, a, Result.andThen, Sem.run]
    | some y => have a := A (if q then .sliceAcap else .sliceAlen); have b := B .sliceB; simp only [Option.map_some] at a b; cases q <;> simp at a <;> simp [Instr.sliceBounds, a, b, Result.andThen, Sem.run]
theorem slice_sound {o : Oper} {t : TypeId} {x : Operand} {lo hi : Option Operand} (ho : o.op = .slice t x lo hi none) (hρ : ∀ x, VR ι (ρ x) (ρ' x)) (he : Emb P ι s.h.get w) (h : evSlice P ρ t x lo hi s = some (v, s')) :
    s' = s ∧ Res P ((execOp ρ' o).run P w) s ι w v s' := by
  unfold evSlice at h
  split at h
  · rename_i e k o' n c hu hx
    split at h
    · rename_i ie l hh hi' hl hhh
      obtain ⟨hg, h⟩ := bif_some h
      simp only [Bool.and_eq_true] at hg
      obtain ⟨⟨hg1, hg2⟩, hg3⟩ := hg
      have h1 : l ≤ hh := Nat.le_of_ble_eq_true hg1
      have h2 : hh ≤ c := Nat.le_of_ble_eq_true hg2
      have h3 : 0 < ie.size := by simpa [Nat.blt_eq] using hg3
      injection h with h
      injection h with h4 h5
      subst h4 h5
      have hv := hx ▸ hρ x
      generalize hx' : ρ' x = x' at hv
      have hadd : ∀ (a : Addr) (m : Nat), a.spot = none → a.add m = ⟨a.block, a.off + m, none⟩ := fun a m hs => by
        unfold Addr.add; split
        · rename_i h0; subst h0; cases a; simp at hs; subst hs; rfl
        · rfl
      cases hv with
      | atom h => simp [Ev.atom] at h
      | slice hb hn hc hq =>
        rename_i b c'
        have hrun := bounds_run (P := P) (w := w) (c' := c') hρ hl hhh h1 h2 hc true
        have hr : (execOp ρ' o).run P w = .ok (.value (.slice (if c' = l then some ⟨b.1, o', none⟩ else some ⟨b.1, o' + l * ie.size, none⟩) (hh - l) (c' - l))) w := by
          simp [execOp, ho, Instr.sliceAt, Instr.slice, run_underlying hu, hx', hrun, sizeOf, typeInfo, hi', Result.andThen, Sem.run, hadd]
        refine ⟨rfl, Res.same he hr ?_⟩
        by_cases hcl : c' = l
        · rw [if_pos hcl]
          have : c - l = 0 := by omega
          have h0 : hh - l = 0 := by omega
          have h00 : c' - l = 0 := by omega
          rw [this, h0, h00]
          exact .slice0 fun h => by cases h
        · rw [if_neg hcl]
          refine .slice hb (by omega) (by omega) fun h0 => ?_
          have hl0 : l * ie.size = 0 := by omega
          have hl1 : l = 0 := by
            rcases Nat.mul_eq_zero.1 hl0 with h | h
            · exact h
            · omega
          rcases hq (by omega) with h | h
          · exact .inl (by omega)
          · exact .inr (by omega)
      | slice0 hq0 =>
        rename_i a'
        have hl0 : l = 0 := by omega
        have hh0 : hh = 0 := by omega
        subst hl0 hh0
        have hrun := bounds_run (P := P) (w := w) (c' := 0) hρ hl hhh h1 h2 (Nat.le_refl 0) true
        have hr : (execOp ρ' o).run P w = .ok (.value (.slice a' 0 0)) w := by
          cases a' <;> simp [execOp, ho, Instr.sliceAt, Instr.slice, run_underlying hu, hx', hrun, sizeOf, typeInfo, hi', Result.andThen, Sem.run]
        refine ⟨rfl, Res.same he hr ?_⟩
        simp only [Nat.sub_zero]
        exact .slice0 hq0
    · cases h
  · rename_i e hu hx
    split at h
    · rename_i ie hi' hl hhh
      injection h with h
      injection h with h4 h5
      subst h4 h5
      have hx' : ρ' x = .slice none 0 0 := by
        have hv := hρ x
        rw [hx] at hv
        exact hv.eq_of_atom rfl
      have hrun := bounds_run (P := P) (w := w) (c' := 0) hρ hl hhh (Nat.le_refl 0) (Nat.le_refl 0) (Nat.le_refl 0) true
      have hr : (execOp ρ' o).run P w = .ok (.value (.slice none 0 0)) w := by
        simp [execOp, ho, Instr.sliceAt, Instr.slice, run_underlying hu, hx', hrun, sizeOf, typeInfo, hi', Result.andThen, Sem.run]
      exact ⟨rfl, Res.same he hr (.atom rfl)⟩
    · cases h
  · rename_i n e k o' hu hx
    split at h
    · rename_i ie l hh hi' hl hhh
      obtain ⟨hg, h⟩ := bif_some h
      simp only [Bool.and_eq_true] at hg
      obtain ⟨⟨hg1, hg2⟩, hg3⟩ := hg
      have h1 : l ≤ hh := Nat.le_of_ble_eq_true hg1
      have h2 : hh ≤ n := Nat.le_of_ble_eq_true hg2
      have h3 : 0 < ie.size := by simpa [Nat.blt_eq] using hg3
      injection h with h
      injection h with h4 h5
      subst h4 h5
      obtain ⟨b, hb, hx'⟩ := (hx ▸ hρ x).ptr_inv
      have hadd : ∀ (a : Addr) (m : Nat), a.spot = none → a.add m = ⟨a.block, a.off + m, none⟩ := fun a m hs => by
        unfold Addr.add; split
        · rename_i h0; subst h0; cases a; simp at hs; subst hs; rfl
        · rfl
      have hrun := bounds_run (P := P) (w := w) (c' := n) hρ hl hhh h1 h2 (Nat.le_refl n) false
      have hr : (execOp ρ' o).run P w = .ok (.value (.slice (some (if n = l then ⟨b.1, o', none⟩ else ⟨b.1, o' + l * ie.size, none⟩)) (hh - l) (n - l))) w := by
        simp [execOp, ho, Instr.sliceAt, Instr.sureAddr, run_underlying hu, hx', hrun, sizeOf, typeInfo, hi', Result.andThen, Sem.run, hadd]
      refine ⟨rfl, Res.same he hr ?_⟩
      by_cases hcl : n = l
      · rw [if_pos hcl]
        have h0 : hh - l = 0 := by omega
        have h00 : n - l = 0 := by omega
        rw [h0, h00]
        exact .slice0 fun h => by cases h
      · rw [if_neg hcl]
        exact .slice hb (by omega) (by omega) fun h0 => .inl (by omega)
    · cases h
  · cases h
theorem sliceS_sound {o : Oper} {t : TypeId} {x : Operand} {lo hi : Option Operand} (ho : o.op = .slice t x lo hi none) (hρ : ∀ x, VR ι (ρ x) (ρ' x)) (he : Emb P ι s.h.get w) (hob : ∀ p ∈ s'.ob, p.1 = p.2) (h : evSliceS P ρ t x lo hi s = some (v, s')) :
    Res P ((execOp ρ' o).run P w) s ι w v s' := by
  unfold evSliceS at h
  split at h
  · rename_i b y hu hx
    split at h
    · rename_i l hh hl hhh
      obtain ⟨hg, h⟩ := bif_some h
      have h1 : l ≤ hh := Nat.le_of_ble_eq_true hg
      split at h
      · rename_i s1 hs
        injection h with h
        injection h with h4 h5
        subst h4 h5
        obtain ⟨e1, e2, e3⟩ := tst_eq hs hob
        have h2 : hh ≤ b.size := Nat.le_of_ble_eq_true e1.symm
        have hx' : ρ' x = .string b := (hx ▸ hρ x : VR ι (.string b) (ρ' x)).eq_of_atom rfl
        have hrun := bounds_run (P := P) (w := w) (lo := lo) (hi := some y) (n := b.size) (c := b.size) (c' := b.size) hρ hl (by simp only [opNat]; exact hhh) h1 h2 (Nat.le_refl _) false
        refine Res.heap (s := s1) (Res.same (e2 ▸ he) (v' := .string (b.extract l hh)) ?_ (.atom rfl)) e2.symm e3.symm
        simp only [Option.map_some] at hrun
        simp [execOp, ho, Instr.sliceAt, Instr.slice, run_underlying hu, hx', hrun, Result.andThen, Sem.run]
      · cases h
    · cases h
  · cases h
end
end Ev
end Go.Proofs.YtldlnclkdgfahaaGreat
