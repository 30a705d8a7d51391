/- Arguments that are slices of structs of ints, opened, over any program. -/
import Derived.Test.YtbhnaaingkbeiaaFrame
namespace Go.Proofs.Ytbhnaaingkbeiaa
open Go.ChangeShapes Go.WideShapes Go.ChangeAt Go.RowKit Go.Deep
section
variable {H : Type} {enc : TypeId × Value → H} {P : Program} {w : World}

/-- Every field of a struct is one cell, an int. -/
def intFields (P : Program) (fs : Array Field) : Bool := oneCellFields P fs && fs.all fun f => match P.underlying f.type with | some (.int .i64) => true | _ => false

theorem plain_of_cell {a : Addr} {v : Value} (h : w.cell? (a.add 0) = some v) : ∃ b o, a = ⟨b, o, none⟩ ∧ b < w.heap.size := by
  obtain ⟨b, o, spot⟩ := a
  have hspot : spot = none := by simpa [Addr.add] using World.cell?_spot h
  subst hspot
  exact ⟨b, o, rfl, World.block_lt_of_cell? w ⟨b, o, none⟩ (by simpa [Addr.add] using h)⟩

theorem int_rows {t e : TypeId} {fs : Array Field} {v : Value} {d : DataW H} {p : List MemPlace} {r : Reach} {b0 : Nat} (ht : P.underlying t = some (.slice e)) (he : P.underlying e = some (.struct fs)) (hfs : intFields P fs = true) (hC : P.cellsOf e = fs.size) (hpos : 0 < fs.size)
    (hv : Value.okWide P w r b0 t v) (h : DataW.Trod enc P w 0 (fun _ => true) true t v d p) :
    ∃ (A : Option Addr) (len cap : Nat) (z : Nat → Nat → Int), v = .slice A len cap ∧ len ≤ cap ∧ cap ≤ maxLen ∧
      (0 < cap → ∃ b o, A = some ⟨b, o, none⟩ ∧ b < w.heap.size ∧ ∀ i j, i < cap → j < fs.size → w.cell? ⟨b, o + (i * fs.size + j), none⟩ = some (.int .i64 (z i j)) ∧ (Lit.int .i64 (z i j)).wf = true) := by
  obtain ⟨a0, len0, cap0, rfl⟩ := okWide_slice ht hv
  obtain ⟨fuel, hf⟩ := h
  rcases open_slice ht hf with ⟨hcs, _⟩ | ⟨a, len, cap, m, n, D, Pl, hcs, hb, hl, hm, hmm, hx, hi⟩
  · simp [Value.cells] at hcs
    obtain ⟨rfl, rfl, rfl⟩ := hcs
    exact ⟨none, 0, 0, fun _ _ => 0, rfl, Nat.le_refl _, Nat.zero_le _, fun h => absurd h (by omega)⟩
  · simp [Value.cells] at hcs
    obtain ⟨rfl, rfl, rfl⟩ := hcs
    simp only [if_true] at hmm
    subst hmm
    have key : ∀ i j, i < m → j < fs.size → ∃ z : Int, w.cell? (a.add (i * fs.size + j)) = some (.int .i64 z) ∧ (Lit.int .i64 z).wf = true := by
      intro i j him hj
      obtain ⟨cs', hc, ht'⟩ := hi i him
      rw [hC] at hc
      obtain ⟨ys, n', hn', hy, hlen, hyl, hfl⟩ := DataW.trod_struct he ht'
      obtain ⟨_, hcl, hat⟩ := World.cells?_some hc
      simp only [intFields, Bool.and_eq_true] at hfs
      have hfj : fs[j]? = some fs[j] := Array.getElem?_eq_getElem hj
      obtain ⟨ho, hk⟩ := hone_of hfs.1 j fs[j] hfj
      have hty : P.underlying fs[j].type = some (.int .i64) := by
        have := Array.all_eq_true.1 hfs.2 j hj
        split at this
        · assumption
        · cases this
      have hcell := hat j hj
      have h1 := hfl j fs[j] hfj
      rw [ho, hk] at h1
      have hone' : (cs'.drop j).take 1 = [cs'[j]'(by omega)] := by
        rw [List.drop_eq_getElem_cons (by omega)]
        rfl
      rw [hone'] at h1
      have hys : ys[j]? = some (ys[j]'(by omega)) := List.getElem?_eq_getElem (by omega)
      obtain ⟨q, e0, _, wq⟩ := DataW.trod_int hty (h1.trans hys)
      refine ⟨q, ?_, wq⟩
      have hv : cs'[j]? = some (cs'[j]'(by omega)) := List.getElem?_eq_getElem (by omega)
      rw [← Go.Deep.add_add, hcell, hv]
      simp at e0
      rw [e0]
    have keyf : ∃ z : Nat → Nat → Int, ∀ i j, i < m → j < fs.size → w.cell? (a.add (i * fs.size + j)) = some (.int .i64 (z i j)) ∧ (Lit.int .i64 (z i j)).wf = true := by
      refine ⟨fun i j => if h : i < m ∧ j < fs.size then (key i j h.1 h.2).choose else 0, fun i j hi hj => ?_⟩
      simp only [hi, hj, and_self, dite_true]
      exact (key i j hi hj).choose_spec
    obtain ⟨z, hz⟩ := keyf
    refine ⟨some a, len0, m, z, rfl, hl, hm, fun hpm => ?_⟩
    obtain ⟨b, o, rfl, hlt⟩ := plain_of_cell (by simpa using (hz 0 0 hpm hpos).1)
    exact ⟨b, o, rfl, hlt, fun i j hi hj => by rw [← Go.WideShapes.add_plain]; exact hz i j hi hj⟩
/-- A slice whose elements are one cell each. -/
theorem one_rows {t e : TypeId} {v : Value} {d : DataW H} {p : List MemPlace} {r : Reach} {b0 : Nat} (ht : P.underlying t = some (.slice e)) (hC : P.cellsOf e = 1)
    (hv : Value.okWide P w r b0 t v) (h : DataW.Trod enc P w 0 (fun _ => true) true t v d p) :
    ∃ (A : Option Addr) (len cap : Nat) (z : Nat → Value), v = .slice A len cap ∧ len ≤ cap ∧ cap ≤ maxLen ∧
      (0 < cap → ∃ b o, A = some ⟨b, o, none⟩ ∧ b < w.heap.size ∧ ∀ i, i < cap → w.cell? ⟨b, o + i, none⟩ = some (z i) ∧ ∃ n y, DataW.trod enc P w 0 (fun _ => true) true n e [z i] = some y) := by
  obtain ⟨a0, len0, cap0, rfl⟩ := okWide_slice ht hv
  obtain ⟨fuel, hf⟩ := h
  rcases open_slice ht hf with ⟨hcs, _⟩ | ⟨a, len, cap, m, n, D, Pl, hcs, hb, hl, hm, hmm, hx, hi⟩
  · simp [Value.cells] at hcs
    obtain ⟨rfl, rfl, rfl⟩ := hcs
    exact ⟨none, 0, 0, fun _ => undef, rfl, Nat.le_refl _, Nat.zero_le _, fun h => absurd h (by omega)⟩
  · simp [Value.cells] at hcs
    obtain ⟨rfl, rfl, rfl⟩ := hcs
    simp only [if_true] at hmm
    subst hmm
    have key : ∀ i, i < m → ∃ z : Value, w.cell? (a.add i) = some z ∧ ∃ n y, DataW.trod enc P w 0 (fun _ => true) true n e [z] = some y := by
      intro i him
      obtain ⟨cs', hc, ht'⟩ := hi i him
      rw [hC] at hc
      obtain ⟨_, hcl, hat⟩ := World.cells?_some hc
      match cs', hcl with
      | [c], _ =>
        have := hat 0 (by omega)
        rw [Nat.mul_one, Go.Deep.add_add, Nat.add_zero] at this
        exact ⟨c, this, n, _, ht'⟩
    have keyf : ∃ z : Nat → Value, ∀ i, i < m → w.cell? (a.add i) = some (z i) ∧ ∃ n y, DataW.trod enc P w 0 (fun _ => true) true n e [z i] = some y := by
      refine ⟨fun i => if h : i < m then (key i h).choose else undef, fun i hi => ?_⟩
      simp only [hi, dite_true]
      exact (key i hi).choose_spec
    obtain ⟨z, hz⟩ := keyf
    refine ⟨some a, len0, m, z, rfl, hl, hm, fun hpm => ?_⟩
    obtain ⟨b, o, rfl, hlt⟩ := plain_of_cell (hz 0 hpm).1
    exact ⟨b, o, rfl, hlt, fun i hi => by rw [← Go.WideShapes.add_plain]; exact hz i hi⟩

theorem bool_cell {e : TypeId} (he : P.underlying e = some .bool) {v : Value} {n : Nat} {y : DataW H × List MemPlace} {sp : Nat → Bool} {hd : Bool} (h : DataW.trod enc P w 0 sp hd n e [v] = some y) : ∃ x : Bool, v = .bool x := by
  obtain ⟨x, e0, _⟩ := DataW.trod_bool he h
  simp at e0
  exact ⟨x, e0⟩
theorem int_cell {e : TypeId} {k : IntKind} (he : P.underlying e = some (.int k)) {v : Value} {n : Nat} {y : DataW H × List MemPlace} {sp : Nat → Bool} {hd : Bool} (h : DataW.trod enc P w 0 sp hd n e [v] = some y) : ∃ x : Int, v = .int k x ∧ (Lit.int k x).wf = true := by
  obtain ⟨x, e0, _, wx⟩ := DataW.trod_int he h
  simp at e0
  exact ⟨x, e0, wx⟩
end
end Go.Proofs.Ytbhnaaingkbeiaa
