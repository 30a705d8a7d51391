/- Arguments that are slices, opened: the block they lie in, and each element as what is read of it. -/
import Derived.Test.YtbhnaaingkbeiaaEvV
import Derived.Test.YtbhnaaingkbeiaaEvT
namespace Go.Proofs.Ytbhnaaingkbeiaa
open Go.ChangeShapes Go.WideShapes Go.ChangeAt Go.RowKit Go.Deep
namespace Ev
section
variable {H : Type} {enc : TypeId × Value → H} {P : Program} {w : World}
/-- What is read of some cells, as a value of a type. -/
def Trd (enc : TypeId × Value → H) (P : Program) (w : World) (t : TypeId) (cs : List Value) : Prop := ∃ n y, DataW.trod enc P w 0 (fun _ => true) true n t cs = some y
/-- The cap elements of a slice: where they lie, and what is read of each. -/
def Elems (enc : TypeId × Value → H) (P : Program) (w : World) (e : TypeId) (O : Obj) (o cap : Nat) : Prop :=
  ∀ i, i < cap → ∃ C t fr cs, O = .cells C t fr ∧ cs.length = P.cellsOf e ∧ (∀ j, j < P.cellsOf e → C[o + (i * P.cellsOf e + j)]? = cs[j]?) ∧ Trd enc P w e cs
theorem arg_row {t e : TypeId} {v : Value} {d : DataW H} {p : List MemPlace} {r : Reach} {b0 : Nat} (ht : P.underlying t = some (.slice e))
    (hv : Value.okWide P w r b0 t v) (h : DataW.Trod enc P w 0 (fun _ => true) true t v d p) :
    v = .slice none 0 0 ∨ ∃ (b o len cap : Nat) (O : Obj), v = .slice (some ⟨b, o, none⟩) len cap ∧ len ≤ cap ∧ cap ≤ 9223372036854775807 ∧ w.heap[b]? = some O ∧ Elems enc P w e O o cap := by
  obtain ⟨a0, len0, cap0, rfl⟩ := Go.WideShapes.okWide_slice ht hv
  obtain ⟨fuel, hf⟩ := h
  rcases open_slice ht hf with ⟨hcs, _⟩ | ⟨a, len, cap, m, n, D, Pl, hcs, hb, hl, hm, hmm, hx, hi⟩
  · simp [Value.cells] at hcs
    obtain ⟨rfl, rfl, rfl⟩ := hcs
    exact .inl rfl
  · simp [Value.cells] at hcs
    obtain ⟨rfl, rfl, rfl⟩ := hcs
    simp only [if_true] at hmm
    subst hmm
    have hh : w.has P r b0 a e m := by
      simp only [Value.okWide, ht, Cell.okWide, Cell.ok] at hv
      exact hv.2.2
    obtain ⟨_, hspot, row, cells, hsh, _⟩ := hh
    obtain ⟨b, o, spot⟩ := a
    have hspot : spot = none := hspot
    subst hspot
    have hsh : w.shape? b = some (row, cells) := hsh
    unfold World.shape? at hsh
    split at hsh
    · rename_i C el fr hB
      refine .inr ⟨b, o, len0, m, _, rfl, hl, by unfold maxLen at hm; omega, hB, fun i hi' => ?_⟩
      obtain ⟨cs', hc, ht'⟩ := hi i hi'
      obtain ⟨_, hcl, hat⟩ := World.cells?_some hc
      refine ⟨C, el, fr, cs', rfl, hcl, fun j hj => ?_, n, _, ht'⟩
      have h1 := hat j hj
      rw [Go.Deep.add_add] at h1
      have h2 : w.cell? ⟨b, o + (i * P.cellsOf e + j), none⟩ = some (cs'[j]'(by omega)) := by
        have : (⟨b, o, none⟩ : Addr).add (i * P.cellsOf e + j) = ⟨b, o + (i * P.cellsOf e + j), none⟩ := Go.WideShapes.add_plain b o _
        rw [← this, h1]
        exact List.getElem?_eq_getElem (by omega)
      obtain ⟨C', t', fr', hB', hv'⟩ := block_of_cell h2
      rw [hB] at hB'
      injection hB' with hB'
      injection hB' with e1 e2 e3
      subst e1
      rw [hv']
      exact (List.getElem?_eq_getElem (by omega)).symm
    · cases hsh
theorem trd_field {t : TypeId} {fs : Array Field} {cs : List Value} (ht : P.underlying t = some (.struct fs)) (h : Trd enc P w t cs) (i : Nat) {f : Field} (hf : fs[i]? = some f) : Trd enc P w f.type ((cs.drop f.offset).take (P.cellsOf f.type)) := by
  obtain ⟨n, y, h⟩ := h
  obtain ⟨xs, n', _, _, _, hxl, hfl⟩ := DataW.trod_struct ht h
  have hi : i < fs.size := (Array.getElem?_eq_some_iff.1 hf).1
  have := hfl i f hf
  rw [List.getElem?_eq_getElem (show i < xs.length by omega)] at this
  exact ⟨n', _, this⟩
theorem trd_int {t : TypeId} {k : IntKind} {cs : List Value} (ht : P.underlying t = some (.int k)) (h : Trd enc P w t cs) : ∃ z, cs = [.int k z] ∧ k.min ≤ z ∧ z ≤ k.max := by
  obtain ⟨n, y, h⟩ := h
  obtain ⟨z, e0, _, wx⟩ := DataW.trod_int ht h
  simp only [Lit.wf, Bool.and_eq_true, decide_eq_true_eq] at wx
  exact ⟨z, e0, wx.1, wx.2⟩
theorem trd_bool {t : TypeId} {cs : List Value} (ht : P.underlying t = some .bool) (h : Trd enc P w t cs) : ∃ z, cs = [.bool z] := by
  obtain ⟨n, y, h⟩ := h
  obtain ⟨z, e0, _⟩ := DataW.trod_bool ht h
  exact ⟨z, e0⟩
theorem trd_slice {t e : TypeId} {cs : List Value} (ht : P.underlying t = some (.slice e)) (h : Trd enc P w t cs) : ∃ a l c, cs = [.slice a l c] := by
  obtain ⟨n, y, h⟩ := h
  rcases open_slice ht h with ⟨hcs, _⟩ | ⟨a, len, cap, m, n, D, Pl, hcs, _⟩
  · exact ⟨_, _, _, hcs⟩
  · exact ⟨_, _, _, hcs⟩
/-- A cell of an element, by its number. -/
theorem one_of_take {cs : List Value} {j m : Nat} {v : Value} (h : (cs.drop j).take m = [v]) (hm : m = 1) : cs[j]? = some v := by
  subst hm
  have : ((cs.drop j).take 1)[0]? = some v := by rw [h]; rfl
  rwa [List.getElem?_take_of_lt (by decide), List.getElem?_drop, Nat.add_zero] at this
theorem two_of_take {cs : List Value} {a m j q : Nat} {v : Value} (h : (((cs.drop a).take m).drop j).take q = [v]) (hq : q = 1) : cs[a + j]? = some v := by
  have h := one_of_take h hq
  rw [List.getElem?_take] at h
  split at h
  · rwa [List.getElem?_drop] at h
  · cases h
/-- Functions from what is there for each. -/
theorem pick1 {α : Type} [Inhabited α] {n : Nat} {R : Nat → α → Prop} (h : ∀ i, i < n → ∃ x, R i x) : ∃ f : Nat → α, ∀ i, i < n → R i (f i) := by
  classical
  refine ⟨fun i => if hi : i < n then (h i hi).choose else default, fun i hi => ?_⟩
  simp only [hi, dite_true]
  exact (h i hi).choose_spec
theorem pick2 {α β : Type} [Inhabited α] [Inhabited β] {n : Nat} {R : Nat → α → β → Prop} (h : ∀ i, i < n → ∃ x y, R i x y) : ∃ (f : Nat → α) (g : Nat → β), ∀ i, i < n → R i (f i) (g i) := by
  obtain ⟨f, hf⟩ := pick1 h
  obtain ⟨g, hg⟩ := pick1 hf
  exact ⟨f, g, hg⟩
theorem pick3 {α β γ : Type} [Inhabited α] [Inhabited β] [Inhabited γ] {n : Nat} {R : Nat → α → β → γ → Prop} (h : ∀ i, i < n → ∃ x y z, R i x y z) : ∃ (f : Nat → α) (g : Nat → β) (k : Nat → γ), ∀ i, i < n → R i (f i) (g i) (k i) := by
  obtain ⟨f, g, hg⟩ := pick2 h
  obtain ⟨k, hk⟩ := pick1 hg
  exact ⟨f, g, k, hk⟩
/-- Blocks of the caller's, one after another. -/
theorem hro_nil {w : World} : ∀ (j : Nat) (o : AObj), ([] : List AObj)[j]? = some o → ∃ (O : Obj) (b : Nat), o = AObj.ro O ∧ ([] : List Nat)[j]? = some b ∧ w.heap[b]? = some O := fun j o h => by simp at h
theorem hro_cons {w : World} {O : Obj} {b : Nat} {pre : List AObj} {bs : List Nat} (h : w.heap[b]? = some O) (t : ∀ (j : Nat) (o : AObj), pre[j]? = some o → ∃ (O : Obj) (b : Nat), o = AObj.ro O ∧ bs[j]? = some b ∧ w.heap[b]? = some O) :
    ∀ (j : Nat) (o : AObj), (AObj.ro O :: pre)[j]? = some o → ∃ (O' : Obj) (b' : Nat), o = AObj.ro O' ∧ (b :: bs)[j]? = some b' ∧ w.heap[b']? = some O' := fun j o hj => by
  rcases j with _ | j
  · injection hj with hj
    exact ⟨O, b, hj.symm, rfl, h⟩
  · exact t j o (by simpa using hj)
/-- The rows of elements, told cell by cell. -/
theorem elem_row {O : Obj} {o i m : Nat} {l : List Cell} {cs : List Value} {C : Array Value} {t : TypeId} {fr : Nat × Nat} (hO : O = .cells C t fr) (hc : ∀ j, j < m → C[o + (i * m + j)]? = cs[j]?)
    (hl : l.length ≤ m) (h : ∀ (j : Nat) (b : Cell), l[j]? = some b → ∃ x, cs[j]? = some x ∧ sameC [x] [b] = true) : RowOK O (o + i * m) l := by
  subst hO
  refine row_ok fun j b hj => ?_
  obtain ⟨x, hx, hs⟩ := h j b hj
  have hlt : j < l.length := (List.getElem?_eq_some_iff.1 hj).1
  exact ⟨x, by rw [Nat.add_assoc, hc j (by omega), hx], hs⟩
theorem cellsN {cs : List Value} : ∀ (j : Nat) (b : Cell), ([] : List Cell)[j]? = some b → ∃ x, cs[j]? = some x ∧ sameC [x] [b] = true := fun j b h => by simp at h
theorem cellsC {cs : List Value} {b : Cell} {l : List Cell} {x : Value} {k : Nat} (hx : cs[k]? = some x) (hs : sameC [x] [b] = true) (t : ∀ (j : Nat) (b : Cell), l[j]? = some b → ∃ x, cs[k + 1 + j]? = some x ∧ sameC [x] [b] = true) :
    ∀ (j : Nat) (b' : Cell), (b :: l)[j]? = some b' → ∃ x, cs[k + j]? = some x ∧ sameC [x] [b'] = true := fun j b' h => by
  rcases j with _ | j
  · injection h with h
    subst h
    exact ⟨x, hx, hs⟩
  · obtain ⟨y, hy, hs'⟩ := t j b' (by simpa using h)
    exact ⟨y, by rw [show k + (j + 1) = k + 1 + j by omega]; exact hy, hs'⟩
end
end Ev
end Go.Proofs.Ytbhnaaingkbeiaa
