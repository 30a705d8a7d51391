/- UndoBack: the law's plain functions are true. -/
import Derived.Test.YtjamgoohhcdaeaaUbr
import Derived.Test.YtjamgoohhcdaeaaPu
namespace Go.Proofs.Ytjamgoohhcdaeaa
open Go.RowKit
namespace Ev
set_option linter.unusedVariables false
set_option linter.unusedSimpArgs false
namespace Ub
abbrev F0 : List R_ii := [(⟨(1 : Int), (0 : Int)⟩ : R_ii), (⟨(1 : Int), (1 : Int)⟩ : R_ii), (⟨(1 : Int), (2 : Int)⟩ : R_ii), (⟨(1 : Int), (3 : Int)⟩ : R_ii), (⟨(1 : Int), (4 : Int)⟩ : R_ii), (⟨(1 : Int), (5 : Int)⟩ : R_ii), (⟨(1 : Int), (6 : Int)⟩ : R_ii), (⟨(1 : Int), (7 : Int)⟩ : R_ii)]
/-- All taken back, the last one first. -/
def und (f : List R_ii) (l : List R_iiiiibi) : List R_ii := l.foldr (fun e f => f.set e.a2.toNat ⟨e.a3, e.a4⟩) f
theorem und_snoc (f : List R_ii) (l : List R_iiiiibi) (e : R_iiiiibi) : und f (l ++ [e]) = und (f.set e.a2.toNat ⟨e.a3, e.a4⟩) l := by unfold und; rw [List.foldr_append]; rfl
theorem und_len (f : List R_ii) (l : List R_iiiiibi) : (und f l).length = f.length := by
  induction l with
  | nil => rfl
  | cons e l ih => show ((und f l).set _ _).length = _; rw [List.length_set, ih]
def Val (e : R_iiiiibi) : Prop := e.a0 = 0 ∧ e.a1 = 0 ∧ 0 ≤ e.a2 ∧ e.a2 ≤ 7 ∧ ¬ e.a5 = true
def mt (k : Int) (e : R_iiiiibi) : Bool := decide ((e.a0 = 0 ∧ e.a1 = 0) ∧ e.a2 = k ∧ ¬ e.a5 = true)
theorem gs_same {l : List R_ii} {i : Nat} {v : R_ii} (h : i < l.length) : (l.set i v).getD i R_ii.z = v := by simp [List.getD, h]
theorem gs_other {l : List R_ii} {i j : Nat} {v : R_ii} (h : i ≠ j) : (l.set i v).getD j R_ii.z = l.getD j R_ii.z := by simp [List.getD, List.getElem?_set, h]
/-- What a field is when all is taken back: what it had first. -/
theorem und_get {f : List R_ii} {k : Int} (h0 : 0 ≤ k) (h7 : k ≤ 7) (hf : f.length = 8) : ∀ {l : List R_iiiiibi}, (∀ e ∈ l, Val e) → (und f l).getD k.toNat R_ii.z = match l.find? (mt k) with | some e => ⟨e.a3, e.a4⟩ | none => f.getD k.toNat R_ii.z
  | [], _ => rfl
  | e :: l, hv => by
    have ih := und_get h0 h7 hf (l := l) fun x hx => hv x (List.mem_cons_of_mem _ hx)
    obtain ⟨v0, v1, v2, v3, v4⟩ := hv e (List.mem_cons_self ..)
    show ((und f l).set e.a2.toNat ⟨e.a3, e.a4⟩).getD k.toNat R_ii.z = _
    by_cases hk : e.a2 = k
    · have hm : mt k e = true := by unfold mt; exact decide_eq_true ⟨⟨v0, v1⟩, hk, v4⟩
      rw [List.find?_cons_of_pos hm, hk, gs_same (by rw [und_len]; omega)]
    · have hm : ¬ mt k e = true := by unfold mt; intro h; exact hk (of_decide_eq_true h).2.1
      rw [List.find?_cons_of_neg hm, gs_other (by omega), ih]
def res (x y : Int) (b : Bool) : Option R_iiiiibi → undo_Log_FirstR
  | some e => .r0 e.a3 e.a4 true
  | none => .r0 x y b
theorem first_is {L : List R_iiiiibi} {k : Int} {N : Nat} (hL : L.length ≤ 1000) (hN : 2000 ≤ N) : undo_Log_First 0 0 k 200 L N = some (res 0 0 false (L.find? (mt k))) := by
  refine (goM_in (show undo_Log_FirstIn 0 0 k 200 L N = some (.inl (.h1m0 (((L.length : Nat) : Int) - 1) 0 0 false)) from ite_yes (by decide) <| ite_yes (by omega) rfl)).trans ?_
  have loop : ∀ j x y b f, j ≤ L.length → j < f → iter (undo_Log_FirstStep 0 0 k 200 L N) f (.h1m0 (((j : Nat) : Int) - 1) x y b) = some (res x y b ((L.take j).find? (mt k))) := by
    intro j
    induction j with
    | zero =>
      intro x y b f hj hf
      obtain ⟨f, rfl⟩ : ∃ g, f = g + 1 := ⟨f - 1, by omega⟩
      refine iter_done ?_
      show undo_Log_First_h1m0 0 0 k 200 L N _ x y b = _
      unfold undo_Log_First_h1m0
      refine ite_no (by omega) ?_
      cases b <;> rfl
    | succ j ih =>
      intro x y b f hj hf
      obtain ⟨f, rfl⟩ : ∃ g, f = g + 1 := ⟨f - 1, by omega⟩
      rw [show (((j + 1 : Nat) : Int) - 1) = (j : Int) by omega, ← take_snoc (by omega) R_iiiiibi.z, List.find?_append]
      have hw : IntKind.i64.wrap ((j : Int) - 1) = (j : Int) - 1 := w64 (by omega) (by omega)
      have go : ∀ x' y' b', undo_Log_First_h1m0 0 0 k 200 L N (j : Int) x y b = some (.inl (.h1m0 ((j : Int) - 1) x' y' b')) → iter (undo_Log_FirstStep 0 0 k 200 L N) (f + 1) (.h1m0 (j : Int) x y b) = some (res x' y' b' ((L.take j).find? (mt k))) := fun x' y' b' h => (iter_next h).trans (ih x' y' b' f (by omega) (by omega))
      have un : undo_Log_First_h1m0 0 0 k 200 L N (j : Int) x y b = if (((L.getD j R_iiiiibi.z).a0 = 0 ∧ (L.getD j R_iiiiibi.z).a1 = 0)) then if (L.getD j R_iiiiibi.z).a2 = k then if (L.getD j R_iiiiibi.z).a5 = true then some (.inl (.h1m0 ((j : Int) - 1) x y b)) else some (.inl (.h1m0 ((j : Int) - 1) (L.getD j R_iiiiibi.z).a3 (L.getD j R_iiiiibi.z).a4 true)) else some (.inl (.h1m0 ((j : Int) - 1) x y b)) else some (.inl (.h1m0 ((j : Int) - 1) x y b)) := by
        unfold undo_Log_First_h1m0
        rw [hw, Int.toNat_natCast]
        exact ite_yes (by omega) (ite_yes (by omega) rfl)
      by_cases hm : mt k (L.getD j R_iiiiibi.z) = true
      · obtain ⟨m1, m2, m3⟩ := of_decide_eq_true hm
        rw [go _ _ _ (un.trans (ite_yes m1 <| ite_yes m2 <| ite_no m3 rfl)), List.find?_cons_of_pos hm]
        cases (L.take j).find? (mt k) <;> rfl
      · have hno : undo_Log_First_h1m0 0 0 k 200 L N (j : Int) x y b = some (.inl (.h1m0 ((j : Int) - 1) x y b)) := by
          rw [un]
          by_cases c1 : ((L.getD j R_iiiiibi.z).a0 = 0 ∧ (L.getD j R_iiiiibi.z).a1 = 0)
          · by_cases c2 : (L.getD j R_iiiiibi.z).a2 = k
            · by_cases c3 : (L.getD j R_iiiiibi.z).a5 = true
              · exact ite_yes c1 <| ite_yes c2 <| ite_yes c3 rfl
              · exact absurd (decide_eq_true ⟨c1, c2, c3⟩) hm
            · exact ite_yes c1 <| ite_no c2 rfl
          · exact ite_no c1 rfl
        rw [go _ _ _ hno, List.find?_cons_of_neg hm]
        cases (L.take j).find? (mt k) <;> rfl
  have := loop L.length 0 0 false N (Nat.le_refl _) (by omega)
  rwa [List.take_length] at this
/-- How it stands: eight fields; what was pushed takes all back. -/
structure Inv (f : List R_ii) (l : List R_iiiiibi) : Prop where
  len : f.length = 8
  val : ∀ e ∈ l, Val e
  bk : und f l = F0
theorem Inv.push {f : List R_ii} {l : List R_iiiiibi} {k v : Int} (h : Inv f l) (h0 : 0 ≤ k) (h7 : k ≤ 7) : Inv (f.set k.toNat ⟨(f.getD k.toNat R_ii.z).a0, v⟩) (l ++ [⟨0, 0, k, (f.getD k.toNat R_ii.z).a0, (f.getD k.toNat R_ii.z).a1, false, 0⟩]) := by
  have hlen := h.len
  refine ⟨by rw [List.length_set]; exact h.len, fun e he => ?_, ?_⟩
  · rcases List.mem_append.1 he with he | he
    · exact h.val e he
    · rw [List.mem_singleton] at he
      subst he
      exact ⟨rfl, rfl, h0, h7, fun h => by cases h⟩
  · rw [und_snoc]
    show und ((f.set k.toNat _).set k.toNat (f.getD k.toNat R_ii.z)) l = F0
    rw [List.set_set, ← h.bk]
    congr 1
    apply List.ext_getElem?
    intro i
    rw [List.getElem?_set]
    split
    · rename_i e
      subst e
      simp [List.getD, show k.toNat < f.length by omega]
    · rfl
theorem Inv.first {f : List R_ii} {l : List R_iiiiibi} {k : Int} (h : Inv f l) (h0 : 0 ≤ k) (h7 : k ≤ 7) {e : R_iiiiibi} (he : e ∈ l) (hk : e.a2 = k) : ∃ x, l.find? (mt k) = some x ∧ x.a3 = (F0.getD k.toNat R_ii.z).a0 ∧ x.a4 = (F0.getD k.toNat R_ii.z).a1 := by
  have hg := und_get h0 h7 h.len h.val
  obtain ⟨v0, v1, v2, v3, v4⟩ := h.val e he
  have hs : (l.find? (mt k)).isSome := List.find?_isSome.2 ⟨e, he, decide_eq_true ⟨⟨v0, v1⟩, hk, v4⟩⟩
  rw [h.bk] at hg
  cases hx : l.find? (mt k) with
  | none => rw [hx] at hs; cases hs
  | some x =>
    rw [hx] at hg
    exact ⟨x, rfl, by rw [hg], by rw [hg]⟩
theorem Inv.pop {f : List R_ii} {rows : List R_iiiiibi} {n : Nat} (hn : n < rows.length) (h : Inv f (rows.take (n + 1))) : Inv (f.set (rows.getD n R_iiiiibi.z).a2.toNat ⟨(rows.getD n R_iiiiibi.z).a3, (rows.getD n R_iiiiibi.z).a4⟩) (rows.take n) ∧ 0 ≤ (rows.getD n R_iiiiibi.z).a2 ∧ (rows.getD n R_iiiiibi.z).a2 ≤ 7 := by
  rw [← take_snoc hn R_iiiiibi.z] at h
  obtain ⟨v0, v1, v2, v3, v4⟩ := h.val _ (List.mem_append_right _ (List.mem_singleton.2 rfl))
  exact ⟨⟨by rw [List.length_set]; exact h.len, fun e he => h.val e (List.mem_append_left _ he), by rw [← und_snoc]; exact h.bk⟩, v2, v3⟩
section
variable {L1 L5 : List Int} {n2 n3 n6 n7 N : Nat}
theorem loop3 : ∀ n f rows c fu, n ≤ rows.length → n ≤ c → n ≤ 1000 → n < fu → Inv f (rows.take n) → iter (law07_UndoBackStep L1 n2 n3 L5 n6 n7 N) fu (.h3m2 f rows n c) = some (.r0 true) := by
  intro n
  induction n with
  | zero =>
    intro f rows c fu h1 h2 h3 h4 h
    obtain ⟨fu, rfl⟩ : ∃ g, fu = g + 1 := ⟨fu - 1, by omega⟩
    obtain rfl : f = F0 := h.bk
    refine iter_done ?_
    show law07_UndoBack_h3m2 L1 n2 n3 L5 n6 n7 N F0 rows 0 c = _
    unfold law07_UndoBack_h3m2
    exact ite_no (by omega) <| ite_yes rfl <| ite_yes (by decide) rfl
  | succ n ih =>
    intro f rows c fu h1 h2 h3 h4 h
    obtain ⟨fu, rfl⟩ : ∃ g, fu = g + 1 := ⟨fu - 1, by omega⟩
    obtain ⟨h', v2, v3⟩ := h.pop (by omega)
    have hlen := h.len
    refine (iter_next (y := .h3m2 (f.set (rows.getD n R_iiiiibi.z).a2.toNat ⟨(rows.getD n R_iiiiibi.z).a3, (rows.getD n R_iiiiibi.z).a4⟩) rows n c) ?_).trans (ih _ rows c fu (by omega) (by omega) (by omega) (by omega) h')
    show law07_UndoBack_h3m2 L1 n2 n3 L5 n6 n7 N f rows (n + 1) c = _
    unfold law07_UndoBack_h3m2
    simp only [Nat.add_sub_cancel, Nat.sub_zero]
    exact ite_yes (by omega) <| ite_yes (by omega) <| ite_yes (by omega) <| ite_yes (by omega) <| ite_no (by omega) <| ite_no (by omega) <| ite_yes (by omega) rfl
theorem fin3 {f : List R_ii} {l : List R_iiiiibi} {fu : Nat} (h : Inv f l) (hl : l.length ≤ 200) (hf : 500 < fu) : iter (law07_UndoBackStep L1 n2 n3 L5 n6 n7 N) fu (.h3m1 f l) = some (.r0 true) := by
  obtain ⟨fu, rfl⟩ : ∃ g, fu = g + 1 := ⟨fu - 1, by omega⟩
  have hlen := h.len
  by_cases h0 : l.length = 0
  · obtain rfl := List.eq_nil_of_length_eq_zero h0
    obtain rfl : f = F0 := h.bk
    refine iter_done ?_
    show law07_UndoBack_h3m1 L1 n2 n3 L5 n6 n7 N F0 [] = _
    unfold law07_UndoBack_h3m1
    exact ite_no (by decide) <| ite_yes rfl <| ite_yes (by decide) rfl
  · obtain ⟨n, hn⟩ : ∃ n, l.length = n + 1 := ⟨l.length - 1, by omega⟩
    have h1 : Inv f (l.take (n + 1)) := by rw [← hn, List.take_length]; exact h
    obtain ⟨h', v2, v3⟩ := h1.pop (by omega)
    refine (iter_next (y := .h3m2 (f.set (l.getD n R_iiiiibi.z).a2.toNat ⟨(l.getD n R_iiiiibi.z).a3, (l.getD n R_iiiiibi.z).a4⟩) l n (n + 1)) ?_).trans (loop3 n _ l (n + 1) fu (by omega) (by omega) (by omega) (by omega) h')
    show law07_UndoBack_h3m1 L1 n2 n3 L5 n6 n7 N f l = _
    unfold law07_UndoBack_h3m1
    rw [hn]
    simp only [Nat.add_sub_cancel, Nat.sub_zero]
    exact ite_yes (by omega) <| ite_yes (by omega) <| ite_no (by omega) <| ite_no (by omega) <| ite_yes (by omega) rfl
theorem push2_is {k x y : Int} {l : List R_iiiiibi} (hl : l.length < 200) : undo_Log_Push_2 0 0 k x y false 0 200 l N = some .r1 := by
  unfold undo_Log_Push_2
  exact ite_yes (by decide) <| ite_no (by omega) <| ite_yes (by omega) rfl
theorem kb {a : Int} (h0 : 0 ≤ a) : 0 ≤ Int.tmod a 8 ∧ Int.tmod a 8 ≤ 7 := by
  rw [Int.tmod_eq_emod_of_nonneg h0]; omega
theorem step2 (h2 : n2 ≤ L1.length) (hb : ∀ i, i < L1.length → 0 ≤ L1.getD i 0 ∧ L1.getD i 0 ≤ 255) (h6 : n6 ≤ L5.length) (hN : 5000 ≤ N) {f : List R_ii} {l : List R_iiiiibi} {i : Nat} (h : Inv f l) (hl : l.length = i) (i2 : i < n2) (i6 : i < n6) (i3 : i < 200) :
    ∃ f' l', Inv f' l' ∧ l'.length = i + 1 ∧ law07_UndoBackStep L1 n2 n3 L5 n6 n7 N (.h2m1 f i l) = some (.inl (.h2m1 f' (i + 1) l')) := by
  obtain ⟨b0, b1⟩ := hb i (by omega)
  obtain ⟨k0, k7⟩ := kb b0
  have hlen := h.len
  have h' := h.push (v := L5.getD i 0) k0 k7
  obtain ⟨x, hx, x3, x4⟩ := h'.first k0 k7 (List.mem_append_right _ (List.mem_singleton.2 rfl)) rfl
  refine ⟨_, _, h', by rw [List.length_append, hl]; rfl, ?_⟩
  show law07_UndoBack_h2m1 L1 n2 n3 L5 n6 n7 N f i l = _
  unfold law07_UndoBack_h2m1
  have hfst := first_is (L := l ++ [⟨0, 0, Int.tmod (L1.getD i 0) 8, (f.getD (Int.tmod (L1.getD i 0) 8).toNat R_ii.z).a0, (f.getD (Int.tmod (L1.getD i 0) 8).toNat R_ii.z).a1, false, 0⟩]) (k := Int.tmod (L1.getD i 0) 8) (N := N) (by rw [List.length_append, hl]; show i + 1 ≤ _; omega) (by omega)
  rw [hx] at hfst
  exact ite_yes (by omega) <| ite_yes (by omega) <| ite_yes (by omega) <| ite_yes (by omega) <| ite_yes (by omega) <| ite_yes (by omega) <| ite_yes k0 <| ite_yes (by omega) <| ite_yes (by omega) <| bind_to (push2_is (by omega)) <| ite_yes (by omega) <| bind_to hfst <| ite_no (fun h => h rfl) <| ite_no (fun h => h ⟨x3, x4⟩) rfl
theorem loop2 (h2 : n2 ≤ L1.length) (hb : ∀ i, i < L1.length → 0 ≤ L1.getD i 0 ∧ L1.getD i 0 ≤ 255) (h6 : n6 ≤ L5.length) (hN : 5000 ≤ N) : ∀ d i f l fu, i + d = 200 → 1000 + d < fu → Inv f l → l.length = i → iter (law07_UndoBackStep L1 n2 n3 L5 n6 n7 N) fu (.h2m1 f i l) = some (.r0 true) := by
  intro d
  induction d with
  | zero =>
    intro i f l fu hi hf h hl
    obtain ⟨fu, rfl⟩ : ∃ g, fu = g + 1 := ⟨fu - 1, by omega⟩
    refine (iter_next (y := .h3m1 f l) ?_).trans (fin3 h (by omega) (by omega))
    show law07_UndoBack_h2m1 L1 n2 n3 L5 n6 n7 N f i l = _
    unfold law07_UndoBack_h2m1
    by_cases c1 : ((i : Nat) : Int) < ((n2 : Nat) : Int)
    · by_cases c2 : ((i : Nat) : Int) < ((n6 : Nat) : Int)
      · exact ite_yes c1 <| ite_yes c2 <| ite_no (by omega) rfl
      · exact ite_yes c1 <| ite_no c2 rfl
    · exact ite_no c1 rfl
  | succ d ih =>
    intro i f l fu hi hf h hl
    obtain ⟨fu, rfl⟩ : ∃ g, fu = g + 1 := ⟨fu - 1, by omega⟩
    by_cases c : i < n2 ∧ i < n6
    · obtain ⟨f', l', h', hl', hs⟩ := step2 (n3 := n3) (n7 := n7) h2 hb h6 hN h hl c.1 c.2 (by omega)
      exact (iter_next hs).trans (ih (i + 1) f' l' fu (by omega) (by omega) h' hl')
    · refine (iter_next (y := .h3m1 f l) ?_).trans (fin3 h (by omega) (by omega))
      show law07_UndoBack_h2m1 L1 n2 n3 L5 n6 n7 N f i l = _
      unfold law07_UndoBack_h2m1
      by_cases c1 : ((i : Nat) : Int) < ((n2 : Nat) : Int)
      · exact ite_yes c1 <| ite_no (by omega) rfl
      · exact ite_no c1 rfl
theorem runs (h2 : n2 ≤ L1.length) (hb : ∀ i, i < L1.length → 0 ≤ L1.getD i 0 ∧ L1.getD i 0 ≤ 255) (h6 : n6 ≤ L5.length) (hN : 5000 ≤ N) : law07_UndoBack L1 n2 n3 L5 n6 n7 N = some (.r0 true) := by
  refine (goM_in (show law07_UndoBackIn L1 n2 n3 L5 n6 n7 N = some (.inl .h1m0) from rfl)).trans ?_
  obtain ⟨M, hM⟩ : ∃ M, N = M + 1 + 1 + 1 + 1 + 1 + 1 + 1 + 1 + 1 + 1 := ⟨N - 10, by omega⟩
  have key : iter (law07_UndoBackStep L1 n2 n3 L5 n6 n7 N) (M + 1) .h2m0 = some (.r0 true) := by
    by_cases c : 0 < n2 ∧ 0 < n6
    · obtain ⟨b0, b1⟩ := hb 0 (by omega)
      obtain ⟨k0, k7⟩ := kb b0
      have h' := Inv.push (f := F0) (l := []) (v := L5.getD 0 0) ⟨rfl, (fun e he => by cases he), rfl⟩ k0 k7
      obtain ⟨x, hx, x3, x4⟩ := h'.first k0 k7 (List.mem_append_right _ (List.mem_singleton.2 rfl)) rfl
      refine (iter_next (y := .h2m1 _ 1 _) ?_).trans (loop2 h2 hb h6 hN 199 1 _ _ M (by omega) (by omega) h' rfl)
      show law07_UndoBack_h2m0 L1 n2 n3 L5 n6 n7 N = _
      unfold law07_UndoBack_h2m0
      have hfst := first_is (L := [] ++ [⟨0, 0, Int.tmod (L1.getD 0 0) 8, (F0.getD (Int.tmod (L1.getD 0 0) 8).toNat R_ii.z).a0, (F0.getD (Int.tmod (L1.getD 0 0) 8).toNat R_ii.z).a1, false, 0⟩]) (k := Int.tmod (L1.getD 0 0) 8) (N := N) (by show 1 ≤ _; omega) (by omega)
      rw [hx] at hfst
      exact ite_yes (by omega) <| ite_yes (by omega) <| ite_yes (by omega) <| ite_yes (by omega) <| ite_yes (by omega) <| ite_yes k0 <| ite_yes (by omega) <| bind_to (show undo_Log_Push _ _ _ _ _ _ _ 200 N = some .r0 from rfl) <| ite_yes (by omega) <| bind_to hfst <| ite_no (fun h => h rfl) <| ite_no (fun h => h ⟨x3, x4⟩) rfl
    · obtain ⟨M', rfl⟩ : ∃ M', M = M' + 1 := ⟨M - 1, by omega⟩
      refine (iter_next (y := .h3m0) ?_).trans (iter_done rfl)
      show law07_UndoBack_h2m0 L1 n2 n3 L5 n6 n7 N = _
      unfold law07_UndoBack_h2m0
      by_cases c1 : (0 : Int) < ((n2 : Nat) : Int)
      · exact ite_yes c1 <| ite_no (by omega) rfl
      · exact ite_no c1 rfl
  conv => lhs; arg 2; rw [hM]
  exact (iter_next rfl).trans ((iter_next rfl).trans ((iter_next rfl).trans ((iter_next rfl).trans ((iter_next rfl).trans ((iter_next rfl).trans ((iter_next rfl).trans ((iter_next rfl).trans ((iter_next rfl).trans key))))))))
theorem runs2 (hN : 5000 ≤ N) : law07_UndoBack_2 L1 n2 n3 N = some (.r0 true) := by
  refine (goM_in (show law07_UndoBack_2In L1 n2 n3 N = some (.inl .h1m0) from rfl)).trans (iter_up (n := 0 + 1 + 1 + 1 + 1 + 1 + 1 + 1 + 1 + 1 + 1 + 1) (by omega) ?_)
  refine (iter_next (y := .h1m1) rfl).trans ((iter_next (y := .h1m2) rfl).trans ((iter_next (y := .h1m3) rfl).trans ((iter_next (y := .h1m4) rfl).trans ((iter_next (y := .h1m5) rfl).trans ((iter_next (y := .h1m6) rfl).trans ((iter_next (y := .h1m7) rfl).trans ((iter_next (y := .h1m8) rfl).trans ((iter_next (y := .h2m0) rfl).trans ((iter_next (y := .h3m0) ?_).trans (iter_done rfl))))))))))
  show law07_UndoBack_2_h2m0 L1 n2 n3 N = _
  unfold law07_UndoBack_2_h2m0
  first | rfl | (split <;> rfl)
theorem runs3 (hN : 5000 ≤ N) : law07_UndoBack_3 L5 n6 n7 N = some (.r0 true) := by
  refine (goM_in (show law07_UndoBack_3In L5 n6 n7 N = some (.inl .h1m0) from rfl)).trans (iter_up (n := 0 + 1 + 1 + 1 + 1 + 1 + 1 + 1 + 1 + 1 + 1 + 1) (by omega) ?_)
  refine (iter_next (y := .h1m1) rfl).trans ((iter_next (y := .h1m2) rfl).trans ((iter_next (y := .h1m3) rfl).trans ((iter_next (y := .h1m4) rfl).trans ((iter_next (y := .h1m5) rfl).trans ((iter_next (y := .h1m6) rfl).trans ((iter_next (y := .h1m7) rfl).trans ((iter_next (y := .h1m8) rfl).trans ((iter_next (y := .h2m0) rfl).trans ((iter_next (y := .h3m0) ?_).trans (iter_done rfl))))))))))
  show law07_UndoBack_3_h2m0 L5 n6 n7 N = _
  unfold law07_UndoBack_3_h2m0
  first | rfl | (split <;> rfl)
theorem runs4 (hN : 5000 ≤ N) : law07_UndoBack_4 N = some (.r0 true) := by
  refine (goM_in (show law07_UndoBack_4In N = some (.inl .h1m0) from rfl)).trans (iter_up (n := 0 + 1 + 1 + 1 + 1 + 1 + 1 + 1 + 1 + 1 + 1 + 1) (by omega) ?_)
  exact (iter_next (y := .h1m1) rfl).trans ((iter_next (y := .h1m2) rfl).trans ((iter_next (y := .h1m3) rfl).trans ((iter_next (y := .h1m4) rfl).trans ((iter_next (y := .h1m5) rfl).trans ((iter_next (y := .h1m6) rfl).trans ((iter_next (y := .h1m7) rfl).trans ((iter_next (y := .h1m8) rfl).trans ((iter_next (y := .h2m0) rfl).trans ((iter_next (y := .h3m0) rfl).trans (iter_done rfl))))))))))
end
end Ub
end Ev
end Go.Proofs.Ytjamgoohhcdaeaa
