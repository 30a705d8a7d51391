/- EpochQuiet: what holds between rounds. -/
import Derived.Test.YtonffldokhnmoaaEpA
namespace Go.Proofs.Ytonffldokhnmoaa
open Go.RowKit
namespace Ev
set_option linter.unusedVariables false
/-- No slot is more than k. -/
def Okc (C : List Int) (n k : Nat) : Prop := ∀ t, t < n → 0 ≤ C.getD (1 + t) 0 ∧ C.getD (1 + t) 0 ≤ (k : Int)
theorem okc_up {C : List Int} {n k k' : Nat} (h : Okc C n k) (hk : k ≤ k') : Okc C n k' := fun t ht => by have := h t ht; omega
theorem getD_rep (m t : Nat) : (List.replicate m (0 : Int)).getD t 0 = 0 := by
  rw [List.getD_eq_getElem?_getD, List.getElem?_replicate]
  split <;> rfl
theorem okc_zero {n : Nat} : ∀ {x : Int} {C : List Int}, C = List.replicate 64 0 → Okc (x :: C) n 0 := fun {x C} hC t ht => by
  subst hC
  rw [Nat.add_comm, List.getD_cons_succ, getD_rep]
  exact ⟨Int.le_refl _, Int.le_refl _⟩
theorem okc_step {C : List Int} {n k t : Nat} (h : Okc C n k) (hl : C.length = 65) (hn : n ≤ 64) (ht : t < n) (hk : k ≤ 1000) : Okc (C.set (1 + t) (IntKind.i64.wrap (C.getD (1 + t) 0 + 1))) n (k + 1) := fun u hu => by
  have h1 := h u hu
  have h2 := h t ht
  by_cases e : u = t
  · subst e
    rw [get_set_eq (by omega), wrap64 (by omega)]
    omega
  · rw [get_set_ne (by omega)]
    omega
/-- Who is within. -/
def Wk (C : List Int) (W : List Bool) (i : Nat) : Prop := ∀ t, t < i → (W.getD t false = true ↔ C.getD (1 + t) 0 % 2 = 1)
theorem getb_ne {L : List Bool} {i j : Nat} {v : Bool} (h : i ≠ j) : (L.set i v).getD j false = L.getD j false := by simp [List.getElem?_set_ne h]
theorem getb_eq {L : List Bool} {i : Nat} {v : Bool} (h : i < L.length) : (L.set i v).getD i false = v := by simp [h]
theorem wk_zero (C : List Int) (W : List Bool) : Wk C W 0 := fun t ht => by omega
theorem wk_step {C : List Int} {W : List Bool} {i : Nat} {b : Bool} (h : Wk C W i) (hl : i < W.length) (hb : b = true ↔ C.getD (1 + i) 0 % 2 = 1) : Wk C (W.set i b) (i + 1) := fun t ht => by
  by_cases e : t = i
  · subst e; rw [getb_eq hl]; exact hb
  · rw [getb_ne (by omega)]; exact h t (by omega)
/-- What was snapped, who was within, who has left. -/
def Qui (C S : List Int) (W Z : List Bool) (n : Nat) : Prop := ∀ t, t < n → (W.getD t false = true ↔ S.getD t 0 % 2 = 1) ∧ S.getD t 0 ≤ C.getD (1 + t) 0 ∧
  (S.getD t 0 % 2 = 1 → (Z.getD t false = true → S.getD t 0 < C.getD (1 + t) 0) ∧ (Z.getD t false = false → C.getD (1 + t) 0 = S.getD t 0))
theorem qui_start {C : List Int} {W : List Bool} {n : Nat} (h : Wk C W n) : Qui C (snapL C n) W [false, false, false, false, false, false, false, false] n := fun t ht => by
  rw [snap_get ht]
  refine ⟨h t ht, Int.le_refl _, fun _ => ⟨fun hz => ?_, fun _ => rfl⟩⟩
  exfalso
  have : ∀ t : Nat, ([false, false, false, false, false, false, false, false] : List Bool).getD t false = false := fun t => by
    rcases t with _ | _ | _ | _ | _ | _ | _ | _ | t <;> rfl
  rw [this] at hz
  cases hz
theorem qui_enter {C S : List Int} {W Z : List Bool} {n k t : Nat} (h : Qui C S W Z n) (hk : Okc C n k) (hl : C.length = 65) (hn : n ≤ 64) (ht : t < n) (hk' : k ≤ 1000) (hev : ¬ C.getD (1 + t) 0 % 2 = 1) : Qui (C.set (1 + t) (IntKind.i64.wrap (C.getD (1 + t) 0 + 1))) S W Z n := fun u hu => by
  have h1 := h u hu
  have h2 := hk t ht
  by_cases e : u = t
  · subst e
    rw [get_set_eq (by omega), wrap64 (by omega)]
    refine ⟨h1.1, by omega, fun ho => ⟨fun _ => by omega, fun hz => ?_⟩⟩
    have := (h1.2.2 ho).2 hz
    omega
  · rw [get_set_ne (by omega)]; exact h1
theorem qui_leave {C S : List Int} {W Z : List Bool} {n k t : Nat} (h : Qui C S W Z n) (hk : Okc C n k) (hl : C.length = 65) (hn : n ≤ 8) (hz : Z.length = 8) (ht : t < n) (hk' : k ≤ 1000) : Qui (C.set (1 + t) (IntKind.i64.wrap (C.getD (1 + t) 0 + 1))) S W (Z.set t true) n := fun u hu => by
  have h1 := h u hu
  have h2 := hk t ht
  by_cases e : u = t
  · subst e
    rw [get_set_eq (by omega), wrap64 (by omega), getb_eq (by omega)]
    exact ⟨h1.1, by omega, fun ho => ⟨fun _ => by omega, fun hz => by cases hz⟩⟩
  · rw [get_set_ne (by omega), getb_ne (by omega)]; exact h1
/-- All others, up to t, that were within have left. -/
def allUp (W Z : List Bool) (me : Int) (t : Nat) : Prop := ∀ u, u < t → (u : Int) = me ∨ W.getD u false = false ∨ Z.getD u false = true
theorem all_zero (W Z : List Bool) (me : Int) : allUp W Z me 0 := fun u hu => by omega
theorem all_yes {W Z : List Bool} {me : Int} {t : Nat} (h : allUp W Z me t) (h' : (t : Int) = me ∨ ¬ W.getD t false = true ∨ Z.getD t false = true) : allUp W Z me (t + 1) := fun u hu => by
  by_cases e : u = t
  · subst e
    rcases h' with h' | h' | h'
    · exact .inl h'
    · exact .inr (.inl (by simpa using h'))
    · exact .inr (.inr h')
  · exact h u (by omega)
theorem all_no {W Z : List Bool} {me : Int} {t : Nat} (h1 : ¬ (t : Int) = me) (h2 : W.getD t false = true) (h3 : ¬ Z.getD t false = true) : ¬ allUp W Z me (t + 1) := fun h => by
  rcases h t (by omega) with q | q | q
  · exact h1 q
  · rw [h2] at q; cases q
  · exact h3 q
theorem all_less {W Z : List Bool} {me : Int} {t : Nat} (h : ¬ allUp W Z me t) : ¬ allUp W Z me (t + 1) := fun q => h fun u hu => q u (by omega)
theorem passF_iff {C : List Int} {me : Int} : ∀ (S : List Int) (t : Nat), passF C me t S = true ↔ ∀ u, u < S.length → ((t + u : Nat) : Int) = me ∨ ¬ S.getD u 0 % 2 = 1 ∨ ¬ S.getD u 0 = C.getD (1 + (t + u)) 0
  | [], t => by simp [passF]
  | s :: l, t => by
    rw [passF]
    by_cases hc : (t : Int) ≠ me ∧ s % 2 = 1 ∧ s = C.getD (1 + t) 0
    · rw [if_pos hc]
      constructor
      · intro h; cases h
      · intro h
        rcases h 0 (by simp) with q | q | q
        · exact absurd q (by simpa using hc.1)
        · exact absurd hc.2.1 (by simpa using q)
        · exact absurd hc.2.2 (by simpa using q)
    · rw [if_neg hc, passF_iff l (t + 1)]
      constructor
      · intro h u hu
        rcases u with _ | u
        · simp only [List.getD_cons_zero, Nat.add_zero]
          by_cases h1 : (t : Int) = me
          · exact .inl h1
          · by_cases h2 : s % 2 = 1
            · exact .inr (.inr fun h3 => hc ⟨h1, h2, h3⟩)
            · exact .inr (.inl h2)
        · have := h u (by simpa using hu)
          rw [List.getD_cons_succ, show t + (u + 1) = t + 1 + u by omega]
          exact this
      · intro h u hu
        have := h (u + 1) (by simpa using hu)
        rw [List.getD_cons_succ, show t + (u + 1) = t + 1 + u by omega] at this
        exact this
theorem quiet_iff {C S : List Int} {W Z : List Bool} {n : Nat} {me : Int} (h : Qui C S W Z n) (hS : S.length = n) : passAll C n me S = true ↔ allUp W Z me n := by
  rw [pass_all hS, List.drop_zero, passF_iff]
  constructor
  · intro q u hu
    have h1 := h u hu
    have h2 := q u (by omega)
    rw [Nat.zero_add] at h2
    rcases h2 with h2 | h2 | h2
    · exact .inl h2
    · refine .inr (.inl ?_)
      cases hw : W.getD u false with
      | false => rfl
      | true => exact absurd (h1.1.1 hw) h2
    · cases hz : Z.getD u false with
      | true => exact .inr (.inr rfl)
      | false =>
        refine .inr (.inl ?_)
        cases hw : W.getD u false with
        | false => rfl
        | true => exact absurd ((h1.2.2 (h1.1.1 hw)).2 hz).symm h2
  · intro q u hu
    have h1 := h u (by omega)
    rw [Nat.zero_add]
    rcases q u (by omega) with h2 | h2 | h2
    · exact .inl h2
    · refine .inr (.inl fun ho => ?_)
      rw [h1.1.2 ho] at h2
      cases h2
    · by_cases ho : S.getD u 0 % 2 = 1
      · exact .inr (.inr fun e => by have := (h1.2.2 ho).1 h2; omega)
      · exact .inr (.inl ho)
theorem pass_enter {C S : List Int} {W Z : List Bool} {n k t : Nat} {me : Int} (h : Qui C S W Z n) (hS : S.length = n) (hk : Okc C n k) (hl : C.length = 65) (hn : n ≤ 64) (ht : t < n) (hk' : k ≤ 1000) (hev : ¬ C.getD (1 + t) 0 % 2 = 1) (hp : passAll C n me S = true) : passAll (C.set (1 + t) (IntKind.i64.wrap (C.getD (1 + t) 0 + 1))) n me S = true :=
  (quiet_iff (qui_enter h hk hl hn ht hk' hev) hS).2 ((quiet_iff h hS).1 hp)
theorem pass_leave {C S : List Int} {W Z : List Bool} {n k t : Nat} {me : Int} (h : Qui C S W Z n) (hS : S.length = n) (hk : Okc C n k) (hl : C.length = 65) (hn : n ≤ 8) (hz : Z.length = 8) (ht : t < n) (hk' : k ≤ 1000) (hp : passAll C n me S = true) : passAll (C.set (1 + t) (IntKind.i64.wrap (C.getD (1 + t) 0 + 1))) n me S = true := by
  refine (quiet_iff (qui_leave h hk hl hn hz ht hk') hS).2 fun u hu => ?_
  rcases (quiet_iff h hS).1 hp u hu with q | q | q
  · exact .inl q
  · exact .inr (.inl q)
  · refine .inr (.inr ?_)
    by_cases e : u = t
    · subst e; exact getb_eq (by omega)
    · rw [getb_ne (by omega)]; exact q
end Ev
end Go.Proofs.Ytonffldokhnmoaa
