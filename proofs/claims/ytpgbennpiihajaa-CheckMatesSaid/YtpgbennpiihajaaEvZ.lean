/- How runs of functions with loops are written: what is looked at of a stop, and rows of numbers. -/
import Derived.Test.YtpgbennpiihajaaEvY
import Derived.Test.YtpgbennpiihajaaFlat
namespace Go.Proofs.Ytpgbennpiihajaa
open Go.RowKit
namespace Ev
/-! ### Where a loop stands -/
def Zcm : List Nat → Code → List ZaO → Code × List ZaO
  | [], .loop a, K => (a, K)
  | 0 :: p, .seq a b, K => Zcm p a (.seq b :: K)
  | 1 :: p, .seq _ b, K => Zcm p b K
  | 2 :: p, .scope a, K => Zcm p a (.scp :: K)
  | 3 :: p, .block i a, K => Zcm p a (.blk i :: K)
  | 4 :: p, .cond _ a _, K => Zcm p a K
  | 5 :: p, .cond _ _ b, K => Zcm p b K
  | (n + 6) :: p, .loop a, K => Zcm p a (.rnd n :: K)
  | _, _, K => (.skip, K)
def Zc1 (fn : Func) : Code := match fn.body with | some c => c | none => .skip
noncomputable section
def ZsN (live : List Nat) (r : Option Stop) : Option (Value × List (Option AObj) × List (Bool × Bool)) :=
  match r with
  | some (.fin u s) => bif Nat.ble s.n 1000000000 then some (u, live.map s.h.get, s.ob) else none
  | _ => none
end
theorem ZtP {live : List Nat} {r : Option Stop} {u : Value} {bl : List (Option AObj)} {ob : List (Bool × Bool)} (h : ZsN live r = some (u, bl, ob)) : ∃ s, r = some (.fin u s) ∧ live.map s.h.get = bl ∧ s.ob = ob ∧ s.n ≤ far := by
  unfold ZsN at h
  split at h
  · rename_i u' s
    obtain ⟨hn, h⟩ := Z8 h
    injection h with h
    simp only [Prod.mk.injEq] at h
    obtain ⟨rfl, rfl, rfl⟩ := h
    exact ⟨s, rfl, rfl, rfl, Nat.le_of_ble_eq_true hn⟩
  · cases h
def Zo5 (ρ : Nat → Nat) : AObj → AObj → Prop
  | .ro O, .ro O' => O = O'
  | .cells c t, .cells c' t' => t = t' ∧ (∃ r, c.map (ZbL ρ 1) = c' ++ r) ∧ ZH (Zbv 1) c = true
  | _, _ => False
def ZdE (ρ : Nat → Nat) : List (Option AObj) → List (Option AObj) → Prop
  | _, [] => True
  | some o :: bl, some p :: l => Zo5 ρ o p ∧ ZdE ρ bl l
  | _ :: bl, none :: l => ZdE ρ bl l
  | _, _ => False
def Zhf (ρ : Nat → Nat) : List (Option Value) → List (Nat × Value) → Prop
  | _, [] => True
  | some u :: tv, x :: l => (x.2 = ZbL ρ 3 u ∧ Zbv 3 u = true) ∧ Zhf ρ tv l
  | _, _ => False
theorem Zhg {ρ : Nat → Nat} {h : AH} : ∀ {live : List Nat} {l : List (Option AObj)}, ZdE ρ (live.map h) l → ∀ j o, lkO l j = some o → ∃ k, live[j]? = some k ∧ match o with
      | .ro O => h k = some (.ro O)
      | .cells c t => ∃ c' r, h k = some (.cells c' t) ∧ c'.map (ZbL ρ 1) = c ++ r ∧ ZH (Zbv 1) c' = true
  | live, [], _, j, o, hj => by simp [lkO] at hj
  | [], x :: l, hb, j, o, hj => by cases x <;> exact hb.elim
  | k :: live, none :: l, hb, j, o, hj => by
    have hb' : ZdE ρ (live.map h) l := by
      simp only [List.map_cons] at hb
      cases hk : h k <;> rw [hk] at hb <;> exact hb
    cases j with
    | zero => simp [lkO] at hj
    | succ j => obtain ⟨k', q1, q2⟩ := Zhg hb' j o (by simpa [lkO] using hj); exact ⟨k', by simpa using q1, q2⟩
  | k :: live, some p :: l, hb, j, o, hj => by
    simp only [List.map_cons] at hb
    cases hk : h k with
    | none => rw [hk] at hb; exact hb.elim
    | some o1 =>
      rw [hk] at hb
      cases j with
      | zero =>
        have : p = o := by simpa [lkO] using hj
        subst this
        refine ⟨k, rfl, ?_⟩
        have h1 := hb.1
        cases o1 <;> cases p <;> simp only [Zo5] at h1
        · obtain ⟨rfl, ⟨r, hr⟩, hs⟩ := h1; exact ⟨_, r, hk, hr, hs⟩
        · subst h1; exact hk
      | succ j => obtain ⟨k', q1, q2⟩ := Zhg hb.2 j o (by simpa [lkO] using hj); exact ⟨k', by simpa using q1, q2⟩
theorem ZsO {ρ : Nat → Nat} {T : Tr Value} : ∀ {l : List (Nat × Value)}, Zhf ρ ((l.map (·.1)).map T.get) l → ∀ t v, look t l = some v → v = ZbL ρ 3 ((T.get t).getD undef) ∧ Zbv 3 ((T.get t).getD undef) = true
  | [], _, t, v, h => by cases h
  | x :: l, ht, t, v, h => by
    simp only [List.map_cons] at ht
    cases hx : T.get x.1 with
    | none => rw [hx] at ht; exact ht.elim
    | some u =>
      rw [hx] at ht
      unfold look at h
      cases hb : Nat.beq x.1 t with
      | true =>
        rw [hb] at h
        injection h with h
        obtain rfl := Nat.eq_of_beq_eq_true hb
        subst h
        rw [hx]
        exact ht.1
      | false => rw [hb] at h; exact ZsO ht.2 t v h
section
variable {P : Program} {ext : FuncId → Option Ext}
end
/-! ### Rows of numbers -/
theorem wrap_i64 {x : Int} (h : -9223372036854775808 ≤ x ∧ x ≤ 9223372036854775807) : IntKind.i64.wrap x = x := Zw3 (by omega)
theorem ZsP {x : Int} (h : 0 ≤ x ∧ x ≤ 18446744073709551615) : IntKind.u64.wrap x = x := by
  have e : IntKind.u64.wrap x = x % 18446744073709551616 := by simp [IntKind.wrap, IntKind.bits, IntKind.signed]
  rw [e]; omega
theorem Zad {k o o' n n' c c' : Nat} (h1 : o = o') (h2 : n = n') (h3 : c = c') : Value.slice (some ⟨k, o, none⟩) n c = .slice (some ⟨k, o', none⟩) n' c' := by rw [h1, h2, h3]
theorem Zc {α : Type} {a b : α} {l r : List α} (h : a = b) (t : l = r) : a :: l = b :: r := by rw [h, t]
theorem Zda {l r : List Value} (h : l = r) : Value.agg l.toArray = .agg r.toArray := by rw [h]
theorem Zj1 {l r : List Value} (h : l = r) : Value.tuple l.toArray = .tuple r.toArray := by rw [h]
/-! ### Rows of bools -/
/-! ### Rows of the caller's -/
def Zo6 (O : Obj) (o : Nat) (l : List Cell) : Prop := ∀ f m, f + m ≤ l.length → Zz (ZC O (o + f) m) ((l.drop f).take m) = true
theorem ZuH {x : Value} {b : Cell} {c : List Value} {l : List Cell} (h : Zb9 [x] [b] = true) (t : Zb9 c l = true) : Zb9 (x :: c) (b :: l) = true := by
  cases x <;> cases b <;> first | (rename_i k _ _; cases k <;> simp_all [Zb9]) | simp_all [Zb9]
theorem Zw5 {C : Array Value} {t : TypeId} {fr : Nat × Nat} {o : Nat} : ∀ {l : List Cell}, (∀ (j : Nat) (b : Cell), l[j]? = some b → ∃ x, C[o + j]? = some x ∧ Zb9 [x] [b] = true) → Zo6 (.cells C t fr) o l := by
  intro l h f m hfm
  show Zz (Z7 m (C.toList.drop (o + f))) _ = true
  have key : ∀ (m f : Nat), f + m ≤ l.length → Zz (Z7 m (C.toList.drop (o + f))) ((l.drop f).take m) = true := by
    intro m
    induction m with
    | zero => intro f _; simp [Z7, Zz, Zb9]
    | succ m ih =>
      intro f hf
      obtain ⟨x, hx, hs⟩ := h f l[f] (List.getElem?_eq_getElem (by omega))
      have hlt : o + f < C.toList.length := by
        have := (Array.getElem?_eq_some_iff.1 hx).1
        simpa using this
      have hx' : C.toList[o + f] = x := by
        have := Array.getElem?_eq_some_iff.1 hx
        obtain ⟨h1, h2⟩ := this
        simpa using h2
      rw [List.drop_eq_getElem_cons hlt, hx', List.drop_eq_getElem_cons (show f < l.length by omega), List.take_succ_cons]
      have r := ih (f + 1) (by omega)
      rw [show o + (f + 1) = o + f + 1 by omega] at r
      simp only [Z7]
      cases ht : Z7 m (C.toList.drop (o + f + 1)) with
      | none => rw [ht] at r; simp [Zz] at r
      | some c =>
        rw [ht] at r
        exact ZuH hs r
  exact key m f hfm
end Ev
end Go.Proofs.Ytpgbennpiihajaa
