/- How runs of functions with loops are written: what is looked at of a stop, and rows of numbers. -/
import Derived.Test.YtaahblgahilohaaEvY
import Derived.Test.YtaahblgahilohaaFlat
namespace Go.Proofs.Ytaahblgahilohaa
open Go.RowKit
namespace Ev
/-! ### Where a loop stands -/
/-- 0, 1: the first, the second part; 2: in a scope; 3: in a block; 4, 5: the one way, the other one; 6 and more: in a loop's round, of that number less 6. -/
def headOf : List Nat → Code → List Kont → Code × List Kont
  | [], .loop a, K => (a, K)
  | 0 :: p, .seq a b, K => headOf p a (.seq b :: K)
  | 1 :: p, .seq _ b, K => headOf p b K
  | 2 :: p, .scope a, K => headOf p a (.scp :: K)
  | 3 :: p, .block i a, K => headOf p a (.blk i :: K)
  | 4 :: p, .cond _ a _, K => headOf p a K
  | 5 :: p, .cond _ _ b, K => headOf p b K
  | (n + 6) :: p, .loop a, K => headOf p a (.rnd n :: K)
  | _, _, K => (.skip, K)
def bodyC (fn : Func) : Code := match fn.body with | some c => c | none => .skip
noncomputable section
def outFin (live : List Nat) (r : Option Stop) : Option (Value × List (Option AObj) × List (Bool × Bool)) :=
  match r with
  | some (.fin u s) => bif Nat.ble s.n 1000000000 then some (u, live.map s.h.get, s.ob) else none
  | _ => none
end
theorem outFin_spec {live : List Nat} {r : Option Stop} {u : Value} {bl : List (Option AObj)} {ob : List (Bool × Bool)} (h : outFin live r = some (u, bl, ob)) : ∃ s, r = some (.fin u s) ∧ live.map s.h.get = bl ∧ s.ob = ob ∧ s.n ≤ far := by
  unfold outFin at h
  split at h
  · rename_i u' s
    obtain ⟨hn, h⟩ := bif_some h
    injection h with h
    simp only [Prod.mk.injEq] at h
    obtain ⟨rfl, rfl, rfl⟩ := h
    exact ⟨s, rfl, rfl, rfl, Nat.le_of_ble_eq_true hn⟩
  · cases h
/-- A block, its numbers anew, is (at its beginning) another one. -/
def sameRen (ρ : Nat → Nat) : AObj → AObj → Prop
  | .ro O, .ro O' => O = O'
  | .cells c t, .cells c' t' => t = t' ∧ (∃ r, c.map (renV ρ 1) = c' ++ r) ∧ allB (shallow 1) c = true
  | _, _ => False
def BlocksOK (ρ : Nat → Nat) : List (Option AObj) → List (Option AObj) → Prop
  | _, [] => True
  | some o :: bl, some p :: l => sameRen ρ o p ∧ BlocksOK ρ bl l
  | _ :: bl, none :: l => BlocksOK ρ bl l
  | _, _ => False
def TempsOK (ρ : Nat → Nat) : List (Option Value) → List (Nat × Value) → Prop
  | _, [] => True
  | some u :: tv, x :: l => (x.2 = renV ρ 3 u ∧ shallow 3 u = true) ∧ TempsOK ρ tv l
  | _, _ => False
theorem blocks_at {ρ : Nat → Nat} {h : AH} : ∀ {live : List Nat} {l : List (Option AObj)}, BlocksOK ρ (live.map h) l → ∀ j o, lkO l j = some o → ∃ k, live[j]? = some k ∧ match o with
      | .ro O => h k = some (.ro O)
      | .cells c t => ∃ c' r, h k = some (.cells c' t) ∧ c'.map (renV ρ 1) = c ++ r ∧ allB (shallow 1) c' = true
  | live, [], _, j, o, hj => by simp [lkO] at hj
  | [], x :: l, hb, j, o, hj => by cases x <;> exact hb.elim
  | k :: live, none :: l, hb, j, o, hj => by
    have hb' : BlocksOK ρ (live.map h) l := by
      simp only [List.map_cons] at hb
      cases hk : h k <;> rw [hk] at hb <;> exact hb
    cases j with
    | zero => simp [lkO] at hj
    | succ j => obtain ⟨k', q1, q2⟩ := blocks_at hb' j o (by simpa [lkO] using hj); exact ⟨k', by simpa using q1, q2⟩
  | k :: live, some p :: l, hb, j, o, hj => by
    simp only [List.map_cons] at hb
    cases hk : h k with
    | none => rw [hk] at hb; exact hb.elim
    | some o1 =>
      rw [hk] at hb
      cases j with
      | zero =>
        have : p = o := by simpa [lkO] using hj
        subst this
        refine ⟨k, rfl, ?_⟩
        have h1 := hb.1
        cases o1 <;> cases p <;> simp only [sameRen] at h1
        · obtain ⟨rfl, ⟨r, hr⟩, hs⟩ := h1; exact ⟨_, r, hk, hr, hs⟩
        · subst h1; exact hk
      | succ j => obtain ⟨k', q1, q2⟩ := blocks_at hb.2 j o (by simpa [lkO] using hj); exact ⟨k', by simpa using q1, q2⟩
theorem temps_at {ρ : Nat → Nat} {T : Tr Value} : ∀ {l : List (Nat × Value)}, TempsOK ρ ((l.map (·.1)).map T.get) l → ∀ t v, look t l = some v → v = renV ρ 3 ((T.get t).getD undef) ∧ shallow 3 ((T.get t).getD undef) = true
  | [], _, t, v, h => by cases h
  | x :: l, ht, t, v, h => by
    simp only [List.map_cons] at ht
    cases hx : T.get x.1 with
    | none => rw [hx] at ht; exact ht.elim
    | some u =>
      rw [hx] at ht
      unfold look at h
      cases hb : Nat.beq x.1 t with
      | true =>
        rw [hb] at h
        injection h with h
        obtain rfl := Nat.eq_of_beq_eq_true hb
        subst h
        rw [hx]
        exact ht.1
      | false => rw [hb] at h; exact temps_at ht.2 t v h
section
variable {P : Program} {ext : FuncId → Option Ext}
end
/-! ### Rows of numbers -/
theorem wrap_i64 {x : Int} (h : -9223372036854775808 ≤ x ∧ x ≤ 9223372036854775807) : IntKind.i64.wrap x = x := wrap64 (by omega)
theorem wrap_u8 {x : Int} (h : 0 ≤ x ∧ x ≤ 255) : IntKind.u8.wrap x = x := by
  have e : IntKind.u8.wrap x = x % 256 := by simp [IntKind.wrap, IntKind.bits, IntKind.signed]
  rw [e]; omega
theorem wrap_u64 {x : Int} (h : 0 ≤ x ∧ x ≤ 18446744073709551615) : IntKind.u64.wrap x = x := by
  have e : IntKind.u64.wrap x = x % 18446744073709551616 := by simp [IntKind.wrap, IntKind.bits, IntKind.signed]
  rw [e]; omega
theorem slice_eq {k o o' n n' c c' : Nat} (h1 : o = o') (h2 : n = n') (h3 : c = c') : Value.slice (some ⟨k, o, none⟩) n c = .slice (some ⟨k, o', none⟩) n' c' := by rw [h1, h2, h3]
theorem cons_eq {α : Type} {a b : α} {l r : List α} (h : a = b) (t : l = r) : a :: l = b :: r := by rw [h, t]
theorem agg_eq {l r : List Value} (h : l = r) : Value.agg l.toArray = .agg r.toArray := by rw [h]
theorem tuple_eq {l r : List Value} (h : l = r) : Value.tuple l.toArray = .tuple r.toArray := by rw [h]
/-! ### Rows of bools -/
/-! ### Rows of the caller's -/
/-- What is told of a row of the caller's that begins at o. -/
def RowOK (O : Obj) (o : Nat) (l : List Cell) : Prop := ∀ f m, f + m ≤ l.length → sameR (roRow O (o + f) m) ((l.drop f).take m) = true
theorem sameC_cons {x : Value} {b : Cell} {c : List Value} {l : List Cell} (h : sameC [x] [b] = true) (t : sameC c l = true) : sameC (x :: c) (b :: l) = true := by
  cases x <;> cases b <;> first | (rename_i k _ _; cases k <;> simp_all [sameC]) | simp_all [sameC]
theorem takeN_of {α : Type} {m : Nat} {l r : List α} (h : takeN m l = some r) : m ≤ l.length ∧ r = l.take m := by
  obtain ⟨h1, h2⟩ := takeN_spec h
  exact ⟨h2, h1⟩
/-- A row whose cells are told one by one. -/
theorem row_ok {C : Array Value} {t : TypeId} {fr : Nat × Nat} {o : Nat} : ∀ {l : List Cell}, (∀ (j : Nat) (b : Cell), l[j]? = some b → ∃ x, C[o + j]? = some x ∧ sameC [x] [b] = true) → RowOK (.cells C t fr) o l := by
  intro l h f m hfm
  show sameR (takeN m (C.toList.drop (o + f))) _ = true
  have key : ∀ (m f : Nat), f + m ≤ l.length → sameR (takeN m (C.toList.drop (o + f))) ((l.drop f).take m) = true := by
    intro m
    induction m with
    | zero => intro f _; simp [takeN, sameR, sameC]
    | succ m ih =>
      intro f hf
      obtain ⟨x, hx, hs⟩ := h f l[f] (List.getElem?_eq_getElem (by omega))
      have hlt : o + f < C.toList.length := by
        have := (Array.getElem?_eq_some_iff.1 hx).1
        simpa using this
      have hx' : C.toList[o + f] = x := by
        have := Array.getElem?_eq_some_iff.1 hx
        obtain ⟨h1, h2⟩ := this
        simpa using h2
      rw [List.drop_eq_getElem_cons hlt, hx', List.drop_eq_getElem_cons (show f < l.length by omega), List.take_succ_cons]
      have r := ih (f + 1) (by omega)
      rw [show o + (f + 1) = o + f + 1 by omega] at r
      simp only [takeN]
      cases ht : takeN m (C.toList.drop (o + f + 1)) with
      | none => rw [ht] at r; simp [sameR] at r
      | some c =>
        rw [ht] at r
        exact sameC_cons hs r
  exact key m f hfm
end Ev
end Go.Proofs.Ytaahblgahilohaa
