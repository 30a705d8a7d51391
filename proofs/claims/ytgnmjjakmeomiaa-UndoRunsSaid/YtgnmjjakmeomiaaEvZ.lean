/- How runs of functions with loops are written: what is looked at of a stop, and rows of numbers. -/
import Derived.Test.YtgnmjjakmeomiaaEvY
import Derived.Test.YtgnmjjakmeomiaaFlat
namespace Go.Proofs.Ytgnmjjakmeomiaa
open Go.RowKit
namespace Ev
/-! ### Where a loop stands -/
def ZcR : List Nat → Code → List ZaY → Code × List ZaY
  | [], .loop a, K => (a, K)
  | 0 :: p, .seq a b, K => ZcR p a (.seq b :: K)
  | 1 :: p, .seq _ b, K => ZcR p b K
  | 2 :: p, .scope a, K => ZcR p a (.scp :: K)
  | 3 :: p, .block i a, K => ZcR p a (.blk i :: K)
  | 4 :: p, .cond _ a _, K => ZcR p a K
  | 5 :: p, .cond _ _ b, K => ZcR p b K
  | (n + 6) :: p, .loop a, K => ZcR p a (.rnd n :: K)
  | _, _, K => (.skip, K)
def ZdJ (fn : Func) : Code := match fn.body with | some c => c | none => .skip
noncomputable section
def Zmu (live : List Nat) (r : Option Stop) : Option (Value × List (Option AObj) × List (Bool × Bool)) :=
  match r with
  | some (.fin u s) => bif Nat.ble s.n 1000000000 then some (u, live.map s.h.get, s.ob) else none
  | _ => none
end
theorem ZmW {live : List Nat} {r : Option Stop} {u : Value} {bl : List (Option AObj)} {ob : List (Bool × Bool)} (h : Zmu live r = some (u, bl, ob)) : ∃ s, r = some (.fin u s) ∧ live.map s.h.get = bl ∧ s.ob = ob ∧ s.n ≤ far := by
  unfold Zmu at h
  split at h
  · rename_i u' s
    obtain ⟨hn, h⟩ := Zr h
    injection h with h
    simp only [Prod.mk.injEq] at h
    obtain ⟨rfl, rfl, rfl⟩ := h
    exact ⟨s, rfl, rfl, rfl, Nat.le_of_ble_eq_true hn⟩
  · cases h
def Zjy (ρ : Nat → Nat) : AObj → AObj → Prop
  | .ro O, .ro O' => O = O'
  | .cells c t, .cells c' t' => t = t' ∧ (∃ r, c.map (ZaC ρ 1) = c' ++ r) ∧ Zu (Zaf 1) c = true
  | _, _ => False
def Za9 (ρ : Nat → Nat) : List (Option AObj) → List (Option AObj) → Prop
  | _, [] => True
  | some o :: bl, some p :: l => Zjy ρ o p ∧ Za9 ρ bl l
  | _ :: bl, none :: l => Za9 ρ bl l
  | _, _ => False
def Zdn (ρ : Nat → Nat) : List (Option Value) → List (Nat × Value) → Prop
  | _, [] => True
  | some u :: tv, x :: l => (x.2 = ZaC ρ 3 u ∧ Zaf 3 u = true) ∧ Zdn ρ tv l
  | _, _ => False
theorem ZdD {ρ : Nat → Nat} {h : AH} : ∀ {live : List Nat} {l : List (Option AObj)}, Za9 ρ (live.map h) l → ∀ j o, lkO l j = some o → ∃ k, live[j]? = some k ∧ match o with
      | .ro O => h k = some (.ro O)
      | .cells c t => ∃ c' r, h k = some (.cells c' t) ∧ c'.map (ZaC ρ 1) = c ++ r ∧ Zu (Zaf 1) c' = true
  | live, [], _, j, o, hj => by simp [lkO] at hj
  | [], x :: l, hb, j, o, hj => by cases x <;> exact hb.elim
  | k :: live, none :: l, hb, j, o, hj => by
    have hb' : Za9 ρ (live.map h) l := by
      simp only [List.map_cons] at hb
      cases hk : h k <;> rw [hk] at hb <;> exact hb
    cases j with
    | zero => simp [lkO] at hj
    | succ j => obtain ⟨k', q1, q2⟩ := ZdD hb' j o (by simpa [lkO] using hj); exact ⟨k', by simpa using q1, q2⟩
  | k :: live, some p :: l, hb, j, o, hj => by
    simp only [List.map_cons] at hb
    cases hk : h k with
    | none => rw [hk] at hb; exact hb.elim
    | some o1 =>
      rw [hk] at hb
      cases j with
      | zero =>
        have : p = o := by simpa [lkO] using hj
        subst this
        refine ⟨k, rfl, ?_⟩
        have h1 := hb.1
        cases o1 <;> cases p <;> simp only [Zjy] at h1
        · obtain ⟨rfl, ⟨r, hr⟩, hs⟩ := h1; exact ⟨_, r, hk, hr, hs⟩
        · subst h1; exact hk
      | succ j => obtain ⟨k', q1, q2⟩ := ZdD hb.2 j o (by simpa [lkO] using hj); exact ⟨k', by simpa using q1, q2⟩
theorem Zmv {ρ : Nat → Nat} {T : Tr Value} : ∀ {l : List (Nat × Value)}, Zdn ρ ((l.map (·.1)).map T.get) l → ∀ t v, ZH t l = some v → v = ZaC ρ 3 ((T.get t).getD undef) ∧ Zaf 3 ((T.get t).getD undef) = true
  | [], _, t, v, h => by cases h
  | x :: l, ht, t, v, h => by
    simp only [List.map_cons] at ht
    cases hx : T.get x.1 with
    | none => rw [hx] at ht; exact ht.elim
    | some u =>
      rw [hx] at ht
      unfold ZH at h
      cases hb : Nat.beq x.1 t with
      | true =>
        rw [hb] at h
        injection h with h
        obtain rfl := Nat.eq_of_beq_eq_true hb
        subst h
        rw [hx]
        exact ht.1
      | false => rw [hb] at h; exact Zmv ht.2 t v h
section
variable {P : Program} {ext : FuncId → Option Ext}
end
/-! ### Rows of numbers -/
theorem wrap_i64 {x : Int} (h : -9223372036854775808 ≤ x ∧ x ≤ 9223372036854775807) : IntKind.i64.wrap x = x := Zpq (by omega)
theorem Zx {k o o' n n' c c' : Nat} (h1 : o = o') (h2 : n = n') (h3 : c = c') : Value.slice (some ⟨k, o, none⟩) n c = .slice (some ⟨k, o', none⟩) n' c' := by rw [h1, h2, h3]
theorem Zh {α : Type} {a b : α} {l r : List α} (h : a = b) (t : l = r) : a :: l = b :: r := by rw [h, t]
theorem ZkH {l r : List Value} (h : l = r) : Value.agg l.toArray = .agg r.toArray := by rw [h]
theorem ZhM {l r : List Value} (h : l = r) : Value.tuple l.toArray = .tuple r.toArray := by rw [h]
/-! ### Rows of bools -/
/-! ### Rows of the caller's -/
def Zjz (O : Obj) (o : Nat) (l : List Cell) : Prop := ∀ f m, f + m ≤ l.length → Zo (Zq O (o + f) m) ((l.drop f).take m) = true
theorem ZnJ {x : Value} {b : Cell} {c : List Value} {l : List Cell} (h : Zaz [x] [b] = true) (t : Zaz c l = true) : Zaz (x :: c) (b :: l) = true := by
  cases x <;> cases b <;> first | (rename_i k _ _; cases k <;> simp_all [Zaz]) | simp_all [Zaz]
theorem Zpt {C : Array Value} {t : TypeId} {fr : Nat × Nat} {o : Nat} : ∀ {l : List Cell}, (∀ (j : Nat) (b : Cell), l[j]? = some b → ∃ x, C[o + j]? = some x ∧ Zaz [x] [b] = true) → Zjz (.cells C t fr) o l := by
  intro l h f m hfm
  show Zo (Zv m (C.toList.drop (o + f))) _ = true
  have key : ∀ (m f : Nat), f + m ≤ l.length → Zo (Zv m (C.toList.drop (o + f))) ((l.drop f).take m) = true := by
    intro m
    induction m with
    | zero => intro f _; simp [Zv, Zo, Zaz]
    | succ m ih =>
      intro f hf
      obtain ⟨x, hx, hs⟩ := h f l[f] (List.getElem?_eq_getElem (by omega))
      have hlt : o + f < C.toList.length := by
        have := (Array.getElem?_eq_some_iff.1 hx).1
        simpa using this
      have hx' : C.toList[o + f] = x := by
        have := Array.getElem?_eq_some_iff.1 hx
        obtain ⟨h1, h2⟩ := this
        simpa using h2
      rw [List.drop_eq_getElem_cons hlt, hx', List.drop_eq_getElem_cons (show f < l.length by omega), List.take_succ_cons]
      have r := ih (f + 1) (by omega)
      rw [show o + (f + 1) = o + f + 1 by omega] at r
      simp only [Zv]
      cases ht : Zv m (C.toList.drop (o + f + 1)) with
      | none => rw [ht] at r; simp [Zo] at r
      | some c =>
        rw [ht] at r
        exact ZnJ hs r
  exact key m f hfm
end Ev
end Go.Proofs.Ytgnmjjakmeomiaa
