/- Functions of many loops: one behind the other, one in another. -/
import Derived.Test.YtgnmjjakmeomiaaEvC2
namespace Go.Proofs.Ytgnmjjakmeomiaa
open Go.RowKit
namespace Ev
section
variable {P : Program} {ext : FuncId → Option Ext}
variable {fn : Func} {pre : List AObj} {v : Value} {po : List (Option AObj)} {X : Type} {m i : Nat} {L : X → List (Nat × Value)} {H : X → List AObj} {μ : X → Nat} {bd : X → List Nat} {Gb : List Nat → Ren → World → (Nat → Act → World → Prop) → Prop} {x : X} {c : Code} {K : List ZaY} {T0 : Tr Value} {fu : Nat} {orc : Orc} {live : List Nat} {bl : List (Option AObj)} {ob : List (Bool × Bool)}
end
/-! ### A law -/
def ιRo (bs : List Nat) : Ren := fun k => (bs[k]?).map fun b => (b, 0)
theorem Zoh {P : Program} {f : FuncId} {A : Array Value} {pre : List AObj} {post : List (Option AObj)} {v : Value} (h : LSpec P f A pre v post) {w : World} {args' : Array Value} (bs : List Nat) (hl : bs.length = pre.length) (hro : ∀ (j : Nat) (o : AObj), pre[j]? = some o → ∃ (O : Obj) (b : Nat), o = AObj.ro O ∧ bs[j]? = some b ∧ w.heap[b]? = some O) (ha : VRs (ιRo bs) A args') (hv : Zdm v = true) : Calls P f args' w (Ret v w) := by
 have hdom : ∀ k, ιRo bs k ≠ none → k < pre.length := fun k hk => by
  unfold ιRo at hk
  rcases Nat.lt_or_ge k bs.length with h | h
  ·omega
  ·rw [List.getElem?_eq_none h] at hk; exact absurd rfl hk
 have hC : ∀ k, isC (lk pre k) = false := fun k => by
  unfold lk
  cases hk : pre[k]? with
  | none => rfl
  | some o => obtain ⟨O, b, rfl, _⟩ := hro k o hk; rfl
 have he : Emb P (ιRo bs) (lk pre) w := by
  refine ⟨fun k c t hk => ?_, fun k O hk => ?_, fun k k' b1 b2 h1 => ?_, fun k b1 hk => ?_⟩
  ·obtain ⟨O, b, h1, _⟩ := hro k _ hk; cases h1
  ·obtain ⟨O', b, h1, h2, h3⟩ := hro k _ hk
   injection h1 with h1; subst h1
   exact ⟨(b, 0), by simp [ιRo, h2], h3⟩
  ·rw [hC k] at h1; cases h1
  ·have hlt := hdom k (by rw [hk]; simp)
   obtain ⟨O, b, _, h2, h3⟩ := hro k _ (List.getElem?_eq_getElem hlt)
   simp [ιRo, h2] at hk
   rw [← hk]
   exact (Array.getElem?_eq_some_iff.1 h3).1
 refine (h (ιRo bs) w args' hdom ha he).mono ?_
 rintro e w' ⟨v', ι', rfl, hS, _, hvr⟩
 have := hvr.eq_of_free hv
 subst this
 exact ⟨rfl, hS.os, hS.tape, hS.output, hS.size, fun b hb => hS.frame b hb fun k c hk => by rw [hC k] at hk; cases hk⟩
end Ev
end Go.Proofs.Ytgnmjjakmeomiaa
