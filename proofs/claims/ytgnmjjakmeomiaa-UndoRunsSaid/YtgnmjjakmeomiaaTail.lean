/- A region that draws its order, whose first operations only read (and make memory in calls), and whose last ones, in a forced order among themselves, make and write new memory: but these may come up early. -/
import Derived.Test.YtgnmjjakmeomiaaLib
import Derived.StillTail
import Derived.OrdersHeld
import Derived.WideBlind
namespace Go.Proofs.Ytgnmjjakmeomiaa
open Go.RowKit

section
variable {P : Program}

def Calm (P : Program) (W : World) (o : Oper) (a : Act) (v : Value) : Prop :=
 ∀ w, Below W.heap.size W w → o.quietAt P a (fun w' => Below w.heap.size w w') w v

def YieldsC (P : Program) (ops : Array Oper) (W : World) (o : Oper) (v : Value) (a : Act) : Prop :=
 (Region.wanted o (yielded ops a.tmps) = true ∧ Calm P W o a v) ∨ (Region.wanted o (yielded ops a.tmps) = false ∧ v = undef)
theorem ZlA {a b c : World} (h : Below a.heap.size a b) (k : Below b.heap.size b c) : Below a.heap.size a c := h.trans (k.mono h.size)

def Closed (md : Region.Mode) (ops : Array Oper) (listed : Array Bool) : Prop :=
 ∀ j oj, ops[j]? = some oj → listed.getD j false = true → ∀ e ∈ oj.after, Region.binds md e = true → listed.getD e.on false = true
def ZmC (md : Region.Mode) (ops : Array Oper) : Nat → Nat → Nat → Bool
 | 0, _, _ => false
 | f + 1, t, i => Region.waitsFor md ops t i || (List.range ops.size).any fun k => Region.waitsFor md ops t k && ZmC md ops f k i
theorem Closed.waits {md : Region.Mode} {ops : Array Oper} {listed : Array Bool} (h : Closed md ops listed) : ∀ (f t i : Nat), listed.getD t false = true → ZmC md ops f t i = true → listed.getD i false = true
 | 0, _, _, _, hw => by cases hw
 | f + 1, t, i, ht, hw => by
  simp only [ZmC, Bool.or_eq_true, List.any_eq_true, Bool.and_eq_true] at hw
  rcases hw with hw | ⟨k, _, hw, hr⟩
  ·obtain ⟨o, ho, e, he, hb, rfl⟩ := Region.waitsFor_spec hw
   exact h t o ho ht e he hb
  ·obtain ⟨o, ho, e, he, hb, rfl⟩ := Region.waitsFor_spec hw
   exact h.waits f e.on i (h t o ho ht e he hb) hr

theorem YieldsC.wpOp {ops : Array Oper} {W : World} {i : Nat} {o : Oper} {v : Value} {a : Act} {w : World} (hi : ops[i]? = some o) (hy : YieldsC P ops W o v a) (hb : Below W.heap.size W w)
  {K : Act → World → Prop} {Q : Exit → Act → World → Prop} (h : ∀ w', Below w.heap.size w w' → K (a.put o.dst v) w') : wpOp P ops Q i K a w := by
 unfold Go.wpOp
 simp only [hi]
 rcases hy with ⟨hw, hv⟩ | ⟨hw, rfl⟩
 ·simp only [hw, if_true]
  exact .inl (Oper.wp_of_quiet (C := fun w' => Below w.heap.size w w') (K := fun a' => a' = a.put o.dst v) (Below.refl _ _) (fun a' w' hw' ha => by subst ha; exact h w' hw')
   ⟨v, fun w1 hw1 => by
    have h1 := hv w1 (ZlA hb hw1)
    unfold Oper.quietAt at h1 ⊢
    generalize (execOp a.eval o).run P w1 = r at *
    cases r with
    | ok n w' =>
     cases n <;> simp only [Oper.quietUpon] at h1 ⊢
     case value u => exact h1
     case skip => exact h1
     case enter f args => exact ⟨h1.1, h1.2.mono fun e w2 ⟨he, hb2⟩ => ⟨he, ZlA hw1 hb2⟩⟩
    | halt x w' => simp only [Oper.quietUpon] at h1, rfl⟩)
 ·simp only [hw, Bool.false_eq_true, if_false]
  exact h w (Below.refl _ _)

end
end Go.Proofs.Ytgnmjjakmeomiaa
