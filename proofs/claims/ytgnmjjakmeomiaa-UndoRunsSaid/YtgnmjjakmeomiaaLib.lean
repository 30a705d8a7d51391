/- Tools of my own, over any program: contracts that hand Zfd one value and leave what was there alone, and regions walked once in the class of worlds that are alike below a block. -/
import Derived.Test.YtgnmjjakmeomiaaRows
import Derived.WalkKit
import Derived.WalkLawsBesides
import Derived.WalkSpells
import Derived.ProofKit
import Derived.OpenShut
import Derived.Outline
import Derived.BigQuiet
import Derived.BigGuardPart
import Derived.Lib.Hide
import Derived.Lib.SmallJoins
namespace Go.Proofs.Ytgnmjjakmeomiaa
open Go.ChangeShapes Go.WideShapes Go.ChangeAt Go.RowKit

def Ret (v : Value) (w : World) (e : Ending) (w' : World) : Prop := e = .returned v ∧ Below w.heap.size w w'

def Cl (w : World) : Type := { w' : World // Below w.heap.size w w' }
def Cl.w {w : World} (x : Cl w) : World := x.1
theorem Cl.below {w : World} (x : Cl w) : Below w.heap.size w x.w := x.2
def Cl.start (w : World) : Cl w := ⟨w, Below.refl _ _⟩
instance (w : World) : Nonempty (Cl w) := ⟨Cl.start w⟩
theorem Cl.size {w : World} (x : Cl w) : w.heap.size ≤ x.w.heap.size := x.below.size
theorem Cl.cell {w : World} (x : Cl w) {b o : Nat} {v : Value} (hb : b < w.heap.size) (h : w.cell? ⟨b, o, none⟩ = some v) : x.w.cell? ⟨b, o, none⟩ = some v :=
 (x.below.cell (p := ⟨b, o, none⟩) hb).trans h
theorem Cl.frozen {w : World} (x : Cl w) {b o : Nat} {v : Bool} (hb : b < w.heap.size) (h : w.frozen? ⟨b, o, none⟩ = v) : x.w.frozen? ⟨b, o, none⟩ = v :=
 (x.below.frozen (p := ⟨b, o, none⟩) hb).trans h
theorem Cl.all {w : World} (_ : Cl w) (b o : Nat) (v : Value) (hb : b < w.heap.size) (h : w.cell? ⟨b, o, none⟩ = some v) : ∀ y : Cl w, y.w.cell? ⟨b, o, none⟩ = some v := fun y => y.cell hb h
theorem Cl.lt {w : World} (x : Cl w) {b : Nat} (h : b < w.heap.size) : b < x.w.heap.size := Nat.lt_of_lt_of_le h x.size
def Cl.on {w : World} (x : Cl w) {w' : World} (h : Below x.w.heap.size x.w w') : Cl w := ⟨w', x.below.trans (h.mono x.size)⟩
theorem Ret.next {w : World} {x : Cl w} {v : Value} {e : Ending} {w' : World} (h : Ret v x.w e w') : e = .returned v ∧ ∃ y : Cl w, w' = y.w :=
 ⟨h.1, x.on h.2, rfl⟩

theorem Ret.end {w W : World} {x : Cl W} {v : Value} (h : Below w.heap.size w W) : Ret v w (.returned v) x.w :=
 ⟨rfl, h.trans (x.below.mono h.size)⟩
theorem Ret.same {w : World} {v : Value} : Ret v w (.returned v) w := ⟨rfl, Below.refl _ _⟩
theorem Ret.alloc {w : World} {v : Value} (o : Obj) : Ret v w (.returned v) (w.alloc o) := ⟨rfl, (Below.refl _ _).alloc (Nat.le_refl _) _⟩

/-! ### Blocks that are known -/
def Has (W : World) (b : Nat) (cs : List Value) : Prop := b < W.heap.size ∧ ∀ i v, cs[i]? = some v → W.cell? ⟨b, i, none⟩ = some v ∧ W.frozen? ⟨b, i, none⟩ = false
section
variable {W : World} {b : Nat} {cs : List Value}
theorem Has.lt (h : Has W b cs) : b < W.heap.size := h.1
theorem Has.new (W : World) (cs : List Value) (t : TypeId) : Has (W.alloc (.cells cs.toArray t)) W.heap.size cs := by
 refine ⟨by simp, fun i v hi => ?_⟩
 have e : (W.alloc (.cells cs.toArray t)).heap[W.heap.size]? = some (.cells cs.toArray t (0, 0)) := heap_alloc_new W _
 refine ⟨?_, by simp only [World.frozen?, e]; simp⟩
 have := cell_of_row (W.alloc (.cells cs.toArray t)) W.heap.size i cs.toArray t (0, 0) e
 rw [this]; simpa using hi
theorem Has.below {W' : World} (h : Has W b cs) (hb : Below W.heap.size W W') : Has W' b cs :=
 ⟨Nat.lt_of_lt_of_le h.1 hb.size, fun i v hi => ⟨(hb.cell (p := ⟨b, i, none⟩) h.1).trans (h.2 i v hi).1, (hb.frozen (p := ⟨b, i, none⟩) h.1).trans (h.2 i v hi).2⟩⟩
theorem Has.ext (h : Has W b cs) (y : Cl W) : Has y.w b cs := h.below y.below
theorem Has.alloc (h : Has W b cs) (o : Obj) : Has (W.alloc o) b cs := h.below ((Below.refl _ _).alloc (Nat.le_refl _) _)
theorem Has.far (h : Has W b cs) {p : Addr} (hp : p.block ≠ b) (u : Value) : Has (W.setCell p u) b cs := by
 refine ⟨by simpa [World.setCell] using h.1, fun i v hi => ?_⟩
 have hb : (W.setCell p u).heap[b]? = W.heap[b]? := Below.heap_setCell W p u b (fun e => hp e.symm)
 exact ⟨(World.cell?_of_block (a := ⟨b, i, none⟩) hb).trans (h.2 i v hi).1, (World.frozen?_of_block (a := ⟨b, i, none⟩) hb).trans (h.2 i v hi).2⟩
theorem Has.at_ (h : Has W b cs) (i : Nat) (v : Value) (hi : cs[i]? = some v) : ∀ y : Cl W, y.w.cell? ⟨b, i, none⟩ = some v := fun y => ((h.ext y).2 i v hi).1
theorem Has.fr (h : Has W b cs) (i : Nat) (v : Value) (hi : cs[i]? = some v) : ∀ y : Cl W, y.w.frozen? ⟨b, i, none⟩ = false := fun y => ((h.ext y).2 i v hi).2
theorem Has.here (h : Has W b cs) (i : Nat) (v : Value) (hi : cs[i]? = some v) : W.cell? ⟨b, i, none⟩ = some v := (h.2 i v hi).1
end
theorem Cl.out {w W : World} (x : Cl W) (h : Below w.heap.size w W) : Below w.heap.size w x.w := h.trans (x.below.mono h.size)
theorem Ret.of {w T : World} {v : Value} (h : Below w.heap.size w T) : Ret v w (.returned v) T := ⟨rfl, h⟩
end Go.Proofs.Ytgnmjjakmeomiaa
