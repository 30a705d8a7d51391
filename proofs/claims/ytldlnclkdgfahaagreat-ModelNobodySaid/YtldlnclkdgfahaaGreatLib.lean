/- Tools of my own, over any program: contracts that hand back one value and leave what was there alone, and regions walked once in the class of worlds that are alike below a block. -/
import Derived.Test.YtldlnclkdgfahaaGreatRows
import Derived.WalkKit
import Derived.WalkLawsBesides
import Derived.WalkSpells
import Derived.ProofKit
import Derived.OpenShut
import Derived.Outline
import Derived.BigQuiet
import Derived.BigGuardPart
import Derived.Lib.Hide
import Derived.Lib.SmallJoins
namespace Go.Proofs.YtldlnclkdgfahaaGreat
open Go.ChangeShapes Go.WideShapes Go.ChangeAt Go.RowKit

/-- It hands back v, and what was there stays. -/
def Ret (v : Value) (w : World) (e : Ending) (w' : World) : Prop := e = .returned v ∧ Below w.heap.size w w'

/-- The worlds that are as w, below what w has. -/
def Cl (w : World) : Type := { w' : World // Below w.heap.size w w' }
def Cl.w {w : World} (x : Cl w) : World := x.1
theorem Cl.below {w : World} (x : Cl w) : Below w.heap.size w x.w := x.2
def Cl.start (w : World) : Cl w := ⟨w, Below.refl _ _⟩
instance (w : World) : Nonempty (Cl w) := ⟨Cl.start w⟩
theorem Cl.size {w : World} (x : Cl w) : w.heap.size ≤ x.w.heap.size := x.below.size
theorem Cl.cell {w : World} (x : Cl w) {b o : Nat} {v : Value} (hb : b < w.heap.size) (h : w.cell? ⟨b, o, none⟩ = some v) : x.w.cell? ⟨b, o, none⟩ = some v :=
  (x.below.cell (p := ⟨b, o, none⟩) hb).trans h
theorem Cl.frozen {w : World} (x : Cl w) {b o : Nat} {v : Bool} (hb : b < w.heap.size) (h : w.frozen? ⟨b, o, none⟩ = v) : x.w.frozen? ⟨b, o, none⟩ = v :=
  (x.below.frozen (p := ⟨b, o, none⟩) hb).trans h
/-- What a cell holds, in every world of the class. -/
theorem Cl.all {w : World} (_ : Cl w) (b o : Nat) (v : Value) (hb : b < w.heap.size) (h : w.cell? ⟨b, o, none⟩ = some v) : ∀ y : Cl w, y.w.cell? ⟨b, o, none⟩ = some v := fun y => y.cell hb h
theorem Cl.allf {w : World} (_ : Cl w) (b o : Nat) (hb : b < w.heap.size) (h : w.frozen? ⟨b, o, none⟩ = false) : ∀ y : Cl w, y.w.frozen? ⟨b, o, none⟩ = false := fun y => y.frozen hb h
theorem cell_old {W : World} (o : Obj) {b off : Nat} {v : Value} (hb : b < W.heap.size) (h : W.cell? ⟨b, off, none⟩ = some v) : (W.alloc o).cell? ⟨b, off, none⟩ = some v :=
  (((Below.refl W.heap.size W).alloc (Nat.le_refl _) o).cell (p := ⟨b, off, none⟩) hb).trans h
theorem Cl.lt {w : World} (x : Cl w) {b : Nat} (h : b < w.heap.size) : b < x.w.heap.size := Nat.lt_of_lt_of_le h x.size
/-- One more call. -/
def Cl.on {w : World} (x : Cl w) {w' : World} (h : Below x.w.heap.size x.w w') : Cl w := ⟨w', x.below.trans (h.mono x.size)⟩
theorem Cl.on_w {w : World} (x : Cl w) {w' : World} (h : Below x.w.heap.size x.w w') : (x.on h).w = w' := rfl

/-- A contract, met in a world of the class. -/
theorem calls_cl {P : Program} {f : FuncId} {args : Array Value} {w : World} {x : Cl w} {v : Value} (h : Calls P f args x.w (Ret v x.w)) :
    Calls P f args x.w fun e w'' => e = .returned v ∧ ∃ y : Cl w, w'' = y.w :=
  h.mono fun _ _ ⟨he, hb⟩ => ⟨he, x.on hb, rfl⟩

theorem Ret.next {w : World} {x : Cl w} {v : Value} {e : Ending} {w' : World} (h : Ret v x.w e w') : e = .returned v ∧ ∃ y : Cl w, w' = y.w :=
  ⟨h.1, x.on h.2, rfl⟩

/-- Begin with the class. -/
theorem wp_cl {P : Program} {c : Code} {Q : Exit → Act → World → Prop} {a : Act} {w : World} (h : ∀ x : Cl w, c.wp P Q a x.w) : c.wp P Q a w := h (Cl.start w)

/-- The same at a call. -/
theorem wp_back {P : Program} {f : FuncId} {args : Array Value} {R : Ending → World → Prop} {w : World} (h : ∀ x : Cl w, Calls P f args x.w R) : Calls P f args w R := h (Cl.start w)

theorem wpOps_of_quiet {P : Program} {ops : Array Oper} {C : World → Prop} {Q : Exit → Act → World → Prop} : ∀ (l : List Oper) (a : Act) (w : World), C w →
    wpQuiet P ops C (fun a' => ∀ w', C w' → Q .normal a' w') l a → wpList P ops Q l a w
  | [], _, w, hw, h => h w hw
  | o :: rest, a, w, hw, h => by
    unfold wpQuiet at h
    unfold wpList
    split
    · rename_i hwant
      simp only [hwant, if_true] at h
      exact .inl (Oper.wp_of_quiet hw (fun a' w' hw' h' => wpOps_of_quiet rest a' w' hw' h') h)
    · rename_i hwant
      simp only [hwant] at h
      exact wpOps_of_quiet rest _ w hw h

/-- A region that draws its order, in the class. -/
theorem region_cl {P : Program} {id : Nat} {Q : Exit → Act → World → Prop} {a : Act} {w : World} {x : Cl w} {l : List Oper} (hm : P.follows .mixedOrders = true) (hB : Region.lexB .any l.toArray = true)
    (h : wpQuiet P l.toArray (fun w' => ∃ x : Cl w, w' = x.w) (fun a' => ∀ w', (∃ y : Cl w, w' = y.w) → Q .normal a' w') l a) : (Code.region id l.toArray true).wp P Q a x.w :=
  wp_region_quiet (C := fun w' => ∃ x : Cl w, w' = x.w) hm hB
    ⟨⟨{ x.w with drawn := x.w.drawn + 1 }, x.below.trans ⟨rfl, rfl, rfl, Nat.le_refl _, fun _ _ => rfl⟩⟩, rfl⟩ (by simpa using h)

/-- A region in the order of the text, in the class. -/
theorem region_cl_lex {P : Program} {id : Nat} {Q : Exit → Act → World → Prop} {a : Act} {w : World} {x : Cl w} {l : List Oper}
    (h : wpQuiet P l.toArray (fun w' => ∃ x : Cl w, w' = x.w) (fun a' => ∀ w', (∃ y : Cl w, w' = y.w) → Q .normal a' w') l a) : (Code.region id l.toArray false).wp P Q a x.w :=
  wp_region_lit (wpOps_of_quiet (C := fun w' => ∃ x : Cl w, w' = x.w) l a x.w ⟨x, rfl⟩ h)

theorem Ret.end {w W : World} {x : Cl W} {v : Value} (h : Below w.heap.size w W) : Ret v w (.returned v) x.w :=
  ⟨rfl, h.trans (x.below.mono h.size)⟩
theorem Ret.endSet {w W : World} {x : Cl W} {v : Value} (h : Below w.heap.size w W) {p : Addr} (hp : w.heap.size ≤ p.block) (u : Value) : Ret v w (.returned v) (x.w.setCell p u) :=
  ⟨rfl, (h.trans (x.below.mono h.size)).setCell hp u⟩
theorem Ret.endSet2 {w W : World} {x : Cl W} {v : Value} (h : Below w.heap.size w W) {p q : Addr} (hp : w.heap.size ≤ p.block) (hq : w.heap.size ≤ q.block) (u u' : Value) : Ret v w (.returned v) ((x.w.setCell p u).setCell q u') :=
  ⟨rfl, ((h.trans (x.below.mono h.size)).setCell hp u).setCell hq u'⟩
theorem bcell {W w1 : World} (hb : Below W.heap.size W w1) : (∀ b o, b < W.heap.size → w1.cell? ⟨b, o, none⟩ = W.cell? ⟨b, o, none⟩) ∧ (∀ b o, b < W.heap.size → w1.frozen? ⟨b, o, none⟩ = W.frozen? ⟨b, o, none⟩) :=
  ⟨fun b o h => hb.cell (p := ⟨b, o, none⟩) h, fun b o h => hb.frozen (p := ⟨b, o, none⟩) h⟩
theorem below1 (w : World) (o : Obj) : Below w.heap.size w (w.alloc o) := (Below.refl _ _).alloc (Nat.le_refl _) _
theorem below2 (w : World) (o o' : Obj) : Below w.heap.size w ((w.alloc o).alloc o') := (below1 w o).alloc (by simp) _
theorem below3 (w : World) (o o' o'' : Obj) : Below w.heap.size w (((w.alloc o).alloc o').alloc o'') := (below2 w o o').alloc (by simp; omega) _
theorem Ret.same {w : World} {v : Value} : Ret v w (.returned v) w := ⟨rfl, Below.refl _ _⟩
theorem Ret.alloc {w : World} {v : Value} (o : Obj) : Ret v w (.returned v) (w.alloc o) := ⟨rfl, (Below.refl _ _).alloc (Nat.le_refl _) _⟩

/-! ### Blocks that are known -/
/-- Block b holds these cells, and may be written. -/
def Has (W : World) (b : Nat) (cs : List Value) : Prop := b < W.heap.size ∧ ∀ i v, cs[i]? = some v → W.cell? ⟨b, i, none⟩ = some v ∧ W.frozen? ⟨b, i, none⟩ = false
section
variable {W : World} {b : Nat} {cs : List Value}
theorem Has.lt (h : Has W b cs) : b < W.heap.size := h.1
theorem Has.new (W : World) (cs : List Value) (t : TypeId) : Has (W.alloc (.cells cs.toArray t)) W.heap.size cs := by
  refine ⟨by simp, fun i v hi => ?_⟩
  have e : (W.alloc (.cells cs.toArray t)).heap[W.heap.size]? = some (.cells cs.toArray t (0, 0)) := heap_alloc_new W _
  refine ⟨?_, by simp only [World.frozen?, e]; simp⟩
  have := cell_of_row (W.alloc (.cells cs.toArray t)) W.heap.size i cs.toArray t (0, 0) e
  rw [this]; simpa using hi
theorem Has.below {W' : World} (h : Has W b cs) (hb : Below W.heap.size W W') : Has W' b cs :=
  ⟨Nat.lt_of_lt_of_le h.1 hb.size, fun i v hi => ⟨(hb.cell (p := ⟨b, i, none⟩) h.1).trans (h.2 i v hi).1, (hb.frozen (p := ⟨b, i, none⟩) h.1).trans (h.2 i v hi).2⟩⟩
theorem Has.ext (h : Has W b cs) (y : Cl W) : Has y.w b cs := h.below y.below
theorem Has.alloc (h : Has W b cs) (o : Obj) : Has (W.alloc o) b cs := h.below ((Below.refl _ _).alloc (Nat.le_refl _) _)
theorem Has.far (h : Has W b cs) {p : Addr} (hp : p.block ≠ b) (u : Value) : Has (W.setCell p u) b cs := by
  refine ⟨by simpa [World.setCell] using h.1, fun i v hi => ?_⟩
  have hb : (W.setCell p u).heap[b]? = W.heap[b]? := Below.heap_setCell W p u b (fun e => hp e.symm)
  exact ⟨(World.cell?_of_block (a := ⟨b, i, none⟩) hb).trans (h.2 i v hi).1, (World.frozen?_of_block (a := ⟨b, i, none⟩) hb).trans (h.2 i v hi).2⟩
theorem Has.set_ (h : Has W b cs) (k : Nat) (u : Value) (hk : k < cs.length) : Has (W.setCell ⟨b, k, none⟩ u) b (cs.set k u) := by
  refine ⟨by simpa [World.setCell] using h.1, fun i v hi => ?_⟩
  have hc : W.cell? ⟨b, k, none⟩ = some cs[k] := (h.2 k _ (List.getElem?_eq_getElem hk)).1
  by_cases hik : i = k
  · subst hik
    rw [List.getElem?_set_self hk] at hi
    injection hi with hi
    subst hi
    have hf := (h.2 i _ (List.getElem?_eq_getElem hk)).2
    exact ⟨by simp [go_sem, hc], by simpa [go_sem] using hf⟩
  · rw [List.getElem?_set_ne (fun e => hik e.symm)] at hi
    obtain ⟨h1, h2⟩ := h.2 i v hi
    exact ⟨(World.cell?_setCell_other W ⟨b, k, none⟩ ⟨b, i, none⟩ u (fun e => hik (by injection e with _ e _; first | exact e.symm | exact e))).trans h1, by simpa [go_sem] using h2⟩
theorem Has.at_ (h : Has W b cs) (i : Nat) (v : Value) (hi : cs[i]? = some v) : ∀ y : Cl W, y.w.cell? ⟨b, i, none⟩ = some v := fun y => ((h.ext y).2 i v hi).1
theorem Has.fr (h : Has W b cs) (i : Nat) (v : Value) (hi : cs[i]? = some v) : ∀ y : Cl W, y.w.frozen? ⟨b, i, none⟩ = false := fun y => ((h.ext y).2 i v hi).2
theorem Has.lts (h : Has W b cs) : ∀ y : Cl W, b < y.w.heap.size := fun y => (h.ext y).lt
theorem Has.here (h : Has W b cs) (i : Nat) (v : Value) (hi : cs[i]? = some v) : W.cell? ⟨b, i, none⟩ = some v := (h.2 i v hi).1
end
/-- A new base, of which these facts are known. -/
theorem wp_re {P : Program} {c : Code} {Q : Exit → Act → World → Prop} {a : Act} {T : World} (F : World → Prop) (hF : F T) (h : ∀ W, F W → ∀ x : Cl W, c.wp P Q a x.w) : c.wp P Q a T := h T hF (Cl.start T)
theorem calls_re {P : Program} {f : FuncId} {args : Array Value} {R : Ending → World → Prop} {T : World} (F : World → Prop) (hF : F T) (h : ∀ W, F W → ∀ x : Cl W, Calls P f args x.w R) : Calls P f args T R := h T hF (Cl.start T)
/-- What there was at the entry stays. -/
theorem Cl.out {w W : World} (x : Cl W) (h : Below w.heap.size w W) : Below w.heap.size w x.w := h.trans (x.below.mono h.size)
theorem outA {w T : World} (h : Below w.heap.size w T) (o : Obj) : Below w.heap.size w (T.alloc o) := h.alloc h.size o
theorem outS {w T : World} (h : Below w.heap.size w T) {p : Addr} (hp : w.heap.size ≤ p.block) (u : Value) : Below w.heap.size w (T.setCell p u) := h.setCell hp u
theorem Ret.of {w T : World} {v : Value} (h : Below w.heap.size w T) : Ret v w (.returned v) T := ⟨rfl, h⟩
end Go.Proofs.YtldlnclkdgfahaaGreat
