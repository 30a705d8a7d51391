/- The law ModelNobody, for every input. -/
import Derived.Test.YtldlnclkdgfahaaGreatZaa
import Derived.StillTail
import Derived.OrdersHeld
import Derived.WideBlind
import Derived.Test.YtldlnclkdgfahaaGreatZab
/- A region that draws its order, whose first operations only read (and make memory in calls), and whose last ones, in a forced order among themselves, make and write new memory: but these may come up early. -/
namespace Go.Proofs.YtldlnclkdgfahaaGreat
open Go.RowKit

section
variable {P : Program}

def Calm (P : Program) (W : World) (o : Oper) (a : Act) (v : Value) : Prop :=
 ∀ w, Below W.heap.size W w → o.quietAt P a (fun w' => Below w.heap.size w w') w v

def YieldsC (P : Program) (ops : Array Oper) (W : World) (o : Oper) (v : Value) (a : Act) : Prop :=
 (Region.wanted o (yielded ops a.tmps) = true ∧ Calm P W o a v) ∨ (Region.wanted o (yielded ops a.tmps) = false ∧ v = undef)
theorem Zef {a b c : World} (h : Below a.heap.size a b) (k : Below b.heap.size b c) : Below a.heap.size a c := h.trans (k.mono h.size)

def Closed (md : Region.Mode) (ops : Array Oper) (listed : Array Bool) : Prop :=
 ∀ j oj, ops[j]? = some oj → listed.getD j false = true → ∀ e ∈ oj.after, Region.binds md e = true → listed.getD e.on false = true
def ZeV (md : Region.Mode) (ops : Array Oper) : Nat → Nat → Nat → Bool
 | 0, _, _ => false
 | f + 1, t, i => Region.waitsFor md ops t i || (List.range ops.size).any fun k => Region.waitsFor md ops t k && ZeV md ops f k i
theorem Closed.waits {md : Region.Mode} {ops : Array Oper} {listed : Array Bool} (h : Closed md ops listed) : ∀ (f t i : Nat), listed.getD t false = true → ZeV md ops f t i = true → listed.getD i false = true
 | 0, _, _, _, hw => by cases hw
 | f + 1, t, i, ht, hw => by
  simp only [ZeV, Bool.or_eq_true, List.any_eq_true, Bool.and_eq_true] at hw
  rcases hw with hw | ⟨k, _, hw, hr⟩
  ·obtain ⟨o, ho, e, he, hb, rfl⟩ := Region.waitsFor_spec hw
   exact h t o ho ht e he hb
  ·obtain ⟨o, ho, e, he, hb, rfl⟩ := Region.waitsFor_spec hw
   exact h.waits f e.on i (h t o ho ht e he hb) hr

theorem YieldsC.wpOp {ops : Array Oper} {W : World} {i : Nat} {o : Oper} {v : Value} {a : Act} {w : World} (hi : ops[i]? = some o) (hy : YieldsC P ops W o v a) (hb : Below W.heap.size W w)
  {K : Act → World → Prop} {Q : Exit → Act → World → Prop} (h : ∀ w', Below w.heap.size w w' → K (a.put o.dst v) w') : wpOp P ops Q i K a w := by
 unfold Go.wpOp
 simp only [hi]
 rcases hy with ⟨hw, hv⟩ | ⟨hw, rfl⟩
 ·simp only [hw, if_true]
  exact .inl (Oper.wp_of_quiet (C := fun w' => Below w.heap.size w w') (K := fun a' => a' = a.put o.dst v) (Below.refl _ _) (fun a' w' hw' ha => by subst ha; exact h w' hw')
   ⟨v, fun w1 hw1 => by
    have h1 := hv w1 (Zef hb hw1)
    unfold Oper.quietAt at h1 ⊢
    generalize (execOp a.eval o).run P w1 = r at *
    cases r with
    | ok n w' =>
     cases n <;> simp only [Oper.quietUpon] at h1 ⊢
     case value u => exact h1
     case skip => exact h1
     case enter f args => exact ⟨h1.1, h1.2.mono fun e w2 ⟨he, hb2⟩ => ⟨he, Zef hw1 hb2⟩⟩
    | halt x w' => simp only [Oper.quietUpon] at h1, rfl⟩)
 ·simp only [hw, Bool.false_eq_true, if_false]
  exact h w (Below.refl _ _)

end
end Go.Proofs.YtldlnclkdgfahaaGreat
/- Loops by induction: a round by the runner, between rounds the blocks are numbered anew. -/
namespace Go.Proofs.YtldlnclkdgfahaaGreat
open Go.RowKit
namespace Ev
def renA (ρ : Nat → Nat) : Value → Value
 | .pointer (some ⟨k, o, none⟩) => .pointer (some ⟨ρ k, o, none⟩)
 | .slice (some ⟨k, o, none⟩) n c => .slice (some ⟨ρ k, o, none⟩) n c
 | .map (some k) => .map (some (ρ k))
 | v => v
def ZaP (f : Value → Value) (a : Array Value) : Array Value := (a.toList.map f).toArray
theorem Zf9 (f : Value → Value) (a : Array Value) : ZaP f a = a.map f := by
 unfold ZaP
 apply Array.ext' 
 simp
def Zu (ρ : Nat → Nat) : Nat → Value → Value
 | d + 1, .agg cs => .agg (ZaP (Zu ρ d) cs)
 | d + 1, .tuple cs => .tuple (ZaP (Zu ρ d) cs)
 | d + 1, .func f a b => .func f (ZaP (Zu ρ d) a) (ZaP (Zu ρ d) b)
 | _, v => renA ρ v
def Zr : Nat → Value → Bool
 | d + 1, .agg cs => Ze (Zr d) cs.toList
 | d + 1, .tuple cs => Ze (Zr d) cs.toList
 | d + 1, .func _ a b => Ze (Zr d) a.toList && Ze (Zr d) b.toList
 | 0, .agg _ => false
 | 0, .tuple _ => false
 | 0, .func _ a b => a.isEmpty && b.isEmpty
 | _, _ => true
section
variable {P : Program} {ext : FuncId → Option Ext}
theorem Zby {ι : Ren} {f : Value → Value} {a a' : Array Value} (hs : a.size = a'.size) (h : ∀ (i : Nat) x y, a[i]? = some x → a'[i]? = some y → VR ι (f x) y) : (ZaP f a).size = a'.size ∧ ∀ (i : Nat) x y, (ZaP f a)[i]? = some x → a'[i]? = some y → VR ι x y := by
 rw [Zf9]
 refine ⟨by simpa using hs, fun i x y hx hy => ?_⟩
 rw [Array.getElem?_map] at hx
 cases ha : a[i]? with
 | none => rw [ha] at hx; cases hx
 | some z => rw [ha] at hx; injection hx with hx; subst hx; exact h i z y ha hy
theorem Zeg {ρ : Nat → Nat} {v : Value} (h : atom v = true) : renA ρ v = v := by
 cases v with
 | pointer a => cases a with
  | none => rfl
  | some a => simp [atom] at h
 | slice a n c => cases a with
  | none => rfl
  | some a => simp [atom] at h
 | map a => cases a with
  | none => rfl
  | some a => simp [atom] at h
 | _ => rfl
theorem ZbM {ρ : Nat → Nat} (d : Nat) {v : Value} (h : atom v = true) : Zu ρ d v = v := by
 cases d with
 | zero => exact Zeg h
 | succ d =>
  cases v with
  | agg cs => simp [atom] at h
  | tuple cs => simp [atom] at h
  | func f a b =>
   cases f <;> simp [atom] at h
   obtain ⟨h1, h2⟩ := h
   subst h1 h2
   simp [Zu, ZaP]
  | _ => exact Zeg h
theorem Zbz {ι ι2 : Ren} {ρ : Nat → Nat} (hι : ∀ k b, ι k = some b → ι2 (ρ k) = some b) : ∀ (d : Nat) (v v' : Value), VR ι v v' → Zr d v = true → VR ι2 (Zu ρ d v) v'
 | d, v, v', h, hd => by
  cases h with
  | atom h => rw [ZbM d h]; exact .atom h
  | glob h => cases d <;> exact .glob h
  | ptr h => cases d <;> exact .ptr (hι _ _ h)
  | map h => cases d <;> exact .map (hι _ _ h)
  | slice h hn hc hq => cases d <;> exact .slice (hι _ _ h) hn hc hq
  | slice0 h => cases d <;> exact .slice0 h
  | func hs ht h1 h2 =>
   cases d with
   | zero =>
    simp only [Zr, Bool.and_eq_true, Array.isEmpty_iff] at hd
    obtain ⟨rfl, rfl⟩ := hd
    exact .func hs ht (fun i x y hx => by simp at hx) (fun i x y hx => by simp at hx)
   | succ d =>
    simp only [Zr, Bool.and_eq_true] at hd
    obtain ⟨q1, q2⟩ := Zby (f := Zu ρ d) hs fun i x y hx hy => Zbz hι d x y (h1 i x y hx hy) (Zq hd.1 i x hx)
    obtain ⟨q3, q4⟩ := Zby (f := Zu ρ d) ht fun i x y hx hy => Zbz hι d x y (h2 i x y hx hy) (Zq hd.2 i x hx)
    exact .func q1 q3 q2 q4
  | agg hs h1 =>
   cases d with
   | zero => simp [Zr] at hd
   | succ d =>
    simp only [Zr] at hd
    obtain ⟨q1, q2⟩ := Zby (f := Zu ρ d) hs fun i x y hx hy => Zbz hι d x y (h1 i x y hx hy) (Zq hd i x hx)
    exact .agg q1 q2
  | tuple hs h1 =>
   cases d with
   | zero => simp [Zr] at hd
   | succ d =>
    simp only [Zr] at hd
    obtain ⟨q1, q2⟩ := Zby (f := Zu ρ d) hs fun i x y hx hy => Zbz hι d x y (h1 i x y hx hy) (Zq hd i x hx)
    exact .tuple q1 q2
theorem Zgi {ι ι2 : Ren} {ρ : Nat → Nat} (hι : ∀ k b, ι k = some b → ι2 (ρ k) = some b) {v v' : Value} (h : VR ι v v') : ∃ u, VR ι2 u v' := by
 have arr : ∀ {a a' : Array Value}, a.size = a'.size → (∀ (i : Nat) x y, a[i]? = some x → a'[i]? = some y → ∃ u, VR ι2 u y) → ∃ c : Array Value, c.size = a'.size ∧ ∀ (i : Nat) x y, c[i]? = some x → a'[i]? = some y → VR ι2 x y := fun {a a'} hs hx => by
  have each : ∀ i : Fin a'.size, ∃ u, VR ι2 u a'[i] := fun i => hx i a[i] a'[i] (Array.getElem?_eq_getElem (by omega)) (Array.getElem?_eq_getElem i.2)
  refine ⟨Array.ofFn fun i => (each i).choose, by simp, fun i x y h1 h2 => ?_⟩
  obtain ⟨hlt, rfl⟩ := Array.getElem?_eq_some_iff.1 h2
  rw [Array.getElem?_ofFn, dif_pos hlt] at h1
  injection h1 with h1
  subst h1
  exact (each ⟨i, hlt⟩).choose_spec
 induction h with
 | atom h => exact ⟨_, .atom h⟩
 | glob h => exact ⟨_, .glob (g := 0) h⟩
 | ptr h => exact ⟨_, .ptr (hι _ _ h)⟩
 | map h => exact ⟨_, .map (hι _ _ h)⟩
 | slice h hn hc hq => exact ⟨_, .slice (hι _ _ h) hn hc hq⟩
 | slice0 h => exact ⟨_, .slice0 (k := 0) (o := 0) h⟩
 | func hs ht h1 h2 ih1 ih2 =>
  obtain ⟨c, q1, q2⟩ := arr hs ih1
  obtain ⟨d, q3, q4⟩ := arr ht ih2
  exact ⟨_, .func q1 q3 q2 q4⟩
 | agg hs h1 ih =>
  obtain ⟨c, q1, q2⟩ := arr hs ih
  exact ⟨_, .agg q1 q2⟩
 | tuple hs h1 ih =>
  obtain ⟨c, q1, q2⟩ := arr hs ih
  exact ⟨_, .tuple q1 q2⟩
noncomputable def Zeu : Nat → Nat → (Nat → Option Value) → (Nat → Value) → Tr Value → Tr Value
 | 0, _, _, _, T => T
 | n + 1, t, L, gv, T => Zeu n (t + 1) L gv (T.set t (some (match L t with | some v => v | none => gv t)))
noncomputable def tmps (nt : Nat) (L : Nat → Option Value) (gv : Nat → Value) : Tr Value := Zeu nt 0 L gv .nil
theorem Zeh (L : Nat → Option Value) (gv : Nat → Value) : ∀ (n t : Nat) (T : Tr Value) (k : Nat), (Zeu n t L gv T).get k = if t ≤ k ∧ k < t + n then some (match L k with | some v => v | none => gv k) else T.get k
 | 0, t, T, k => by rw [if_neg (by omega)]; rfl
 | n + 1, t, T, k => by
  show (Zeu n (t + 1) L gv _).get k = _
  rw [Zeh L gv n (t + 1), Tr.get_set]
  by_cases hk : k = t
  ·subst hk
   rw [if_neg (by omega), Zc, if_pos (by omega)]
  ·rw [Za hk]
   by_cases h : t + 1 ≤ k ∧ k < t + 1 + n
   ·rw [if_pos h, if_pos (by omega)]
   ·rw [if_neg h, if_neg (by omega)]
theorem ZeW (nt : Nat) (L : Nat → Option Value) (gv : Nat → Value) (k : Nat) : (tmps nt L gv).get k = if k < nt then some (match L k with | some v => v | none => gv k) else none := by
 unfold tmps
 rw [Zeh]
 by_cases h : k < nt
 ·rw [if_pos (by omega), if_pos h]
 ·rw [if_neg (by omega), if_neg h]; rfl
def At (P : Program) (nt : Nat) (T : Tr Value) (h : AH) (m M : Nat) (ι0 : Ren) (h0 : AH) (w0 : World) (a : Act) (w : World) : Prop :=
 ∃ ι, TR ι nt [] T a ∧ Step P ι0 h0 w0 ι h w ∧ ∀ k, m ≤ k → k < M → ι k = none
def rho (live : List Nat) (M : Nat) (k : Nat) : Nat := if k ∈ live then live.idxOf k else k + M
def sig (live : List Nat) (M : Nat) (j : Nat) : Option Nat := if j < live.length then live[j]? else if M ≤ j ∧ j - M ∉ live then some (j - M) else none
theorem Zhp {live : List Nat} {M : Nat} (hM : live.length ≤ M) (k : Nat) : sig live M (rho live M k) = some k := by
 unfold sig rho
 by_cases hk : k ∈ live
 ·rw [if_pos hk]
  have hlt := List.idxOf_lt_length_of_mem hk
  rw [if_pos hlt, List.getElem?_eq_getElem hlt]
  simp
 ·rw [if_neg hk, if_neg (by omega), if_pos ⟨by omega, by simpa using hk⟩]
  simp
theorem Zda {live : List Nat} {M : Nat} (hn : live.Nodup) {j k : Nat} (h : sig live M j = some k) : rho live M k = j := by
 unfold sig at h
 split at h
 ·rename_i hlt
  rw [List.getElem?_eq_getElem hlt] at h
  injection h with h
  subst h
  unfold rho
  rw [if_pos (List.getElem_mem hlt)]
  exact hn.idxOf_getElem j hlt
 ·split at h
  ·rename_i hc
   injection h with h
   subst h
   unfold rho
   rw [if_neg hc.2]
   omega
  ·cases h
theorem ZgY {nt : Nat} {ι0 ι : Ren} {h0 h : AH} {w0 w : World} {T : Tr Value} {a : Act} (hT : TR ι nt [] T a) (hS : Step P ι0 h0 w0 ι h w)
  (live : List Nat) (m M : Nat) (hlen : live.length = m) (hmM : m ≤ M) (hn : live.Nodup) (h3 : ∀ k, ι0 k ≠ none → live[k]? = some k)
  (L : Nat → Option Value) (hL : ∀ t v, t < nt → L t = some v → v = Zu (rho live M) 3 ((T.get t).getD undef) ∧ Zr 3 ((T.get t).getD undef) = true)
  (g : AH) (hg : ∀ j o, g j = some o → ∃ k, live[j]? = some k ∧ match o with
   | .ro O m => h k = some (.ro O m)
   | .cells c t => ∃ c' r, h k = some (.cells c' t) ∧ c'.map (Zu (rho live M) 1) = c ++ r ∧ Ze (Zr 1) c' = true) :
  ∃ gv ι', TR ι' nt [] (tmps nt L gv) a ∧ Step P ι0 h0 w0 ι' g w ∧ (∀ k, m ≤ k → k < M → ι' k = none) ∧ ∀ j b, ι' j = some b → ∃ k, ι k = some b := by
 have s1 := fun k => Zhp (live := live) (M := M) (by omega) k
 have hι : ∀ k b, ι k = some b → (fun j => (sig live M j).bind ι) (rho live M k) = some b := fun k b hk => by
  simp only [s1 k, Option.bind_some, hk]
 have hlive : ∀ j k, live[j]? = some k → sig live M j = some k := fun j k hk => by
  have hlt := (List.getElem?_eq_some_iff.1 hk).1
  unfold sig
  rw [if_pos hlt]
  exact hk
 have back : ∀ j b, (sig live M j).bind ι = some b → ∃ k, sig live M j = some k ∧ ι k = some b := fun j b hj => by
  cases hs : sig live M j with
  | none => rw [hs] at hj; cases hj
  | some k => rw [hs] at hj; exact ⟨k, rfl, hj⟩
 have old : ∀ k, ι0 k ≠ none → sig live M k = some k := fun k hk => hlive k k (h3 k hk)
 have gC : ∀ j, isC (g j) = true → ∃ k, sig live M j = some k ∧ isC (h k) = true := fun j hj => by
  cases hx : g j with
  | none => rw [hx] at hj; cases hj
  | some o =>
   obtain ⟨k, hk, ho⟩ := hg j o hx
   cases o with
   | ro O m1 => rw [hx] at hj; exact ⟨k, hlive j k hk, by rw [show h k = some (.ro O m1) from ho]; exact hj⟩
   | cells c t => obtain ⟨c', r, hc, _⟩ := ho; exact ⟨k, hlive j k hk, by rw [hc]; rfl⟩
 have gS : ∀ j, (g j).isSome → ∃ k, sig live M j = some k ∧ (h k).isSome := fun j hj => by
  cases hx : g j with
  | none => rw [hx] at hj; cases hj
  | some o =>
   obtain ⟨k, hk, ho⟩ := hg j o hx
   cases o with
   | ro O m1 => exact ⟨k, hlive j k hk, by rw [show h k = some (.ro O m1) from ho]; rfl⟩
   | cells c t => obtain ⟨c', r, hc, _⟩ := ho; exact ⟨k, hlive j k hk, by rw [hc]; rfl⟩
 have garb : ∀ t, ∃ u, VR (fun j => (sig live M j).bind ι) u (a.tmps.getD t undef) := fun t => Zgi hι (hT.2.2 t)
 refine ⟨fun t => (garb t).choose, fun j => (sig live M j).bind ι, ⟨hT.1, hT.2.1, fun t => ?_⟩, ⟨fun k b hk => ?_, ⟨fun j c t hj => ?_, fun j O hj => ?_, fun j j' b b' h1 h2 h4 h5 h6 => ?_, fun j b hj => ?_⟩, hS.os, hS.tape, hS.output, hS.size, hS.frame, fun j b h1 h2 => ?_, fun j h1 h2 => ?_, fun j h1 h2 => ?_⟩, fun j h1 h2 => ?_, fun j b hj => (back j b hj).imp fun k h => h.2⟩
 ·rw [ZeW]
  by_cases ht : t < nt
  ·rw [if_pos ht]
   cases hl : L t with
   | none => exact (garb t).choose_spec
   | some v =>
    obtain ⟨e, hd⟩ := hL t v ht hl
    subst e
    exact Zbz hι 3 _ _ (hT.2.2 t) hd
  ·rw [if_neg ht]
   have : a.tmps.getD t undef = undef := by
    have := hT.1
    simp [Array.getD, show ¬ t < a.tmps.size by omega]
   rw [this]
   exact VR.undef'
 ·show (sig live M k).bind ι = some b
  rw [old k (by rw [hk]; simp)]
  exact hS.ext k b hk
 ·obtain ⟨k, hk, c', r, hc, hcr, hd⟩ := hg j _ hj
  obtain ⟨b, C, hb, hB, hC, hQ⟩ := hS.emb.obj k c' t hc
  have hle : c.length ≤ c'.length := by
   have := congrArg List.length hcr
   simp at this
   omega
  refine ⟨b, C, by show (sig live M j).bind ι = some b; rw [hlive j k hk]; exact hb, hB, ⟨Nat.le_trans hle hC.1, fun i x y hx hy => ?_⟩, hQ⟩
  have hx' : (c'.map (Zu (rho live M) 1))[i]? = some x := by
   rw [hcr, List.getElem?_append_left (List.getElem?_eq_some_iff.1 hx).1]
   exact hx
  rw [List.getElem?_map] at hx'
  cases hz : c'[i]? with
  | none => rw [hz] at hx'; cases hx'
  | some z =>
   rw [hz] at hx'
   injection hx' with hx'
   subst hx'
   exact Zbz hι 1 z y (hC.2 i z y hz hy) (Zj hd z (List.mem_of_getElem? hz))
 ·obtain ⟨k, hk, hr⟩ := hg j _ hj
  obtain ⟨b, hb, hB⟩ := hS.emb.ro k O hr
  exact ⟨b, by show (sig live M j).bind ι = some b; rw [hlive j k hk]; exact hb, hB⟩
 ·obtain ⟨k, q1, q2⟩ := gC j h1
  obtain ⟨k', q3, q4⟩ := gS j' h2
  obtain ⟨_, e1, e2⟩ := back j b h4
  rw [q1] at e1; injection e1 with e1; subst e1
  obtain ⟨_, e3, e4⟩ := back j' b' h5
  rw [q3] at e3; injection e3 with e3; subst e3
  have := hS.emb.inj k k' b b' q2 q4 e2 e4 h6
  subst this
  rw [← Zda hn q1, ← Zda hn q3]
 ·obtain ⟨k, _, e2⟩ := back j b hj
  exact hS.emb.lt k b e2
 ·obtain ⟨k, e1, e2⟩ := back j b h2
  refine hS.new k b ?_ e2
  cases hk : ι0 k with
  | none => rfl
  | some c =>
   have := Zda hn (old k (by rw [hk]; simp))
   have e3 := Zda hn e1
   rw [this] at e3
   subst e3
   rw [h1] at hk; cases hk
 ·obtain ⟨k, e1, e2⟩ := gS j h1
  rw [old j h2] at e1; injection e1 with e1; subst e1
  exact hS.alive j e2 h2
 ·obtain ⟨k, e1, e2⟩ := gC j h1
  rw [old j h2] at e1; injection e1 with e1; subst e1
  exact hS.kind j e2 h2
 ·show (sig live M j).bind ι = none
  unfold sig
  rw [if_neg (by omega), if_neg (by omega)]
  rfl
theorem ZfA {nt : Nat} {ι0 ι : Ren} {h0 h : AH} {w0 w : World} {T : Tr Value} {a : Act} (hT : TR ι nt [] T a) (hS : Step P ι0 h0 w0 ι h w)
  (live : List Nat) (m M : Nat) (hlen : live.length = m) (hmM : m ≤ M) (hn : live.Nodup) (h3 : ∀ k, ι0 k ≠ none → live[k]? = some k)
  (L : Nat → Option Value) (hL : ∀ t v, t < nt → L t = some v → v = Zu (rho live M) 3 ((T.get t).getD undef) ∧ Zr 3 ((T.get t).getD undef) = true)
  (g : AH) (hg : ∀ j o, g j = some o → ∃ k, live[j]? = some k ∧ match o with
   | .ro O m => h k = some (.ro O m)
   | .cells c t => ∃ c' r, h k = some (.cells c' t) ∧ c'.map (Zu (rho live M) 1) = c ++ r ∧ Ze (Zr 1) c' = true) :
  ∃ gv, At P nt (tmps nt L gv) g m M ι0 h0 w0 a w := by
 obtain ⟨gv, ι', a1, a2, a3, _⟩ := ZgY hT hS live m M hlen hmM hn h3 L hL g hg
 exact ⟨gv, ι', a1, a2, a3⟩
theorem ev_wp (F : Fit P ext) {fu nt : Nat} {c : Code} {T T' : Tr Value} {s s' : St} {e : Ex} (h : Zf P ext nt fu c T s = some (e, T', s')) (ho : ∀ p ∈ s'.ob, p.1 = p.2) {ι : Ren} {D : List Deferred} {a : Act} {w : World} (hT : TR ι nt D T a) (he : Emb P ι s.h.get w) (hf : Fresh ι s.n s'.n) :
  c.wp P (ZY P ι s w nt D e T' s') a w := (ZM F fu).1 nt c T s e T' s' h ho ι D a w hT he hf
end
end Ev
end Go.Proofs.YtldlnclkdgfahaaGreat
/- Functions with loops: a run stands ahead of a loop, at a round's end, or at the function's end. -/
namespace Go.Proofs.YtldlnclkdgfahaaGreat
open Go.RowKit
namespace Ev
inductive Zat where
 | seq (b : Code)
 | blk (id : Nat)
 | scp
 | rnd (i : Nat)
inductive Stop where
 | fin (v : Value) (s : St)
 | head (a : Code) (K : List Zat) (T : Tr Value) (s : St)
 | next (i : Nat) (T : Tr Value) (s : St)
noncomputable section
def Stop.s : Stop → St
 | .fin _ s => s
 | .head _ _ _ s => s
 | .next _ _ s => s
def Zgj (P : Program) (fn : Func) (T : Tr Value) (s : St) : Option Value :=
 match Zp P T s fn.results.toList with
 | some [v] => some v
 | some vs => some (.tuple vs.toArray)
 | none => none
def Zhb (s : St) : Option Value → Option Stop
 | some v => some (.fin v s)
 | none => none
def evFin (P : Program) (fn : Func) (e : Ex) (T : Tr Value) (s : St) : Option Stop :=
 match e with
 | .exit _ => none
 | .normal => Zhb s (Zgj P fn T s)
 | .ret => Zhb s (Zgj P fn T s)
mutual
def ZdR (P : Program) (ext : FuncId → Option Ext) (fn : Func) (nt : Nat) : Nat → Code → List Zat → Tr Value → St → Option Stop
 | 0, _, _, _, _ => none
 | fu + 1, c, K, T, s => match c with
  | .seq a b => ZdR P ext fn nt fu a (.seq b :: K) T s
  | .scope a => ZdR P ext fn nt fu a (.scp :: K) T s
  | .block id a => ZdR P ext fn nt fu a (.blk id :: K) T s
  | .cond x a b => match opnd T x with
   | .bool t => match t with
    | true => ZdR P ext fn nt fu a K T s
    | false => ZdR P ext fn nt fu b K T s
   | _ => none
  | .loop a => some (.head a K T s)
  | c => match Zf P ext nt fu c T s with
   | some (e, T', s') => ZbT P ext fn nt fu K e T' s'
   | none => none
termination_by structural fu _ _ _ _ => fu
def ZbT (P : Program) (ext : FuncId → Option Ext) (fn : Func) (nt : Nat) : Nat → List Zat → Ex → Tr Value → St → Option Stop
 | 0, _, _, _, _ => none
 | fu + 1, K, e, T, s => match K with
  | [] => evFin P fn e T s
  | .seq b :: K => match e with
   | .normal => ZdR P ext fn nt fu b K T s
   | .exit i => ZbT P ext fn nt fu K (.exit i) T s
   | .ret => ZbT P ext fn nt fu K .ret T s
  | .blk id :: K => match e with
   | .exit i => bif Nat.beq i id then ZbT P ext fn nt fu K .normal T s else ZbT P ext fn nt fu K (.exit i) T s
   | .normal => ZbT P ext fn nt fu K .normal T s
   | .ret => ZbT P ext fn nt fu K .ret T s
  | .scp :: K => ZbT P ext fn nt fu K e T s
  | .rnd i :: K => match e with
   | .normal => some (.next i T s)
   | .exit j => ZbT P ext fn nt fu K (.exit j) T s
   | .ret => ZbT P ext fn nt fu K .ret T s
termination_by structural fu _ _ _ _ => fu
end
end
section
variable {P : Program} {ext : FuncId → Option Ext}
def post (P : Program) (fn : Func) (R : Ending → World → Prop) (Nx : Nat → Act → World → Prop) : List Zat → Exit → Act → World → Prop
 | [] => bodyPost P fn R
 | .seq b :: K => Exit.then (b.wp P (post P fn R Nx K)) (post P fn R Nx K)
 | .blk id :: K => Exit.inBlock id (post P fn R Nx K)
 | .scp :: K => Exit.noGoto (post P fn R Nx K)
 | .rnd i :: K => Exit.then (Nx i) (post P fn R Nx K)
def Into (nt m : Nat) (L : Nat → Option Value) (H : Tr AObj) (T : Tr Value) (s : St) (live : List Nat) : Prop :=
 live.length = m ∧ live.Nodup ∧
  (∀ t v, t < nt → L t = some v → v = Zu (rho live far) 3 ((T.get t).getD undef) ∧ Zr 3 ((T.get t).getD undef) = true) ∧
  ∀ j o, H.get j = some o → ∃ k, live[j]? = some k ∧ match o with
   | .ro O m => s.h.get k = some (.ro O m)
   | .cells c t => ∃ c' r, s.h.get k = some (.cells c' t) ∧ c'.map (Zu (rho live far) 1) = c ++ r ∧ Ze (Zr 1) c' = true
def Zev (n : Nat) (live : List Nat) : Bool := live.take n == List.range n
theorem ZdB {n : Nat} {live : List Nat} (h : Zev n live = true) {k : Nat} (hk : k < n) : live[k]? = some k := by
 have h := beq_iff_eq.1 h
 have : (live.take n)[k]? = some k := by rw [h]; simp [hk]
 rwa [List.getElem?_take_of_lt hk] at this
theorem ZdS {nt m n0 : Nat} {L : Nat → Option Value} {H : Tr AObj} {T : Tr Value} {s : St} {live : List Nat} (hm : m ≤ far) (h : Into nt m L H T s live) (hk : Zev n0 live = true) {ι0 ι : Ren} (hd : ∀ k, ι0 k ≠ none → k < n0) {h0 : AH} {w0 w : World} {a : Act} (hT : TR ι nt [] T a) (hS : Step P ι0 h0 w0 ι s.h.get w) :
  ∃ gv, At P nt (tmps nt L gv) H.get m far ι0 h0 w0 a w :=
 ZfA hT hS live m far h.1 hm h.2.1 (fun k hk2 => ZdB hk (hd k hk2)) L h.2.2.1 H.get h.2.2.2
end
end Ev
end Go.Proofs.YtldlnclkdgfahaaGreat
/- What is known of a function, in blocks' numbers of its own; and what that says at a call. -/
namespace Go.Proofs.YtldlnclkdgfahaaGreat
open Go.RowKit
namespace Ev
noncomputable section
end
def lk (l : List AObj) : AH := fun k => l[k]?
def lkO (l : List (Option AObj)) : AH := fun k => (l[k]?).join
section
variable {P : Program} {ext : FuncId → Option Ext}
def Fin (P : Program) (ι : Ren) (pre : List AObj) (w : World) (v : Value) (post : List (Option AObj)) (e : Ending) (w' : World) : Prop :=
 ∃ v' ι', e = .returned v' ∧ Step P ι (lk pre) w ι' (lkO post) w' ∧ (∀ k, ι' k ≠ none → k < post.length ∨ far ≤ k) ∧ VR ι' v v'
def LSpec (P : Program) (f : FuncId) (A : Array Value) (pre : List AObj) (v : Value) (post : List (Option AObj)) : Prop :=
 ∀ ι w args', (∀ k, ι k ≠ none → k < pre.length) → VRs ι A args' → Emb P ι (lk pre) w → Calls P f args' w (Fin P ι pre w v post)
def Zhc (n0 : Nat) (v : Value) (post : List (Option AObj)) (u : Value) (s : St) (live : List Nat) : Prop :=
 live.length = post.length ∧ live.Nodup ∧ Zev n0 live = true ∧ (v = Zu (rho live far) 3 u ∧ Zr 3 u = true) ∧
  ∀ j o, lkO post j = some o → ∃ k, live[j]? = some k ∧ match o with
   | .ro O m => s.h.get k = some (.ro O m)
   | .cells c t => ∃ c' r, s.h.get k = some (.cells c' t) ∧ c'.map (Zu (rho live far) 1) = c ++ r ∧ Ze (Zr 1) c' = true
theorem Zh2 {ι0 ι : Ren} {pre : List AObj} {w0 w : World} {u v v' : Value} {post : List (Option AObj)} {s : St} {live : List Nat} (hle : post.length ≤ far) (hd : ∀ k, ι0 k ≠ none → k < pre.length) (h : Zhc pre.length v post u s live) (hS : Step P ι0 (lk pre) w0 ι s.h.get w) (hv : VR ι u v') : Fin P ι0 pre w0 v post (.returned v') w := by
 obtain ⟨h1, h2, h3, h4, h5⟩ := h
 have hT : TR ι 1 [] ((Tr.nil : Tr Value).set 0 (some u)) { tmps := #[v'], defers := [] } := ⟨rfl, rfl, fun t => by
  rw [Tr.get_set]
  by_cases ht : t = 0
  ·subst ht; rw [Zc]; exact hv
  ·rw [Za ht, Tr.get_nil]
   have : (#[v'] : Array Value).getD t undef = undef := by simp [Array.getD, show ¬ t < 1 by omega]
   rw [this]
   exact VR.undef'⟩
 obtain ⟨gv, ι', hT', hS', hfr⟩ := ZfA hT hS live post.length far h1 hle h2 (fun k hk => ZdB h3 (hd k hk)) (fun _ => some v) (fun t x ht hx => by
  injection hx with hx
  subst hx
  obtain rfl : t = 0 := by omega
  rw [Tr.get_set, Zc]
  exact h4) (lkO post) h5
 refine ⟨v', ι', rfl, hS', fun k hk => ?_, ?_⟩
 ·rcases Nat.lt_or_ge k post.length with h | h
  ·exact .inl h
  ·rcases Nat.lt_or_ge k far with h' | h'
   ·exact absurd (hfr k h h') hk
   ·exact .inr h'
 ·have := hT'.2.2 0
  rw [ZeW, if_pos (by omega)] at this
  exact this
/-! ### At a call -/
def Z5 (m : Nat) : Nat → Value → Bool
 | d + 1, .agg cs => Ze (Z5 m d) cs.toList
 | d + 1, .tuple cs => Ze (Z5 m d) cs.toList
 | _, .pointer (some ⟨k, _, none⟩) => Nat.blt k m
 | _, .slice (some ⟨k, _, none⟩) _ _ => Nat.blt k m
 | _, .map (some k) => Nat.blt k m
 | _, v => atom v
theorem Zbq {ι ι2 : Ren} {ρ : Nat → Nat} {m : Nat} (hι : ∀ k b, k < m → ι k = some b → ι2 (ρ k) = some b) : ∀ (d : Nat) (v v' : Value), VR ι v v' → Z5 m d v = true → VR ι2 (Zu ρ d v) v'
 | d, v, v', h, hd => by
  cases h with
  | atom h => rw [ZbM d h]; exact .atom h
  | glob h => cases d <;> simp [Z5, Ev.atom] at hd
  | ptr h => cases d <;> exact .ptr (hι _ _ (Nat.le_of_ble_eq_true hd) h)
  | map h => cases d <;> exact .map (hι _ _ (Nat.le_of_ble_eq_true hd) h)
  | slice h hn hc hq => cases d <;> exact .slice (hι _ _ (Nat.le_of_ble_eq_true hd) h) hn hc hq
  | slice0 h => cases d <;> exact .slice0 h
  | func hs ht h1 h2 =>
   rename_i fn a a' b b'
   have ha : atom (.func fn a b) = true := by cases d <;> exact hd
   have e := VR.eq_of_atom ha (.func hs ht h1 h2)
   rw [e, ZbM d ha]
   exact .atom ha
  | agg hs h1 =>
   cases d with
   | zero => simp [Z5, Ev.atom] at hd
   | succ d =>
    simp only [Z5] at hd
    obtain ⟨q1, q2⟩ := Zby (f := Zu ρ d) hs fun i x y hx hy => Zbq hι d x y (h1 i x y hx hy) (Zq hd i x hx)
    exact .agg q1 q2
  | tuple hs h1 =>
   cases d with
   | zero => simp [Z5, Ev.atom] at hd
   | succ d =>
    simp only [Z5] at hd
    obtain ⟨q1, q2⟩ := Zby (f := Zu ρ d) hs fun i x y hx hy => Zbq hι d x y (h1 i x y hx hy) (Zq hd i x hx)
    exact .tuple q1 q2
theorem Zdr {ι ι2 : Ren} {f : Value → Value} {a a' : Array Value} (h : VRs ι (ZaP f a) a') (g : ∀ (i : Nat) x y, a[i]? = some x → VR ι (f x) y → VR ι2 x y) : VRs ι2 a a' := by
 rw [Zf9] at h
 refine ⟨by simpa using h.1, fun i x y hx hy => g i x y hx (h.2 i _ y (by rw [Array.getElem?_map, hx]; rfl) hy)⟩
theorem VR.agg_of {ι : Ren} {a : Array Value} {v' : Value} (h : VR ι (.agg a) v') : ∃ a', v' = .agg a' ∧ VRs ι a a' := by
 cases h with
 | atom h => simp [Ev.atom] at h
 | agg hs h1 => exact ⟨_, rfl, hs, h1⟩
theorem VR.tuple_of {ι : Ren} {a : Array Value} {v' : Value} (h : VR ι (.tuple a) v') : ∃ a', v' = .tuple a' ∧ VRs ι a a' := by
 cases h with
 | atom h => simp [Ev.atom] at h
 | tuple hs h1 => exact ⟨_, rfl, hs, h1⟩
theorem Zew {ι ι2 : Ren} {ρ : Nat → Nat} {m : Nat} (hι : ∀ k b, k < m → ι (ρ k) = some b → ι2 k = some b) : ∀ (d : Nat) (v v' : Value), VR ι (Zu ρ d v) v' → Z5 m d v = true → VR ι2 v v'
 | d, v, v', h, hd => by
  have at_ : atom v = true → VR ι2 v v' := fun ha => by
   rw [ZbM d ha] at h
   rw [h.eq_of_atom ha]
   exact .atom ha
  cases v with
  | pointer a =>
   cases a with
   | none => exact at_ rfl
   | some a =>
    obtain ⟨k, o, sp⟩ := a
    cases sp with
    | some sp => cases d <;> simp [Z5, Ev.atom] at hd
    | none =>
     have hk : k < m := by cases d <;> exact Nat.le_of_ble_eq_true hd
     have h' : VR ι (.pointer (some ⟨ρ k, o, none⟩)) v' := by cases d <;> exact h
     cases h' with
     | atom q => simp [Ev.atom] at q
     | ptr q => exact .ptr (hι k _ hk q)
  | slice a n c =>
   cases a with
   | none =>
    have ha : atom (.slice none n c) = true := by cases d <;> exact hd
    exact at_ ha
   | some a =>
    obtain ⟨k, o, sp⟩ := a
    cases sp with
    | some sp => cases d <;> simp [Z5, Ev.atom] at hd
    | none =>
     have hk : k < m := by cases d <;> exact Nat.le_of_ble_eq_true hd
     have h' : VR ι (.slice (some ⟨ρ k, o, none⟩) n c) v' := by cases d <;> exact h
     cases h' with
     | atom q => simp [Ev.atom] at q
     | slice q hn hc hq => exact .slice (hι k _ hk q) hn hc hq
     | slice0 h0 => exact .slice0 h0
  | map a =>
   cases a with
   | none =>
    have ha : atom (.map none) = true := rfl
    exact at_ ha
   | some k =>
    have hk : k < m := by cases d <;> exact Nat.le_of_ble_eq_true hd
    have h' : VR ι (.map (some (ρ k))) v' := by cases d <;> exact h
    cases h' with
    | atom q => simp [Ev.atom] at q
    | map q => exact .map (hι k _ hk q)
  | agg cs =>
   cases d with
   | zero => simp [Z5, Ev.atom] at hd
   | succ d =>
    simp only [Z5] at hd
    obtain ⟨a', rfl, ha⟩ := VR.agg_of (a := ZaP (Zu ρ d) cs) h
    have := Zdr ha fun i x y hx hv => Zew hι d x y hv (Zq hd i x hx)
    exact .agg this.1 this.2
  | tuple cs =>
   cases d with
   | zero => simp [Z5, Ev.atom] at hd
   | succ d =>
    simp only [Z5] at hd
    obtain ⟨a', rfl, ha⟩ := VR.tuple_of (a := ZaP (Zu ρ d) cs) h
    have := Zdr ha fun i x y hx hv => Zew hι d x y hv (Zq hd i x hx)
    exact .tuple this.1 this.2
  | _ => exact at_ (by cases d <;> exact hd)
def kap (κ : List Nat) (n j : Nat) : Nat := match κ[j]? with | some k => k | none => n + (j - κ.length)
theorem ZeX {κ : List Nat} {n j : Nat} (h : j < κ.length) : κ[j]? = some (kap κ n j) := by
 unfold kap
 rw [List.getElem?_eq_getElem h]
theorem Zh3 {κ : List Nat} {n j : Nat} (h : κ.length ≤ j) : kap κ n j = n + (j - κ.length) := by
 unfold kap
 rw [List.getElem?_eq_none h]
def Zgk (ρ : Nat → Nat) : AObj → AObj
 | .cells c t => .cells (c.map (Zu ρ 1)) t
 | .ro O m => .ro O m
def ZgA (m : Nat) : AObj → Bool
 | .cells c _ => Ze (Z5 m 1) c
 | .ro _ _ => true
theorem Zb0 {ρ : Nat → Nat} {o : AObj} : isC (some (Zgk ρ o)) = isC (some o) := by cases o <;> rfl
theorem LSpec.call {f : FuncId} {A : Array Value} {pre : List AObj} {v : Value} {post : List (Option AObj)} (h : LSpec P f A pre v post) (κ : List Nat) (n : Nat) (hκ : κ.length = pre.length) (hnd : κ.Nodup) (hlt : ∀ k ∈ κ, k < n) (hle : pre.length ≤ post.length)
  (hA : Ze (Z5 pre.length 3) A.toList = true) (hpre : ∀ o ∈ pre, ZgA pre.length o = true) (hv : Z5 post.length 3 v = true) (hpost : ∀ o, some o ∈ post → ZgA post.length o = true)
  {A' : Array Value} {pre' : List (Nat × AObj)} {v' : Value} {post' : List (Nat × Option AObj)} {dn : Nat} (eA : A' = ZaP (Zu (kap κ n) 3) A) (ev : v' = Zu (kap κ n) 3 v) (edn : pre.length + dn = post.length)
  (e1 : ∀ j o, pre[j]? = some o → Zt (kap κ n j) pre' = some (Zgk (kap κ n) o)) (e2 : ∀ k o, Zt k pre' = some o → ∃ j, j < pre.length ∧ k = kap κ n j)
  (e3 : ∀ j, j < post.length → behind pre' post' (kap κ n j) = (lkO post j).map (Zgk (kap κ n))) (e4 : ∀ k o, behind pre' post' k = some o → ∃ j, j < post.length ∧ k = kap κ n j) : Zdn P f A' pre' v' post' n dn := by
 intro ι w args' ha he hf
 subst eA ev
 have kl : ∀ j, j < pre.length → kap κ n j ∈ κ := fun j hj => List.mem_of_getElem? (ZeX (n := n) (by omega : j < κ.length))
 have kn : ∀ j, j < pre.length → kap κ n j < n := fun j hj => hlt _ (kl j hj)
 have kg : ∀ j, pre.length ≤ j → kap κ n j = n + (j - pre.length) := fun j hj => by rw [← hκ]; exact Zh3 (by omega)
 have kinj : ∀ i j, kap κ n i = kap κ n j → i = j := fun i j hij => by
  rcases Nat.lt_or_ge i pre.length with h1 | h1 <;> rcases Nat.lt_or_ge j pre.length with h2 | h2
  ·have a := ZeX (n := n) (by omega : i < κ.length)
   have b := ZeX (n := n) (by omega : j < κ.length)
   rw [hij, ← b] at a
   exact (List.getElem?_inj (by omega) hnd).1 a
  ·have := kn i h1; rw [hij, kg j h2] at this; omega
  ·have := kn j h2; rw [← hij, kg i h1] at this; omega
  ·rw [kg i h1, kg j h2] at hij; omega
 let ιl : Ren := fun j => if j < pre.length then ι (kap κ n j) else none
 have hιl : ∀ j, j < pre.length → ιl j = ι (kap κ n j) := fun j hj => by simp [ιl, hj]
 have hl : ∀ k b, k < pre.length → ι (kap κ n k) = some b → ιl k = some b := fun k b hk hb => by rw [hιl k hk]; exact hb
 have hargs : VRs ιl A args' := Zdr ha fun i x y hx hv => Zew hl 3 x y hv (Zq hA i x hx)
 have cr : ∀ {c : List Value} {C : Array Value}, Ze (Z5 pre.length 1) c = true → CR ι (c.map (Zu (kap κ n) 1)) C → CR ιl c C := fun {c C} hu hc => ⟨by simpa using hc.1, fun i x y hx hy => Zew hl 1 x y (hc.2 i _ y (by rw [List.getElem?_map, hx]; rfl) hy) (Zj hu x (List.mem_of_getElem? hx))⟩
 have hemb : Emb P ιl (lk pre) w := by
  refine ⟨fun j c t hj => ?_, fun j O hj => ?_, fun j j' b b' h1 h2 h3 h4 h5 => ?_, fun j b hj => ?_⟩
  ·have hlt' : j < pre.length := (List.getElem?_eq_some_iff.1 hj).1
   obtain ⟨b, C, q1, q2, q3, q4⟩ := he.obj _ _ t (e1 j _ hj)
   exact ⟨b, C, by rw [hιl j hlt']; exact q1, q2, cr (hpre _ (List.mem_of_getElem? hj)) q3, q4⟩
  ·have hlt' : j < pre.length := (List.getElem?_eq_some_iff.1 hj).1
   obtain ⟨b, q1, q2⟩ := he.ro _ _ (e1 j _ hj)
   exact ⟨b, by rw [hιl j hlt']; exact q1, q2⟩
  ·obtain ⟨o, ho⟩ := Option.isSome_iff_exists.1 (Z3 h1)
   obtain ⟨o', ho'⟩ := Option.isSome_iff_exists.1 h2
   have l1 : j < pre.length := (List.getElem?_eq_some_iff.1 ho).1
   have l2 : j' < pre.length := (List.getElem?_eq_some_iff.1 ho').1
   rw [hιl j l1] at h3
   rw [hιl j' l2] at h4
   have c1 : isC (Zt (kap κ n j) pre') = true := by rw [e1 j o ho, Zb0, ← ho]; exact h1
   exact kinj j j' (he.inj _ _ b b' c1 (by rw [e1 j' o' ho']; rfl) h3 h4 h5)
  ·by_cases hj' : j < pre.length
   ·rw [hιl j hj'] at hj; exact he.lt _ b hj
   ·simp [ιl, hj'] at hj
 refine (h ιl w args' (fun k hk => by by_cases h : k < pre.length; exact h; simp [ιl, h] at hk) hargs hemb).mono ?_
 rintro e w' ⟨v', ι2, rfl, hS, hdom, hvr⟩
 have live : ∀ j, j < pre.length → ∃ b, ιl j = some b := fun j hj => hemb.live (k := j) (by simp [lk, hj])
 let ι' : Ren := fun k => match ι k with | some b => some b | none => if n ≤ k ∧ k < n + dn then ι2 (k - n + pre.length) else none
 have hold : ∀ k b, ι k = some b → ι' k = some b := fun k b hk => by simp [ι', hk]
 have hnew : ∀ k b, k < post.length → ι2 k = some b → ι' (kap κ n k) = some b := fun k b hk hb => by
  rcases Nat.lt_or_ge k pre.length with h1 | h1
  ·obtain ⟨c, hc⟩ := live k h1
   have := hS.ext k c hc
   rw [hb] at this
   injection this with this
   subst this
   rw [hιl k h1] at hc
   exact hold _ _ hc
  ·have e := kg k h1
   have hn : ι (kap κ n k) = none := hf.2 _ (by omega) (by omega)
   have : ι' (kap κ n k) = ι2 (kap κ n k - n + pre.length) := by simp only [ι', hn]; rw [if_pos ⟨by omega, by omega⟩]
   rw [this, e, show n + (k - pre.length) - n + pre.length = k by omega]
   exact hb
 have hback : ∀ k b, k < post.length → ι' (kap κ n k) = some b → ι2 k = some b := fun k b hk hb => by
  rcases Nat.lt_or_ge k pre.length with h1 | h1
  ·obtain ⟨c, hc⟩ := live k h1
   have q := hS.ext k c hc
   rw [hιl k h1] at hc
   rw [hold _ _ hc] at hb
   rw [q]; exact hb
  ·have e := kg k h1
   have hn : ι (kap κ n k) = none := hf.2 _ (by omega) (by omega)
   have : ι' (kap κ n k) = ι2 (kap κ n k - n + pre.length) := by simp only [ι', hn]; rw [if_pos ⟨by omega, by omega⟩]
   rw [this, e, show n + (k - pre.length) - n + pre.length = k by omega] at hb
   exact hb
 have inv : ∀ k o, behind pre' post' k = some o → ∃ j o0, j < post.length ∧ k = kap κ n j ∧ lkO post j = some o0 ∧ o = Zgk (kap κ n) o0 := fun k o hk => by
  obtain ⟨j, hj, rfl⟩ := e4 k o hk
  rw [e3 j hj] at hk
  cases hp : lkO post j with
  | none => rw [hp] at hk; cases hk
  | some o0 => rw [hp] at hk; injection hk with hk; exact ⟨j, o0, hj, rfl, hp, hk.symm⟩
 have mem : ∀ {j o}, lkO post j = some o → some o ∈ post := fun {j o} hj => by
  unfold lkO at hj
  cases hp : post[j]? with
  | none => rw [hp] at hj; cases hj
  | some x => rw [hp] at hj; exact (show x = some o from hj) ▸ List.mem_of_getElem? hp
 refine ⟨v', ι', rfl, ⟨hold, ⟨fun k c t hk => ?_, fun k O hk => ?_, fun k k' b b' h1 h2 h3 h4 h5 => ?_, fun k b hk => ?_⟩, hS.os, hS.tape, hS.output, hS.size, fun b hb hno => hS.frame b hb fun j c hj hc => ?_, fun k b h1 h2 => ?_, fun k h1 h2 => ?_, fun k h1 h2 => ?_⟩, fun k hk => ?_, Zbq hnew 3 v v' hvr hv⟩
 ·obtain ⟨j, o0, hj, rfl, hp, ho⟩ := inv k _ hk
  cases o0 with
  | ro O => cases ho
  | cells c0 t0 =>
   injection ho with q1 q2
   subst q1 q2
   obtain ⟨b, C, q1, q2, q3, q4⟩ := hS.emb.obj j c0 _ hp
   have hu : Ze (Z5 post.length 1) c0 = true := hpost _ (mem hp)
   refine ⟨b, C, hnew j b hj q1, q2, ⟨by simpa using q3.1, fun i x y hx hy => ?_⟩, q4⟩
   rw [List.getElem?_map] at hx
   cases hz : c0[i]? with
   | none => rw [hz] at hx; cases hx
   | some z =>
    rw [hz] at hx
    injection hx with hx
    subst hx
    exact Zbq hnew 1 z y (q3.2 i z y hz hy) (Zj hu z (List.mem_of_getElem? hz))
 ·obtain ⟨j, o0, hj, rfl, hp, ho⟩ := inv k _ hk
  cases o0 with
  | cells c0 t0 => cases ho
  | ro O' m1 =>
   injection ho with q1 q2
   subst q1 q2
   obtain ⟨b, q1, q2⟩ := hS.emb.ro j _ hp
   exact ⟨b, hnew j b hj q1, q2⟩
 ·obtain ⟨o, ho⟩ := Option.isSome_iff_exists.1 (Z3 h1)
  obtain ⟨o', ho'⟩ := Option.isSome_iff_exists.1 h2
  obtain ⟨j, o0, hj, rfl, hp, rfl⟩ := inv k _ ho
  obtain ⟨j', o0', hj', rfl, hp', rfl⟩ := inv k' _ ho'
  rw [ho, Zb0] at h1
  rw [hS.emb.inj j j' b b' (by rw [hp]; exact h1) (by rw [hp']; rfl) (hback j b hj h3) (hback j' b' hj' h4) h5]
 ·cases hi : ι k with
  | some c =>
   have := hold k c hi
   rw [hk] at this; injection this with this; subst this
   exact Nat.lt_of_lt_of_le (he.lt k b hi) hS.size
  | none =>
   simp only [ι', hi] at hk
   split at hk
   ·exact hS.emb.lt _ b hk
   ·cases hk
 ·obtain ⟨o, ho⟩ := Option.isSome_iff_exists.1 (Z3 hj)
  have l1 : j < pre.length := (List.getElem?_eq_some_iff.1 ho).1
  rw [hιl j l1] at hc
  exact hno (kap κ n j) c (by rw [e1 j o ho, Zb0, ← ho]; exact hj) hc
 ·simp only [ι', h1] at h2
  split at h2
  ·rename_i hr
   have hnone : ιl (k - n + pre.length) = none := by simp only [ιl]; rw [if_neg (by omega)]
   rcases hS.new _ b hnone h2 with h | ⟨j, c, hj, hc, he2⟩
   ·exact .inl h
   ·obtain ⟨o, ho⟩ := Option.isSome_iff_exists.1 (Z3 hj)
    have l1 : j < pre.length := (List.getElem?_eq_some_iff.1 ho).1
    rw [hιl j l1] at hc
    exact .inr ⟨kap κ n j, c, by rw [e1 j o ho, Zb0, ← ho]; exact hj, hc, he2⟩
  ·cases h2
 ·obtain ⟨o, ho⟩ := Option.isSome_iff_exists.1 h1
  obtain ⟨j, o0, hj, rfl, hp, rfl⟩ := inv k _ ho
  rcases Nat.lt_or_ge j pre.length with l1 | l1
  ·have : (lk pre j).isSome := by simp [lk, l1]
   obtain ⟨o1, ho1⟩ := Option.isSome_iff_exists.1 this
   rw [e1 j o1 ho1]; rfl
  ·exact absurd (hf.2 _ (by rw [kg j l1]; omega) (by rw [kg j l1]; omega)) h2
 ·obtain ⟨o, ho⟩ := Option.isSome_iff_exists.1 (Z3 h1)
  obtain ⟨j, o0, hj, rfl, hp, rfl⟩ := inv k _ ho
  rcases Nat.lt_or_ge j pre.length with l1 | l1
  ·obtain ⟨c, hc⟩ := live j l1
   rw [ho, Zb0] at h1
   have q := hS.kind j (by rw [hp]; exact h1) (by rw [hc]; simp)
   obtain ⟨o1, ho1⟩ := Option.isSome_iff_exists.1 (Z3 q)
   rw [e1 j o1 ho1, Zb0, ← ho1]
   exact q
  ·exact absurd (hf.2 _ (by rw [kg j l1]; omega) (by rw [kg j l1]; omega)) h2
 ·cases hi : ι k with
  | some c => exact .inl (by simp)
  | none =>
   simp only [ι', hi] at hk
   split at hk
   ·rename_i hr; exact .inr (.inl hr)
   ·exact absurd rfl hk
end
end Ev
end Go.Proofs.YtldlnclkdgfahaaGreat
/- How runs of functions with loops are written: what is looked at of a stop, and rows of numbers. -/
namespace Go.Proofs.YtldlnclkdgfahaaGreat
open Go.RowKit
namespace Ev
/-! ### Where a loop stands -/
noncomputable section
end
section
variable {P : Program} {ext : FuncId → Option Ext}
end
/-! ### Rows of numbers -/
theorem wrap_i64 {x : Int} (h : -9223372036854775808 ≤ x ∧ x ≤ 9223372036854775807) : IntKind.i64.wrap x = x := Zh0 (by omega)
/-! ### Rows of bools -/
/-! ### Rows of the caller's -/
end Ev
end Go.Proofs.YtldlnclkdgfahaaGreat
/- Calls that are told, from what is known of a function. -/
namespace Go.Proofs.YtldlnclkdgfahaaGreat
open Go.RowKit
namespace Ev
section
variable {P : Program} {ext : FuncId → Option Ext}
end
end Ev
end Go.Proofs.YtldlnclkdgfahaaGreat
/- Functions of many loops: one behind the other, one in another. -/
namespace Go.Proofs.YtldlnclkdgfahaaGreat
open Go.RowKit
namespace Ev
section
variable {P : Program} {ext : FuncId → Option Ext}
variable {fn : Func} {pre : List AObj} {v : Value} {po : List (Option AObj)} {X : Type} {m i : Nat} {L : X → List (Nat × Value)} {H : X → List AObj} {μ : X → Nat} {bd : X → List Nat} {Gb : List Nat → Ren → World → (Nat → Act → World → Prop) → Prop} {x : X} {c : Code} {K : List Zat} {T0 : Tr Value} {fu : Nat} {orc : Orc} {live : List Nat} {bl : List (Option AObj)} {ob : List (Bool × Bool)}
end
/-! ### A law -/
end Ev
end Go.Proofs.YtldlnclkdgfahaaGreat
/- The runner, with places to stop at: where a way on of a given depth begins, so many of them left out. -/
namespace Go.Proofs.YtldlnclkdgfahaaGreat
open Go.RowKit
namespace Ev
inductive StopC where
 | fin (v : Value) (s : St)
 | head (a : Code) (K : List Zat) (T : Tr Value) (s : St)
 | next (i : Nat) (T : Tr Value) (s : St)
 | cut (b : Code) (K : List Zat) (T : Tr Value) (s : St)
noncomputable section
def StopC.s : StopC → St
 | .fin _ s => s
 | .head _ _ _ s => s
 | .next _ _ s => s
 | .cut _ _ _ s => s
def ZeY (s : St) : Option Value → Option StopC
 | some v => some (.fin v s)
 | none => none
def ZgB (P : Program) (fn : Func) (e : Ex) (T : Tr Value) (s : St) : Option StopC :=
 match e with
 | .exit _ => none
 | .normal => ZeY s (Zgj P fn T s)
 | .ret => ZeY s (Zgj P fn T s)
mutual
def Zaf (P : Program) (ext : FuncId → Option Ext) (fn : Func) (nt : Nat) (cd : Nat) : Nat → Nat → Code → List Zat → Tr Value → St → Option StopC
 | 0, _, _, _, _, _ => none
 | fu + 1, cm, c, K, T, s => match c with
  | .seq a b => Zaf P ext fn nt cd fu cm a (.seq b :: K) T s
  | .scope a => Zaf P ext fn nt cd fu cm a (.scp :: K) T s
  | .block id a => Zaf P ext fn nt cd fu cm a (.blk id :: K) T s
  | .cond x a b => match opnd T x with
   | .bool t => match t with
    | true => Zaf P ext fn nt cd fu cm a K T s
    | false => Zaf P ext fn nt cd fu cm b K T s
   | _ => none
  | .loop a => some (.head a K T s)
  | c => match Zf P ext nt fu c T s with
   | some (e, T', s') => Zw P ext fn nt cd fu cm K e T' s'
   | none => none
termination_by structural fu _ _ _ _ _ => fu
def Zw (P : Program) (ext : FuncId → Option Ext) (fn : Func) (nt : Nat) (cd : Nat) : Nat → Nat → List Zat → Ex → Tr Value → St → Option StopC
 | 0, _, _, _, _, _ => none
 | fu + 1, cm, K, e, T, s => match K with
  | [] => ZgB P fn e T s
  | .seq b :: K => match e with
   | .normal => match Nat.beq K.length cd with
    | false => Zaf P ext fn nt cd fu cm b K T s
    | true => match cm with
     | 0 => some (.cut b K T s)
     | m + 1 => Zaf P ext fn nt cd fu m b K T s
   | .exit i => Zw P ext fn nt cd fu cm K (.exit i) T s
   | .ret => Zw P ext fn nt cd fu cm K .ret T s
  | .blk id :: K => match e with
   | .exit i => bif Nat.beq i id then Zw P ext fn nt cd fu cm K .normal T s else Zw P ext fn nt cd fu cm K (.exit i) T s
   | .normal => Zw P ext fn nt cd fu cm K .normal T s
   | .ret => Zw P ext fn nt cd fu cm K .ret T s
  | .scp :: K => Zw P ext fn nt cd fu cm K e T s
  | .rnd i :: K => match e with
   | .normal => some (.next i T s)
   | .exit j => Zw P ext fn nt cd fu cm K (.exit j) T s
   | .ret => Zw P ext fn nt cd fu cm K .ret T s
termination_by structural fu _ _ _ _ _ => fu
end
end
section
variable {P : Program} {ext : FuncId → Option Ext}
theorem ZeZ {s : St} {o : Option Value} {st : StopC} (h : ZeY s o = some st) : ∃ v, st = .fin v s ∧ o = some v := by
 cases o with
 | none => cases h
 | some v => injection h with h; exact ⟨v, h.symm, rfl⟩
theorem Zfa {fn : Func} {e : Ex} {T : Tr Value} {s : St} {st : StopC} (h : ZgB P fn e T s = some st) : ∃ v, st = .fin v s ∧ (match e with | .exit _ => False | _ => True) ∧ (match Zp P T s fn.results.toList with | some [v] => some v | some vs => some (.tuple vs.toArray) | none => none) = some v := by
 cases e with
 | exit i => cases h
 | normal => obtain ⟨v, h1, h2⟩ := ZeZ h; exact ⟨v, h1, trivial, h2⟩
 | ret => obtain ⟨v, h1, h2⟩ := ZeZ h; exact ⟨v, h1, trivial, h2⟩
theorem Zh4 (F : Fit P ext) {fn : Func} {nt cd : Nat} : ∀ fu : Nat, (∀ cm c K T s st, Zaf P ext fn nt cd fu cm c K T s = some st → Up s st.s) ∧ (∀ cm K e T s st, Zw P ext fn nt cd fu cm K e T s = some st → Up s st.s) := by
 intro fu
 induction fu with
 | zero => exact ⟨fun _ _ _ _ _ _ h => by simp [Zaf] at h, fun _ _ _ _ _ _ h => by simp [Zw] at h⟩
 | succ fu ih =>
  obtain ⟨ihT, ihB⟩ := ih
  have other : ∀ cm c K T s st, (match Zf P ext nt fu c T s with | some (e, T', s') => Zw P ext fn nt cd fu cm K e T' s' | none => none) = some st → Up s st.s := fun cm c K T s st h => by
   split at h
   ·exact ((ZB (P := P) (ext := ext) (fun f g hg => (F.hp f g hg).up) fu).1 _ _ _ _ _ _ _ (by assumption)).trans (ihB _ _ _ _ _ _ h)
   ·cases h
  refine ⟨fun cm c K T s st h => ?_, fun cm K e T s st h => ?_⟩
  ·cases c <;> simp only [Zaf] at h
   case seq a b => exact ihT _ _ _ _ _ _ h
   case scope a => exact ihT _ _ _ _ _ _ h
   case block id a => exact ihT _ _ _ _ _ _ h
   case cond x a b =>
    split at h
    ·split at h
     ·exact ihT _ _ _ _ _ _ h
     ·exact ihT _ _ _ _ _ _ h
    ·cases h
   case loop a => injection h with h; subst h; exact Up.refl _
   all_goals exact other _ _ _ _ _ _ h
  ·cases K with
   | nil => simp only [Zw] at h; obtain ⟨v, rfl, _⟩ := Zfa h; exact Up.refl _
   | cons k K =>
    cases k <;> simp only [Zw] at h
    ·cases e <;> simp only at h
     ·split at h
      ·exact ihT _ _ _ _ _ _ h
      ·split at h
       ·injection h with h; subst h; exact Up.refl _
       ·exact ihT _ _ _ _ _ _ h
     ·exact ihB _ _ _ _ _ _ h
     ·exact ihB _ _ _ _ _ _ h
    ·cases e <;> simp only at h
     ·exact ihB _ _ _ _ _ _ h
     ·rename_i id i
      cases hb : Nat.beq i id <;> rw [hb] at h <;> exact ihB _ _ _ _ _ _ h
     ·exact ihB _ _ _ _ _ _ h
    ·exact ihB _ _ _ _ _ _ h
    ·cases e <;> simp only at h
     ·injection h with h; subst h; exact Up.refl _
     ·exact ihB _ _ _ _ _ _ h
     ·exact ihB _ _ _ _ _ _ h
def ZdC (P : Program) (fn : Func) (R : Ending → World → Prop) (Nx : Nat → Act → World → Prop) (nt : Nat) (ι : Ren) (a : Act) (w : World) : StopC → Prop
 | .fin v _ => ∀ v', VR ι v v' → R (.returned v') w
 | .head b K T _ => TR ι nt [] T a → (Code.loop b).wp P (post P fn R Nx K) a w
 | .next i T _ => TR ι nt [] T a → Nx i a w
 | .cut b K T _ => TR ι nt [] T a → b.wp P (post P fn R Nx K) a w
theorem ZgC (F : Fit P ext) {fn : Func} {nt cd : Nat} {R : Ending → World → Prop} {Nx : Nat → Act → World → Prop} : ∀ fu : Nat,
  (∀ cm c K T s st, Zaf P ext fn nt cd fu cm c K T s = some st → (∀ p ∈ st.s.ob, p.1 = p.2) → ∀ ι a w, TR ι nt [] T a → Emb P ι s.h.get w → Fresh ι s.n st.s.n →
   (∀ ι' a' w', Step P ι s.h.get w ι' st.s.h.get w' → Dom ι ι' s.n st.s.n → ZdC P fn R Nx nt ι' a' w' st) → c.wp P (post P fn R Nx K) a w) ∧
  (∀ cm K e T s st, Zw P ext fn nt cd fu cm K e T s = some st → (∀ p ∈ st.s.ob, p.1 = p.2) → ∀ ι a w, TR ι nt [] T a → Emb P ι s.h.get w → Fresh ι s.n st.s.n →
   (∀ ι' a' w', Step P ι s.h.get w ι' st.s.h.get w' → Dom ι ι' s.n st.s.n → ZdC P fn R Nx nt ι' a' w' st) → post P fn R Nx K e.out a w) := by
 intro fu
 induction fu with
 | zero => exact ⟨fun _ _ _ _ _ _ h => by simp [Zaf] at h, fun _ _ _ _ _ _ h => by simp [Zw] at h⟩
 | succ fu ih =>
  obtain ⟨ihT, ihB⟩ := ih
  have other : ∀ cm c K T s st, (match Zf P ext nt fu c T s with | some (e, T', s') => Zw P ext fn nt cd fu cm K e T' s' | none => none) = some st → (∀ p ∈ st.s.ob, p.1 = p.2) → ∀ ι a w, TR ι nt [] T a → Emb P ι s.h.get w → Fresh ι s.n st.s.n →
   (∀ ι' a' w', Step P ι s.h.get w ι' st.s.h.get w' → Dom ι ι' s.n st.s.n → ZdC P fn R Nx nt ι' a' w' st) → c.wp P (post P fn R Nx K) a w := fun cm c K T s st h ho ι a w hT he hf hQ => by
   split at h
   ·rename_i e T1 s1 h1
    have u1 := (ZB (P := P) (ext := ext) (fun f g hg => (F.hp f g hg).up) fu).1 _ _ _ _ _ _ _ h1
    have u2 := (Zh4 F (fn := fn) (nt := nt) fu).2 _ _ _ _ _ _ h
    refine wp_mono (ev_wp F h1 (Zm u2.ob ho) hT he (hf.mono (Nat.le_refl _) u2.n)) ?_
    rintro ex a1 w1 ⟨rfl, ι1, g1, g2, g3⟩
    exact ihB _ K e T1 s1 st h ho ι1 a1 w1 g3 g1.emb (hf.after g2 u1.n) fun ι' a' w' k1 k2 => hQ ι' a' w' (g1.trans k1) (g2.trans k2 u1.n u2.n)
   ·cases h
  refine ⟨fun cm c K T s st h ho ι a w hT he hf hQ => ?_, fun cm K e T s st h ho ι a w hT he hf hQ => ?_⟩
  ·have h0 := h
   cases c <;> simp only [Zaf] at h
   case seq x y => exact wp_seq (ihT _ x (.seq y :: K) T s st h ho ι a w hT he hf hQ)
   case scope x => exact wp_scope_straight (ihT _ x (.scp :: K) T s st h ho ι a w hT he hf hQ)
   case block id x => exact wp_block (ihT _ x (.blk id :: K) T s st h ho ι a w hT he hf hQ)
   case cond x y z =>
    split at h
    ·rename_i t ht
     have hx : a.eval x = .bool t := Zar ((ht ▸ hT.opnd x : VR ι (.bool t) (Zv a x)).bool_inv)
     split at h
     ·exact wp_cond_true hx (ihT _ y K T s st h ho ι a w hT he hf hQ)
     ·exact wp_cond_false hx (ihT _ z K T s st h ho ι a w hT he hf hQ)
    ·cases h
   case loop x =>
    injection h with h
    subst h
    exact hQ ι a w (Step.refl he) Dom.refl hT
   all_goals exact other _ _ K T s st h ho ι a w hT he hf hQ
  ·cases K with
   | nil =>
    simp only [Zw] at h
    obtain ⟨v, rfl, hne, hr⟩ := Zfa h
    obtain ⟨v', hrun, hv⟩ := ZR hT he hr
    have := hQ ι a w (Step.refl he) Dom.refl v' hv
    cases e with
    | normal => exact ⟨hT.2.1, v', hrun, this⟩
    | ret => exact ⟨hT.2.1, v', hrun, this⟩
    | exit i => exact hne.elim
   | cons k K =>
    cases k with
    | seq b =>
     simp only [Zw] at h
     cases e with
     | normal =>
      simp only at h
      split at h
      ·exact ihT _ b K T s st h ho ι a w hT he hf hQ
      ·split at h
       ·injection h with h
        subst h
        exact hQ ι a w (Step.refl he) Dom.refl hT
       ·exact ihT _ b K T s st h ho ι a w hT he hf hQ
     | exit i => exact ihB _ K (.exit i) T s st h ho ι a w hT he hf hQ
     | ret => exact ihB _ K .ret T s st h ho ι a w hT he hf hQ
    | blk id =>
     simp only [Zw] at h
     cases e with
     | normal => exact ihB _ K .normal T s st h ho ι a w hT he hf hQ
     | ret => exact ihB _ K .ret T s st h ho ι a w hT he hf hQ
     | exit i =>
      simp only at h
      show if i = id then _ else _
      cases hb : Nat.beq i id with
      | true =>
       rw [hb] at h
       rw [if_pos (Nat.eq_of_beq_eq_true hb)]
       exact ihB _ K .normal T s st h ho ι a w hT he hf hQ
      | false =>
       rw [hb] at h
       rw [if_neg (fun e => by rw [ZbC e] at hb; cases hb)]
       exact ihB _ K (.exit i) T s st h ho ι a w hT he hf hQ
    | scp =>
     simp only [Zw] at h
     have := ihB _ K e T s st h ho ι a w hT he hf hQ
     cases e <;> exact this
    | rnd i =>
     simp only [Zw] at h
     cases e with
     | normal =>
      injection h with h
      subst h
      exact hQ ι a w (Step.refl he) Dom.refl hT
     | exit j => exact ihB _ K (.exit j) T s st h ho ι a w hT he hf hQ
     | ret => exact ihB _ K .ret T s st h ho ι a w hT he hf hQ
end
noncomputable section
end
section
variable {P : Program} {ext : FuncId → Option Ext}
end
end Ev
end Go.Proofs.YtldlnclkdgfahaaGreat
/- Functions of loops as machines: states at loops' heads, and a step from each to the next one. -/
namespace Go.Proofs.YtldlnclkdgfahaaGreat
open Go.RowKit
namespace Ev
def Zaa : List Zat → List Nat
 | [] => []
 | .rnd i :: K => i :: Zaa K
 | .seq _ :: K => Zaa K
 | .blk _ :: K => Zaa K
 | .scp :: K => Zaa K
def ZcQ {X R : Type} (step : X → Option (X ⊕ R)) : Nat → X → Option R
 | 0, _ => none
 | n + 1, x => match step x with
  | none => none
  | some (.inl y) => ZcQ step n y
  | some (.inr r) => some r
theorem Zei {P : Program} {c : Code} {Q : Exit → Act → World → Prop} : ∀ (n m : Nat), n ≤ m → ∀ a w, Code.rounds P c Q n a w → Code.rounds P c Q m a w
 | 0, _, _, _, _, h => h.elim
 | n + 1, 0, hm, _, _, _ => by omega
 | n + 1, m + 1, hm, a, w, h => by
  rw [rounds_succ] at h ⊢
  refine wp_mono h ?_
  intro e a' w' h'
  cases e with
  | normal => exact Zei n m (by omega) a' w' h'
  | exit i => exact h'
  | goto l => exact h'
  | ret => exact h'
  | panic ch => exact h'
  | outgrown => exact h'
theorem Za0 {P : Program} {fn : Func} {R : Ending → World → Prop} {Nx Nx' : Nat → Act → World → Prop} : ∀ {K : List Zat}, (∀ j ∈ Zaa K, Nx' j = Nx j) → post P fn R Nx' K = post P fn R Nx K
 | [], _ => rfl
 | .seq b :: K, h => by simp only [post]; rw [Za0 (K := K) h]
 | .blk id :: K, h => by simp only [post]; rw [Za0 (K := K) h]
 | .scp :: K, h => by simp only [post]; rw [Za0 (K := K) h]
 | .rnd j :: K, h => by
  simp only [post]
  rw [Za0 (K := K) fun j hj => h j (List.mem_cons_of_mem _ hj), h j (List.mem_cons_self ..)]
noncomputable def ZdD : Nat → List (Option AObj) → Tr AObj
 | _, [] => .nil
 | i, none :: l => ZdD (i + 1) l
 | i, some o :: l => (ZdD (i + 1) l).set i (some o)
structure Mach where
 fn : Func
 pre : List AObj
 X : Type
 R : Type
 step : X → Option (X ⊕ R)
 hd : X → Nat
 code : Nat → Code × List Zat
 isL : Nat → Bool
 L : X → List (Nat × Value)
 H : X → List (Option AObj)
 V : R → Value
 Po : R → List (Option AObj)
namespace Mach
def after (M : Mach) (n : Nat) : M.X ⊕ M.R → Option M.R
 | .inl y => ZcQ M.step n y
 | .inr r => some r
def KK (M : Mach) (i : Nat) : List Zat := match M.isL i with | true => .rnd i :: (M.code i).2 | false => (M.code i).2
def IntoM (M : Mach) (y : M.X) (T : Tr Value) (s : St) : Prop :=
 ∃ live, Zev M.pre.length live = true ∧ Into M.fn.ntmps (M.H y).length (fun t => Zt t (M.L y)) (ZdD 0 (M.H y)) T s live
def To (M : Mach) (K0 : List Zat) : StopC → M.X ⊕ M.R → Prop
 | .fin u s, .inr r => ∃ live, Zhc M.pre.length (M.V r) (M.Po r) u s live
 | .next j T s, .inl y => j = M.hd y ∧ M.isL j = true ∧ j ∈ Zaa K0 ∧ M.IntoM y T s
 | .head b K T s, .inl y => M.isL (M.hd y) = true ∧ (b, K) = M.code (M.hd y) ∧ (∀ j ∈ Zaa K, j ∈ Zaa K0) ∧ M.IntoM y T s
 | .cut b K T s, .inl y => M.isL (M.hd y) = false ∧ (b, K) = M.code (M.hd y) ∧ (∀ j ∈ Zaa K, j ∈ Zaa K0) ∧ M.IntoM y T s
 | _, _ => False
noncomputable def Start (M : Mach) (x : M.X) (gv : Nat → Value) (P : Program) (ext : FuncId → Option Ext) (cd cm fu : Nat) (orc : Orc) : Option StopC :=
 Zaf P ext M.fn M.fn.ntmps cd fu cm (M.code (M.hd x)).1 (M.KK (M.hd x)) (tmps M.fn.ntmps (fun t => Zt t (M.L x)) gv) ⟨ZdD 0 (M.H x), (M.H x).length, [], orc, []⟩
noncomputable def Ok (M : Mach) (P : Program) (ext : FuncId → Option Ext) (x : M.X) (o : Option (M.X ⊕ M.R)) : Prop :=
 ∀ y, o = some y → ∀ gv, ∃ cd cm fu orc st, M.Start x gv P ext cd cm fu orc = some st ∧ (∀ p ∈ st.s.ob, p.1 = p.2) ∧ st.s.n ≤ far ∧ M.To (M.KK (M.hd x)) st y
def AtM (M : Mach) (P : Program) (ι0 : Ren) (w0 : World) (y : M.X) (gv : Nat → Value) (a : Act) (w : World) : Prop :=
 At P M.fn.ntmps (tmps M.fn.ntmps (fun t => Zt t (M.L y)) gv) (ZdD 0 (M.H y)).get (M.H y).length far ι0 (lk M.pre) w0 a w
section
variable {P : Program} {ext : FuncId → Option Ext}
def Good (M : Mach) (P : Program) (r : M.R) (ι0 : Ren) (w0 : World) (n : Nat) (x : M.X) (Nx : Nat → Act → World → Prop) (a : Act) (w : World) : Prop :=
 match M.isL (M.hd x) with
 | true => Code.rounds P (M.code (M.hd x)).1 (post P M.fn (Fin P ι0 M.pre w0 (M.V r) (M.Po r)) Nx (M.code (M.hd x)).2) n a w
 | false => (M.code (M.hd x)).1.wp P (post P M.fn (Fin P ι0 M.pre w0 (M.V r) (M.Po r)) Nx (M.code (M.hd x)).2) a w
def Outer (M : Mach) (P : Program) (r : M.R) (ι0 : Ren) (w0 : World) (n : Nat) (js : List Nat) (Nx : Nat → Act → World → Prop) : Prop :=
 ∀ m z, m < n → ZcQ M.step m z = some r → M.isL (M.hd z) = true → M.hd z ∈ js → ∀ gv a w, M.AtM P ι0 w0 z gv a w → Nx (M.hd z) a w
theorem run1 (M : Mach) (hH : ∀ x, (M.H x).length ≤ far) (hPo : ∀ r, (M.Po r).length ≤ far) (r : M.R) {ι0 : Ren} {w0 : World} (hd0 : ∀ k, ι0 k ≠ none → k < M.pre.length) (n : Nat)
  (ih : ∀ m, m ≤ n → ∀ x, ZcQ M.step m x = some r → ∀ Nx, M.Outer P r ι0 w0 m (Zaa (M.code (M.hd x)).2) Nx → ∀ gv a w, M.AtM P ι0 w0 x gv a w → M.Good P r ι0 w0 m x Nx a w)
  {K0 : List Zat} {Nx : Nat → Act → World → Prop} (hNx : M.Outer P r ι0 w0 (n + 1) (Zaa K0) Nx) {st : StopC} {y : M.X ⊕ M.R} (hto : M.To K0 st y) (hy : M.after n y = some r)
  {ι : Ren} {a : Act} {w : World} (hS : Step P ι0 (lk M.pre) w0 ι st.s.h.get w) : ZdC P M.fn (Fin P ι0 M.pre w0 (M.V r) (M.Po r)) Nx M.fn.ntmps ι a w st := by
 have sub : ∀ {K : List Zat}, (∀ j ∈ Zaa K, j ∈ Zaa K0) → M.Outer P r ι0 w0 n (Zaa K) Nx := fun {K} hs m z hm hz hl hj gv a w hat => hNx m z (by omega) hz hl (hs _ hj) gv a w hat
 cases st with
 | fin u s =>
  cases y with
  | inl y => exact hto.elim
  | inr r' =>
   obtain ⟨live, hto⟩ := hto
   obtain rfl : r' = r := Option.some.inj hy
   exact fun v' hv => Zh2 (hPo r') hd0 hto hS hv
 | next j T s =>
  cases y with
  | inr r' => exact hto.elim
  | inl y =>
   obtain ⟨rfl, hl, hj, live, hk, hi⟩ := hto
   intro hT
   obtain ⟨gv, hat⟩ := ZdS (hH y) hi hk hd0 hT hS
   exact hNx n y (by omega) hy hl hj gv a w hat
 | head b K T s =>
  cases y with
  | inr r' => exact hto.elim
  | inl y =>
   obtain ⟨hl, hc, hsub, live, hk, hi⟩ := hto
   intro hT
   obtain ⟨gv, hat⟩ := ZdS (hH y) hi hk hd0 hT hS
   have e1 : b = (M.code (M.hd y)).1 := congrArg Prod.fst hc
   have e2 : K = (M.code (M.hd y)).2 := congrArg Prod.snd hc
   subst e1 e2
   have := ih n (Nat.le_refl _) y hy Nx (sub hsub) gv a w hat
   unfold Good at this
   rw [hl] at this
   exact wp_loop_rounds n this
 | cut b K T s =>
  cases y with
  | inr r' => exact hto.elim
  | inl y =>
   obtain ⟨hl, hc, hsub, live, hk, hi⟩ := hto
   intro hT
   obtain ⟨gv, hat⟩ := ZdS (hH y) hi hk hd0 hT hS
   have e1 : b = (M.code (M.hd y)).1 := congrArg Prod.fst hc
   have e2 : K = (M.code (M.hd y)).2 := congrArg Prod.snd hc
   subst e1 e2
   have := ih n (Nat.le_refl _) y hy Nx (sub hsub) gv a w hat
   unfold Good at this
   rw [hl] at this
   exact this
theorem rounds (F : Fit P ext) (M : Mach) (hH : ∀ x, (M.H x).length ≤ far) (hPo : ∀ r, (M.Po r).length ≤ far) (hK : ∀ x, M.isL (M.hd x) = true → M.hd x ∉ Zaa (M.code (M.hd x)).2) (ok : ∀ x, M.Ok P ext x (M.step x)) (r : M.R) {ι0 : Ren} {w0 : World} (hd0 : ∀ k, ι0 k ≠ none → k < M.pre.length) :
  ∀ (n : Nat) (x : M.X), ZcQ M.step n x = some r → ∀ Nx, M.Outer P r ι0 w0 n (Zaa (M.code (M.hd x)).2) Nx → ∀ gv a w, M.AtM P ι0 w0 x gv a w → M.Good P r ι0 w0 n x Nx a w := by
 intro n
 induction n using Nat.strongRecOn with
 | ind n ih =>
  intro x hx Nx hNx gv a w hat
  cases n with
  | zero => cases hx
  | succ n =>
   have hat0 := hat
   obtain ⟨ι, hT, hS, hfr⟩ := hat
   cases hy : M.step x with
   | none => simp only [ZcQ, hy] at hx; cases hx
   | some y =>
    obtain ⟨cd, cm, fu, orc, st, hev, ho, hn, hto⟩ := ok x y hy gv
    have hyr : M.after n y = some r := by
     cases y <;> (simp only [ZcQ, hy] at hx; exact hx)
    have fresh : Fresh ι (M.H x).length st.s.n := ⟨hn, fun k h1 h2 => hfr k h1 (Nat.lt_of_lt_of_le h2 hn)⟩
    have ih' : ∀ m, m ≤ n → ∀ x, ZcQ M.step m x = some r → ∀ Nx, M.Outer P r ι0 w0 m (Zaa (M.code (M.hd x)).2) Nx → ∀ gv a w, M.AtM P ι0 w0 x gv a w → M.Good P r ι0 w0 m x Nx a w := fun m hm => ih m (by omega)
    have go : ∀ Nx', M.Outer P r ι0 w0 (n + 1) (Zaa (M.KK (M.hd x))) Nx' → (M.code (M.hd x)).1.wp P (post P M.fn (Fin P ι0 M.pre w0 (M.V r) (M.Po r)) Nx' (M.KK (M.hd x))) a w := fun Nx' hNx' =>
     (ZgC F (R := Fin P ι0 M.pre w0 (M.V r) (M.Po r)) (Nx := Nx') fu).1 cm _ _ _ _ st hev ho ι a w hT hS.emb fresh fun ι' a' w' g1 _ => run1 M hH hPo r hd0 n ih' hNx' hto hyr (hS.trans g1)
    unfold Good
    cases hl : M.isL (M.hd x) with
    | false =>
     have e : M.KK (M.hd x) = (M.code (M.hd x)).2 := by unfold KK; rw [hl]
     rw [e] at go
     exact go Nx hNx
    | true =>
     have e : M.KK (M.hd x) = .rnd (M.hd x) :: (M.code (M.hd x)).2 := by unfold KK; rw [hl]
     rw [e] at go
     show Code.rounds P _ _ (n + 1) a w
     rw [rounds_succ]
     let Nx' : Nat → Act → World → Prop := fun j => if j = M.hd x then Code.rounds P (M.code (M.hd x)).1 (post P M.fn (Fin P ι0 M.pre w0 (M.V r) (M.Po r)) Nx (M.code (M.hd x)).2) n else Nx j
     have n1 : Nx' (M.hd x) = Code.rounds P (M.code (M.hd x)).1 (post P M.fn (Fin P ι0 M.pre w0 (M.V r) (M.Po r)) Nx (M.code (M.hd x)).2) n := if_pos rfl
     have n2 : ∀ j, j ≠ M.hd x → Nx' j = Nx j := fun j hj => if_neg hj
     have hp : post P M.fn (Fin P ι0 M.pre w0 (M.V r) (M.Po r)) Nx' (M.code (M.hd x)).2 = post P M.fn (Fin P ι0 M.pre w0 (M.V r) (M.Po r)) Nx (M.code (M.hd x)).2 := Za0 fun j hj => n2 j fun e => by subst e; exact hK x hl hj
     have := go Nx' fun m z hm hz hlz hj gv a w hat => by
      by_cases hzx : M.hd z = M.hd x
      ·rw [hzx, n1]
       have := ih m (by omega) z hz Nx (fun m' z' h1 h2 h3 h4 => hNx m' z' (by omega) h2 h3 (by rw [hzx] at h4; exact h4)) gv a w hat
       unfold Good at this
       rw [hlz] at this
       rw [hzx] at this
       exact Zei m n (by omega) a w this
      ·rw [n2 _ hzx]
       rcases List.mem_cons.1 hj with h | h
       ·exact absurd h hzx
       ·exact hNx m z (by omega) hz hlz h gv a w hat
     simp only [post, hp, n1] at this
     exact this
end
/-! ### How leaves are written -/
section
variable {P : Program} {ext : FuncId → Option Ext} {M : Mach} {x : M.X} {cd cm fu : Nat} {orc : Orc} {live : List Nat} {bl : List (Option AObj)} {ob : List (Bool × Bool)}
variable {A : Array Value}
end
end Mach
/-! ### Functions without loops -/
section
variable {P : Program} {ext : FuncId → Option Ext} {fn : Func} {pre : List AObj} {A : Array Value} {R : Type} {V : R → Value} {Po : R → List (Option AObj)} {live : List Nat} {bl : List (Option AObj)} {ob : List (Bool × Bool)} {fu : Nat} {orc : Orc}
end
def ZC (ns : List Int) : ByteArray := ns.foldl (fun r n => r.push (UInt8.ofNat n.toNat)) ByteArray.empty
def Zgl (a b : List Int) : Bool := ZC a == ZC b
end Ev
end Go.Proofs.YtldlnclkdgfahaaGreat
/- Rows of elements of any kind: each element so many cells. -/
namespace Go.Proofs.YtldlnclkdgfahaaGreat
open Go.RowKit
namespace Ev
structure Enc (α : Type) where
 enc : α → List Value
 w : Nat
 dflt : α
 len : ∀ a, (enc a).length = w
 atoms : ∀ a, Ze atom (enc a) = true
section
variable {α : Type} {E : Enc α}
/-! ### Such a row is a row of atoms -/
end
abbrev vs (k o n c : Nat) : Value := .slice (some ⟨k, o, none⟩) n c
theorem bT {a b : Int} (h : a = b) : (a == b) = true := beq_iff_eq.2 h
theorem bF {a b : Int} (h : ¬ a = b) : (a == b) = false := beq_eq_false_iff_ne.2 h
/-! ### Rows of the caller's, as rows -/
section
variable {α : Type} {E : Enc α}
end
/-! ### Bytes as strings -/
end Ev
end Go.Proofs.YtldlnclkdgfahaaGreat
/- The law ModelNobody, for every input. -/
namespace Go.Proofs.YtldlnclkdgfahaaGreat
open Go.ChangeShapes Go.WideShapes Go.ChangeAt Go.RowKit
namespace Ev
set_option linter.unusedVariables false
theorem fit_less {P : Program} {ext : FuncId → Option Ext} (F : Fit P ext) (p : FuncId → Bool) : Fit P (fun f => bif p f then none else ext f) :=
 have h : ∀ f e, (bif p f then none else ext f) = some e → ext f = some e := fun f e h => by cases hp : p f <;> rw [hp] at h <;> first | cases h; done | exact h
 ⟨F.mixed, F.go, fun f g e => F.fn f g (h _ _ e), fun f g e => F.hp f g (h _ _ e), fun f S e => F.tc f S (h _ _ e), fun f n e => F.mark f n (h _ _ e), fun f k e' he => F.ext f k e' (h _ _ he)⟩
theorem toL_inj {a b : ByteArray} : (a.toList == b.toList) = (a == b) := (beq_toListBytes a b).symm
theorem ii (x : Int) : -9223372036854775808 ≤ IntKind.i64.wrap x ∧ IntKind.i64.wrap x ≤ 9223372036854775807 := by
 by_cases h : x % 18446744073709551616 < 9223372036854775808
 ·have h' : ¬ (x % 18446744073709551616 ≥ 9223372036854775808) := by omega
  have e : IntKind.i64.wrap x = x % 18446744073709551616 := by simp [IntKind.wrap, IntKind.bits, IntKind.signed, h']
  rw [e]; omega
 ·have h' : x % 18446744073709551616 ≥ 9223372036854775808 := by omega
  have e : IntKind.i64.wrap x = x % 18446744073709551616 - 18446744073709551616 := by simp [IntKind.wrap, IntKind.bits, IntKind.signed, h']
  rw [e]; omega
theorem lit_bd {l : List Int} {i : Nat} (h : ∀ x ∈ (0 : Int) :: l, -9223372036854775808 ≤ x ∧ x ≤ 9223372036854775807) : -9223372036854775808 ≤ l.getD i 0 ∧ l.getD i 0 ≤ 9223372036854775807 := by
 by_cases hi : i < l.length
 ·have e : l.getD i 0 = l[i] := by simp [List.getD, hi]
  rw [e]; exact h _ (List.mem_cons_of_mem _ (List.getElem_mem hi))
 ·have e : l.getD i 0 = 0 := by simp [List.getD, List.getElem?_eq_none (Nat.le_of_not_lt hi)]
  rw [e]; exact h _ (List.mem_cons_self ..)
theorem ZgD (ns : List Int) : ∀ acc : ByteArray, (ns.foldl (fun r n => r.push (UInt8.ofNat n.toNat)) acc).data = acc.data ++ (ns.map fun n => UInt8.ofNat n.toNat).toArray := by
 induction ns with
 | nil => intro acc; simp
 | cons n ns ih => intro acc; rw [List.foldl_cons, ih]; simp [ByteArray.push]
theorem Zbr (ns : List Int) : (ZC ns).data = (ns.map fun n => UInt8.ofNat n.toNat).toArray := by
 unfold ZC; rw [ZgD]; simp
theorem cat_eq (a b : List Int) : ZC a ++ ZC b = ZC (a ++ b) := by
 apply ByteArray.ext
 rw [ByteArray.data_append, Zbr, Zbr, Zbr]; simp
theorem str_size {x y : List Int} (h : x.length + y.length ≤ 1000000) : (((ZC x).size + (ZC y).size : Nat) : Int) ≤ IntKind.i64.max := by
 have e : ∀ l : List Int, (ZC l).size = l.length := fun l => by
  show (ZC l).data.size = l.length
  rw [Zbr]; simp
 rw [e, e]
 have : IntKind.i64.max = 9223372036854775807 := by decide
 omega
theorem Zh5 {x y : List Int} (h : Zgl x y = true) : ((ZC x).toList == (ZC y).toList) = true := toL_inj.trans h
theorem Zh6 {x y : List Int} (h : ¬ (Zgl x y = true)) : ((ZC x).toList == (ZC y).toList) = false := toL_inj.trans (Bool.eq_false_iff.2 h)
theorem strB_n {x y : List Int} (h : ¬ (Zgl x y = true)) : (!((ZC x).toList == (ZC y).toList)) = true := by rw [Zh6 h]; rfl
theorem strB_m {x y : List Int} (h : Zgl x y = true) : (!((ZC x).toList == (ZC y).toList)) = false := by rw [Zh5 h]; rfl
theorem Zh7 {a b : Int} (h : ¬ 0 ≤ a) (hb : 0 < b) : Int.tmod a b = 0 - ((0 - a) % b) := by
 have e : a = -(-a) := by omega
 rw [e, Int.neg_tmod, Int.tmod_eq_emod_of_nonneg (by omega)]
 simp
theorem Zh8 (n : Int) : IntKind.i64.wrap (((BitVec.ofInt IntKind.i64.bits n &&& BitVec.ofInt IntKind.i64.bits 7).toNat : Nat) : Int) = n % 8 := by
 have e1 : (BitVec.ofInt 64 n &&& BitVec.ofInt 64 7).toNat = (BitVec.ofInt 64 n).toNat % 8 := by
  rw [BitVec.toNat_and]
  have : (BitVec.ofInt 64 7).toNat = 2 ^ 3 - 1 := by decide
  rw [this, Nat.and_two_pow_sub_one_eq_mod]
 have e2 : ((BitVec.ofInt 64 n).toNat : Int) = n % 18446744073709551616 := by
  rw [BitVec.toNat_ofInt]
  omega
 show IntKind.i64.wrap (((BitVec.ofInt 64 n &&& BitVec.ofInt 64 7).toNat : Nat) : Int) = n % 8
 rw [e1, wrap_i64 (by omega)]
 omega
theorem uu (x : Int) : 0 ≤ IntKind.u64.wrap x ∧ IntKind.u64.wrap x ≤ 18446744073709551615 := by
 have h : IntKind.u64.wrap x = x % 18446744073709551616 := by simp [IntKind.wrap, IntKind.bits, IntKind.signed]
 rw [h]; omega
abbrev vq : Value := .int .i64 0
abbrev vf : Value := .bool false
abbrev vT : Value := .bool true
abbrev vn : Value := .slice none 0 0
abbrev vtt : Value := .tuple #[]
noncomputable abbrev dS {α : Type} (a : α) : Bool := dP (a = a)
theorem ltA {p : Prop} (h : p := by first | omega | (simp only [List.length_set, List.length_append, List.length_cons, List.length_nil, List.length_replicate, List.length_take, List.length_drop] at * <;> omega)) : p := h
theorem eqA {p : Prop} (h : p := by first | rfl | omega | (simp only [List.length_set, List.length_append, List.length_cons, List.length_nil, List.length_replicate, List.length_take, List.length_drop] at * <;> omega)) : p := h
theorem rr {p q : Prop} (h : p := by rfl) (h2 : q := by rfl) : p ∧ q := ⟨h, h2⟩
section
variable {l : List (Bool × Bool)}
theorem oT {a b : Int} (hl : ∀ q ∈ l, q.1 = q.2) (h : a = b := by omega) : ∀ q ∈ ((a == b), true) :: l, q.1 = q.2 := Z8 (bT h) hl
theorem oF {a b : Int} (hl : ∀ q ∈ l, q.1 = q.2) (h : ¬ a = b := by omega) : ∀ q ∈ ((a == b), false) :: l, q.1 = q.2 := Z8 (bF h) hl
theorem oD {a b : Int} (hl : ∀ q ∈ l, q.1 = q.2) (h : a ≠ b := by omega) : ∀ q ∈ ((a != b), true) :: l, q.1 = q.2 := Z8 (bne_iff_ne.2 h) hl
theorem oE {a b : Int} (hl : ∀ q ∈ l, q.1 = q.2) (h : a = b := by omega) : ∀ q ∈ ((a != b), false) :: l, q.1 = q.2 := Z8 (bne_eq_false_iff_eq.2 h) hl
theorem oY {p : Prop} [Decidable p] (hl : ∀ q ∈ l, q.1 = q.2) (h : p := by omega) : ∀ q ∈ (decide p, true) :: l, q.1 = q.2 := Z8 (decide_eq_true h) hl
theorem oN {p : Prop} [Decidable p] (hl : ∀ q ∈ l, q.1 = q.2) (h : ¬ p := by omega) : ∀ q ∈ (decide p, false) :: l, q.1 = q.2 := Z8 (decide_eq_false h) hl
theorem oR {α : Type} {a b : α} (hl : ∀ q ∈ l, q.1 = q.2) (h : a = b := by rfl) : ∀ q ∈ (dP (a = b), true) :: l, q.1 = q.2 := Z8 (ZfE h) hl
theorem oB {a b : Nat} (hl : ∀ q ∈ l, q.1 = q.2) (h : a < b := by omega) : ∀ q ∈ (Nat.blt a b, true) :: l, q.1 = q.2 := Z8 (Zg9 h) hl
theorem oL {a b : Nat} (hl : ∀ q ∈ l, q.1 = q.2) (h : a < b := by first | omega | (simp only [List.length_set, List.length_append, List.length_cons, List.length_nil, List.length_replicate, List.length_take, List.length_drop] at * <;> omega)) : ∀ q ∈ (Nat.blt a b, true) :: l, q.1 = q.2 := Z8 (Zg9 h) hl
theorem oI {a b : Int} (hl : ∀ q ∈ l, q.1 = q.2) (h : a = b := by first | rfl | exact Zh1 (by omega)) : ∀ q ∈ ((a == b), true) :: l, q.1 = q.2 := Z8 (bT h) hl
end
set_option maxRecDepth 100000
theorem Zfb (fu : Nat) {f : FuncId} {args args' : Array Value} {v : Value} {orc : Orc} {ob : List (Bool × Bool)} (w : World) {b : Nat} (hb : b < w.heap.size) (h : Zgg (ZA Tryz.prog ext fu f args ⟨.nil, 1, [], orc, []⟩) = some (v, ob)) (ho : ∀ p ∈ ob, p.1 = p.2) (ha : VRs (upd (fun _ => none) 0 (some (b, 0))) args args') : Calls Tryz.prog f args' w (Ret v w) := by
 unfold Zgg at h
 split at h
 ·rename_i u s hr
  obtain ⟨hf, h⟩ := Zb h
  injection h with h
  injection h with h1 h2
  subst h1 h2
  have hF := (ZM (P := Tryz.prog) fit fu).2.2.2.1 f args _ u s hr ho (upd (fun _ => none) 0 (some (b, 0))) w args' ha
   ⟨fun k c t hk => by simp [Tr.get_nil] at hk, fun k O hk => by simp [Tr.get_nil] at hk, fun k k' b b' hk => by simp [Tr.get_nil, isC] at hk, fun k b1 hk => by
    by_cases h0 : k = 0
    ·subst h0; rw [Zc] at hk; injection hk with hk; subst hk; exact hb
    ·rw [Za h0] at hk; cases hk⟩ ⟨Nat.le_of_ble_eq_true (Bool.and_eq_true_iff.1 hf).2, fun k hk _ => Za (by show k ≠ 0; have : 1 ≤ k := hk; omega)⟩
  refine hF.mono ?_
  rintro e w' ⟨v', ι', rfl, g1, g2, g3⟩
  have := g3.eq_of_free (Bool.and_eq_true_iff.1 hf).1
  subst this
  exact ⟨rfl, g1.os, g1.tape, g1.output, g1.size, fun k hk => g1.frame k hk fun j c hj => by simp [Tr.get_nil, isC] at hj⟩
 ·cases h
theorem Zgm {P : Program} {w : World} {r : Reach} {base : Nat} {u e : TypeId} {c : Value} (hu : P.underlying u = some (.slice e)) (h : Cell.okWide P w r base u c) : c = .slice none 0 0 ∨ ∃ (b o len cap : Nat), c = .slice (some ⟨b, o, none⟩) len cap ∧ len ≤ cap ∧ b < w.heap.size := by
 simp only [Cell.okWide, hu, Cell.ok] at h
 cases c with
 | slice a l cp =>
  cases a with
  | none =>
   left
   cases l with
   | zero => cases cp with
    | zero => rfl
    | succ n => exact (show False from h).elim
   | succ n => exact (show False from h).elim
  | some a =>
   right
   simp only at h
   obtain ⟨b, o, spot⟩ := a
   obtain ⟨_, hspot, row, cells, hsh, _⟩ := h.2.2
   have hspot : spot = none := hspot
   subst hspot
   have hsh : w.shape? b = some (row, cells) := hsh
   unfold World.shape? at hsh
   split at hsh
   ·rename_i C el fr hB
    exact ⟨b, o, l, cp, rfl, h.1, (Array.getElem?_eq_some_iff.1 hB).1⟩
   ·cases hsh
 | _ => simp at h
theorem pth0 (z0_0 z0_1 z0_2 z0_3 z0_4 z0_5 z0_7 z1_0 z1_1 z2 : Int) (w : World) : Calls Tryz.prog 3 #[Value.agg #[Value.int .i64 z0_0, Value.int .i64 z0_1, Value.int .i64 z0_2, Value.int .i64 z0_3, Value.int .i64 z0_4, Value.int .i64 z0_5, Value.slice none 0 0, Value.int .i64 z0_7], Value.agg #[Value.int .i64 z1_0, Value.int .i64 z1_1], Value.int .i64 z2] w (Ret (.bool true) w) :=
 Zf8 40000 (args := #[Value.agg #[Value.int .i64 z0_0, Value.int .i64 z0_1, Value.int .i64 z0_2, Value.int .i64 z0_3, Value.int .i64 z0_4, Value.int .i64 z0_5, Value.slice none 0 0, Value.int .i64 z0_7], Value.agg #[Value.int .i64 z1_0, Value.int .i64 z1_1], Value.int .i64 z2]) (orc := (ZgX [] [] [] [] [])) (ob := []) w (by kernel_rfl) ZdQ (Zd (.aggl (Zd (.atom rfl) (Zd (.atom rfl) (Zd (.atom rfl) (Zd (.atom rfl) (Zd (.atom rfl) (Zd (.atom rfl) (Zd (.atom rfl) (Zd (.atom rfl) Zas))))))))) (Zd (.aggl (Zd (.atom rfl) (Zd (.atom rfl) Zas))) (Zd (.atom rfl) Zas)))
theorem pth1 (z0_0 z0_1 z0_2 z0_3 z0_4 z0_5 z0_7 z1_0 z1_1 z2 : Int) (b o n c : Nat) (hn : n ≤ c) (g0 : (12 : Int) < (n : Int)) (g1 : (12 : Int) ≤ (c : Int)) (w : World) (hb : b < w.heap.size) : Calls Tryz.prog 3 #[Value.agg #[Value.int .i64 z0_0, Value.int .i64 z0_1, Value.int .i64 z0_2, Value.int .i64 z0_3, Value.int .i64 z0_4, Value.int .i64 z0_5, Value.slice (some ⟨b, o, none⟩) n c, Value.int .i64 z0_7], Value.agg #[Value.int .i64 z1_0, Value.int .i64 z1_1], Value.int .i64 z2] w (Ret (.bool true) w) :=
 Zfb 40000 (args := #[Value.agg #[Value.int .i64 z0_0, Value.int .i64 z0_1, Value.int .i64 z0_2, Value.int .i64 z0_3, Value.int .i64 z0_4, Value.int .i64 z0_5, Value.slice (some ⟨0, o, none⟩) n c, Value.int .i64 z0_7], Value.agg #[Value.int .i64 z1_0, Value.int .i64 z1_1], Value.int .i64 z2]) (orc := (ZgX [(10, true), (45, true)] [] [] [] [(6, .sl 0 12), (15, .sl 0 12)])) (ob := [(dP (0 ≤ 12 ∧ 12 ≤ c), true), ((12 : Int) == Int.ofNat 12, true), (dS 0, true), ((decide ((n : Int) > (12 : Int))), true), (dP (0 ≤ 12 ∧ 12 ≤ c), true), ((12 : Int) == Int.ofNat 12, true), (dS 0, true), ((decide ((n : Int) > (12 : Int))), true)]) w hb (by kernel_rfl) (Z8 (ZfE ⟨ltA, ltA⟩) <| oI <| oR <| oY <| Z8 (ZfE ⟨ltA, ltA⟩) <| oI <| oR <| oY ZdQ) (Zd (.aggl (Zd (.atom rfl) (Zd (.atom rfl) (Zd (.atom rfl) (Zd (.atom rfl) (Zd (.atom rfl) (Zd (.atom rfl) (Zd (.slice (b := (b, 0)) Zc hn (Nat.le_refl c) (fun _ => .inl (Nat.le_refl c))) (Zd (.atom rfl) Zas))))))))) (Zd (.aggl (Zd (.atom rfl) (Zd (.atom rfl) Zas))) (Zd (.atom rfl) Zas)))
theorem pth2 (z0_0 z0_1 z0_2 z0_3 z0_4 z0_5 z0_7 z1_0 z1_1 z2 : Int) (b o n c : Nat) (hn : n ≤ c) (g0 : ¬ ((12 : Int) < (n : Int))) (w : World) (hb : b < w.heap.size) : Calls Tryz.prog 3 #[Value.agg #[Value.int .i64 z0_0, Value.int .i64 z0_1, Value.int .i64 z0_2, Value.int .i64 z0_3, Value.int .i64 z0_4, Value.int .i64 z0_5, Value.slice (some ⟨b, o, none⟩) n c, Value.int .i64 z0_7], Value.agg #[Value.int .i64 z1_0, Value.int .i64 z1_1], Value.int .i64 z2] w (Ret (.bool true) w) :=
 Zfb 40000 (args := #[Value.agg #[Value.int .i64 z0_0, Value.int .i64 z0_1, Value.int .i64 z0_2, Value.int .i64 z0_3, Value.int .i64 z0_4, Value.int .i64 z0_5, Value.slice (some ⟨0, o, none⟩) n c, Value.int .i64 z0_7], Value.agg #[Value.int .i64 z1_0, Value.int .i64 z1_1], Value.int .i64 z2]) (orc := (ZgX [(10, false), (45, false)] [] [] [] [])) (ob := [((decide ((n : Int) > (12 : Int))), false), ((decide ((n : Int) > (12 : Int))), false)]) w hb (by kernel_rfl) (oN <| oN ZdQ) (Zd (.aggl (Zd (.atom rfl) (Zd (.atom rfl) (Zd (.atom rfl) (Zd (.atom rfl) (Zd (.atom rfl) (Zd (.atom rfl) (Zd (.slice (b := (b, 0)) Zc hn (Nat.le_refl c) (fun _ => .inl (Nat.le_refl c))) (Zd (.atom rfl) Zas))))))))) (Zd (.aggl (Zd (.atom rfl) (Zd (.atom rfl) Zas))) (Zd (.atom rfl) Zas)))
namespace ModelNobody
noncomputable def Zhq : List TypeId := (Tryz.prog.cellTypes Tryz.prog.depth 26).getD []
noncomputable def Zhr : List TypeId := (Tryz.prog.cellTypes Tryz.prog.depth 29).getD []
theorem own : ownKnob Tryz.prog.godebug = none := by kernel_rfl
set_option maxRecDepth 100000 in
theorem lifted (os : Os) (started : os.Started) (H : Type) (enc : TypeId × Value → H) :
  ReturnsInHanded {} Tryz.checked os 3 .any (Rows.modelNobodySpec.pre6 enc Tryz.prog Tryz.f3 Rows.modelNobodyRow.domain false) (Rows.modelNobodySpec.post enc Tryz.prog Tryz.f3 false true false false) := by
 refine Zgn (C := Tryz.checked) own started (by kernel_rfl) Tryz.func3 rfl rfl Tryz.underlying4 ?_ (by kernel_rfl) (by kernel_rfl)
  (ChangeSpec.witness6 (enc := enc) (C := Tryz.checked) false ⟨#[], #[.agg #[.int .i64 0, .int .i64 0, .int .i64 0, .int .i64 0, .int .i64 0, .int .i64 0, .slice none 0 0, .int .i64 0], .agg #[.int .i64 0, .int .i64 0], .int .i64 0], []⟩ 8 (by kernel_rfl) (by kernel_rfl) (by kernel_rfl) (by kernel_rfl)) ?_
 ·intro ds hlen
  have hlen : ds.length = 3 := hlen.trans (by kernel_rfl)
  match ds, hlen with
  | [_, _, _], _ => rfl
 intro W base args ds p hval hA hlt hsz
 rw [Tryz.params3] at hA hval
 obtain ⟨v0, vs0, d0, ds0, p0, q0, hargs, rfl, rfl, h0, r0⟩ := trodAll_cons hA
 obtain ⟨v1, vs1, d1, ds1, p1, q1, rfl, rfl, rfl, h1, r1⟩ := trodAll_cons r0
 obtain ⟨v2, vs2, d2, ds2, p2, q2, rfl, rfl, rfl, h2, r2⟩ := trodAll_cons r1
 obtain ⟨rfl, rfl, rfl⟩ := trodAll_nil r2
 obtain rfl : args = #[v0, v1, v2] := by cases args; simp_all
 obtain ⟨cs0, rfl, hl0, hc0⟩ := ZcP (ts := Zhq) (by kernel_rfl) (by kernel_rfl) (by kernel_rfl) (hval 0 26 v0 rfl rfl)
 match cs0, hl0 with
 | [x0_0, x0_1, x0_2, x0_3, x0_4, x0_5, x0_6, x0_7], _ =>
 obtain ⟨z0_0, rfl, w0_0⟩ := Z4 (k := .i64) (by kernel_rfl) (hc0 0 _ _ rfl rfl)
 obtain ⟨z0_1, rfl, w0_1⟩ := Z4 (k := .i64) (by kernel_rfl) (hc0 1 _ _ rfl rfl)
 obtain ⟨z0_2, rfl, w0_2⟩ := Z4 (k := .i64) (by kernel_rfl) (hc0 2 _ _ rfl rfl)
 obtain ⟨z0_3, rfl, w0_3⟩ := Z4 (k := .i64) (by kernel_rfl) (hc0 3 _ _ rfl rfl)
 obtain ⟨z0_4, rfl, w0_4⟩ := Z4 (k := .i64) (by kernel_rfl) (hc0 4 _ _ rfl rfl)
 obtain ⟨z0_5, rfl, w0_5⟩ := Z4 (k := .i64) (by kernel_rfl) (hc0 5 _ _ rfl rfl)
 obtain ⟨z0_7, rfl, w0_7⟩ := Z4 (k := .i64) (by kernel_rfl) (hc0 7 _ _ rfl rfl)
 obtain ⟨cs1, rfl, hl1, hc1⟩ := ZcP (ts := Zhr) (by kernel_rfl) (by kernel_rfl) (by kernel_rfl) (hval 1 29 v1 rfl rfl)
 match cs1, hl1 with
 | [x1_0, x1_1], _ =>
 obtain ⟨z1_0, rfl, w1_0⟩ := Z4 (k := .i64) (by kernel_rfl) (hc1 0 _ _ rfl rfl)
 obtain ⟨z1_1, rfl, w1_1⟩ := Z4 (k := .i64) (by kernel_rfl) (hc1 1 _ _ rfl rfl)
 obtain ⟨z2, rfl, w2⟩ := Z4 (k := .i64) (by kernel_rfl) (Zgh (by kernel_rfl) (hval 2 3 v2 rfl rfl))
 rcases Zgm (e := 29) (by kernel_rfl) (hc0 6 _ _ rfl rfl) with rfl | ⟨b, o, n, c, rfl, hn, hb⟩
 ·
  exact pth0 z0_0 z0_1 z0_2 z0_3 z0_4 z0_5 z0_7 z1_0 z1_1 z2 W
 ·
  by_cases g0 : (12 : Int) < (n : Int)
  ·
   by_cases g1 : (12 : Int) ≤ (c : Int)
   ·
    exact pth1 z0_0 z0_1 z0_2 z0_3 z0_4 z0_5 z0_7 z1_0 z1_1 z2 b o n c hn g0 g1 W hb
   ·
    exfalso; omega
  ·
   exact pth2 z0_0 z0_1 z0_2 z0_3 z0_4 z0_5 z0_7 z1_0 z1_1 z2 b o n c hn g0 W hb
theorem over : Rows.modelNobodyRow.holds Tryz.pinned (OpenSpec.ofChange Rows.modelNobodySpec) :=
 OpenClaim.holds_of_wide 3 Tryz.f3 rfl rfl rfl rfl rfl rfl rfl ⟨rfl, rfl, rfl, rfl, rfl⟩ rfl rfl rfl rfl rfl (by kernel_rfl) Tryz.func3 (by kernel_rfl)
  (of_decide_eq_true (by kernel_rfl)) (by unfold Func.isWrapper; first | (rw [if_pos (by decide +kernel)]; kernel_rfl) | (rw [if_neg (by decide +kernel)]; exact ⟨rfl, rfl⟩))
  (fun os started H enc _ => lifted os started H enc)
theorem proved : Rows.ModelNobodySaid := over
#print axioms proved
end ModelNobody
end Ev
end Go.Proofs.YtldlnclkdgfahaaGreat
