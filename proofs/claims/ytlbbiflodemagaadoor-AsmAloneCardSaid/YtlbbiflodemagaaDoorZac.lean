/- Part 3. -/
import Derived.Test.YtlbbiflodemagaaDoorZab
import Derived.Recover
import Derived.WalkSmall
import Derived.Test.YtlbbiflodemagaaDoorRows
import Derived.WalkKit
import Derived.WalkLawsBesides
import Derived.WalkSpells
import Derived.ProofKit
import Derived.OpenShut
import Derived.Outline
import Derived.BigQuiet
import Derived.BigGuardPart
import Derived.Lib.Hide
import Derived.Lib.SmallJoins
import Derived.SizedLaws
import Derived.Deep.Slices
import Derived.Deep.Fields
import Derived.Carry
import Derived.RangeFuncLeaves
import Derived.OrdersIn
import Derived.LoopNIn
import Derived.TacticsIn
import Derived.RangeFuncRecord
import Derived.Laws.Externs
import Derived.Shelf.Strings.OnBuilder
import Derived.Shelf.Strings.Repeat
import Derived.Shelf.Strconv.Itoa3
import Derived.Lib.UnsafeStr
import Derived.RegionTactic
import Derived.Shelf.RegionOpenPlain
import Derived.Shelf.Strings.Cut
import Derived.Shelf.Strings.Split
import Derived.Shelf.Strings.Prefix
import Derived.Shelf.Strconv.AtoiAll
import Derived.Lib.IndexBytes
import Derived.Lib.IndexLaws
import Derived.Lib.AtoiTie
set_option linter.unusedSimpArgs false
set_option linter.unusedVariables false
/- Loops by induction: a round by the runner, between rounds the blocks are numbered anew. -/
namespace Go.Proofs.YtlbbiflodemagaaDoor
open Go.RowKit
namespace Ev
def renA (ρ : Nat → Nat) : Value → Value
 | .pointer (some ⟨k, o, none⟩) => .pointer (some ⟨ρ k, o, none⟩)
 | .slice (some ⟨k, o, none⟩) n c => .slice (some ⟨ρ k, o, none⟩) n c
 | .map (some k) => .map (some (ρ k))
 | v => v
def Zg6 (f : Value → Value) (a : Array Value) : Array Value := (a.toList.map f).toArray
theorem Zsf (f : Value → Value) (a : Array Value) : Zg6 f a = a.map f := by
 unfold Zg6
 apply Array.ext' 
 simp
def Za6 (ρ : Nat → Nat) : Nat → Value → Value
 | d + 1, .agg cs => .agg (Zg6 (Za6 ρ d) cs)
 | d + 1, .tuple cs => .tuple (Zg6 (Za6 ρ d) cs)
 | d + 1, .func f a b => .func f (Zg6 (Za6 ρ d) a) (Zg6 (Za6 ρ d) b)
 | _, v => renA ρ v
def Zas : Nat → Value → Bool
 | d + 1, .agg cs => Z7 (Zas d) cs.toList
 | d + 1, .tuple cs => Z7 (Zas d) cs.toList
 | d + 1, .func _ a b => Z7 (Zas d) a.toList && Z7 (Zas d) b.toList
 | 0, .agg _ => false
 | 0, .tuple _ => false
 | 0, .func _ a b => a.isEmpty && b.isEmpty
 | _, _ => true
section
variable {P : Program} {ext : FuncId → Option Ext}
theorem Zip {ι : Ren} {f : Value → Value} {a a' : Array Value} (hs : a.size = a'.size) (h : ∀ (i : Nat) x y, a[i]? = some x → a'[i]? = some y → VR ι (f x) y) : (Zg6 f a).size = a'.size ∧ ∀ (i : Nat) x y, (Zg6 f a)[i]? = some x → a'[i]? = some y → VR ι x y := by
 rw [Zsf]
 refine ⟨by simpa using hs, fun i x y hx hy => ?_⟩
 rw [Array.getElem?_map] at hx
 cases ha : a[i]? with
 | none => rw [ha] at hx; cases hx
 | some z => rw [ha] at hx; injection hx with hx; subst hx; exact h i z y ha hy
theorem Zpc {ρ : Nat → Nat} {v : Value} (h : atom v = true) : renA ρ v = v := by
 cases v with
 | pointer a => cases a with
  | none => rfl
  | some a => simp [atom] at h
 | slice a n c => cases a with
  | none => rfl
  | some a => simp [atom] at h
 | map a => cases a with
  | none => rfl
  | some a => simp [atom] at h
 | _ => rfl
theorem Zh5 {ρ : Nat → Nat} (d : Nat) {v : Value} (h : atom v = true) : Za6 ρ d v = v := by
 cases d with
 | zero => exact Zpc h
 | succ d =>
  cases v with
  | agg cs => simp [atom] at h
  | tuple cs => simp [atom] at h
  | func f a b =>
   cases f <;> simp [atom] at h
   obtain ⟨h1, h2⟩ := h
   subst h1 h2
   simp [Za6, Zg6]
  | _ => exact Zpc h
theorem Zhe {ι ι2 : Ren} {ρ : Nat → Nat} (hι : ∀ k b, ι k = some b → ι2 (ρ k) = some b) (hm : ∀ b base id, ρ (Zaj b base id) = Zaj b base id) : ∀ (d : Nat) (v v' : Value), VR ι v v' → Zas d v = true → VR ι2 (Za6 ρ d v) v'
 | d, v, v', h, hd => by
  cases h with
  | atom h => rw [Zh5 d h]; exact .atom h
  | glob h => cases d <;> exact .glob h
  | ptr h => cases d <;> exact .ptr (hι _ _ h)
  | map h => cases d <;> exact .map (hι _ _ h)
  | slice h hn hc hq => cases d <;> exact .slice (hι _ _ h) hn hc hq
  | slice0 h =>
   rename_i A _
   obtain ⟨k, o, sp⟩ := A
   cases sp <;> cases d <;> exact .slice0 h
  | mptr h =>
   have h' := hι _ _ h
   rw [hm] at h'
   cases d <;> exact .mptr h'
  | mslice h hn hc =>
   have h' := hι _ _ h
   rw [hm] at h'
   cases d <;> exact .mslice h' hn hc
  | func hs ht h1 h2 =>
   cases d with
   | zero =>
    simp only [Zas, Bool.and_eq_true, Array.isEmpty_iff] at hd
    obtain ⟨rfl, rfl⟩ := hd
    exact .func hs ht (fun i x y hx => by simp at hx) (fun i x y hx => by simp at hx)
   | succ d =>
    simp only [Zas, Bool.and_eq_true] at hd
    obtain ⟨q1, q2⟩ := Zip (f := Za6 ρ d) hs fun i x y hx hy => Zhe hι hm d x y (h1 i x y hx hy) (Za5 hd.1 i x hx)
    obtain ⟨q3, q4⟩ := Zip (f := Za6 ρ d) ht fun i x y hx hy => Zhe hι hm d x y (h2 i x y hx hy) (Za5 hd.2 i x hx)
    exact .func q1 q3 q2 q4
  | agg hs h1 =>
   cases d with
   | zero => simp [Zas] at hd
   | succ d =>
    simp only [Zas] at hd
    obtain ⟨q1, q2⟩ := Zip (f := Za6 ρ d) hs fun i x y hx hy => Zhe hι hm d x y (h1 i x y hx hy) (Za5 hd i x hx)
    exact .agg q1 q2
  | tuple hs h1 =>
   cases d with
   | zero => simp [Zas] at hd
   | succ d =>
    simp only [Zas] at hd
    obtain ⟨q1, q2⟩ := Zip (f := Za6 ρ d) hs fun i x y hx hy => Zhe hι hm d x y (h1 i x y hx hy) (Za5 hd i x hx)
    exact .tuple q1 q2
theorem ZsT {ι ι2 : Ren} {ρ : Nat → Nat} (hι : ∀ k b, ι k = some b → ι2 (ρ k) = some b) (hm : ∀ b base id, ρ (Zaj b base id) = Zaj b base id) {v v' : Value} (h : VR ι v v') : ∃ u, VR ι2 u v' := by
 have arr : ∀ {a a' : Array Value}, a.size = a'.size → (∀ (i : Nat) x y, a[i]? = some x → a'[i]? = some y → ∃ u, VR ι2 u y) → ∃ c : Array Value, c.size = a'.size ∧ ∀ (i : Nat) x y, c[i]? = some x → a'[i]? = some y → VR ι2 x y := fun {a a'} hs hx => by
  have each : ∀ i : Fin a'.size, ∃ u, VR ι2 u a'[i] := fun i => hx i a[i] a'[i] (Array.getElem?_eq_getElem (by omega)) (Array.getElem?_eq_getElem i.2)
  refine ⟨Array.ofFn fun i => (each i).choose, by simp, fun i x y h1 h2 => ?_⟩
  obtain ⟨hlt, rfl⟩ := Array.getElem?_eq_some_iff.1 h2
  rw [Array.getElem?_ofFn, dif_pos hlt] at h1
  injection h1 with h1
  subst h1
  exact (each ⟨i, hlt⟩).choose_spec
 induction h with
 | atom h => exact ⟨_, .atom h⟩
 | glob h => exact ⟨_, .glob (g := 0) h⟩
 | ptr h => exact ⟨_, .ptr (hι _ _ h)⟩
 | map h => exact ⟨_, .map (hι _ _ h)⟩
 | slice h hn hc hq => exact ⟨_, .slice (hι _ _ h) hn hc hq⟩
 | slice0 h => exact ⟨_, .slice0 (A := ⟨0, 0, none⟩) h⟩
 | mptr h =>
  have h' := hι _ _ h
  rw [hm] at h'
  exact ⟨_, .mptr (z := 0) h'⟩
 | mslice h hn hc =>
  have h' := hι _ _ h
  rw [hm] at h'
  exact ⟨_, .mslice (z := 0) h' hn hc⟩
 | func hs ht h1 h2 ih1 ih2 =>
  obtain ⟨c, q1, q2⟩ := arr hs ih1
  obtain ⟨d, q3, q4⟩ := arr ht ih2
  exact ⟨_, .func q1 q3 q2 q4⟩
 | agg hs h1 ih =>
  obtain ⟨c, q1, q2⟩ := arr hs ih
  exact ⟨_, .agg q1 q2⟩
 | tuple hs h1 ih =>
  obtain ⟨c, q1, q2⟩ := arr hs ih
  exact ⟨_, .tuple q1 q2⟩
noncomputable def ZpI : Nat → Nat → (Nat → Option Value) → (Nat → Value) → Tr Value → Tr Value
 | 0, _, _, _, T => T
 | n + 1, t, L, gv, T => ZpI n (t + 1) L gv (T.set t (some (match L t with | some v => v | none => gv t)))
noncomputable def tmps (nt : Nat) (L : Nat → Option Value) (gv : Nat → Value) : Tr Value := ZpI nt 0 L gv .nil
theorem Zpd (L : Nat → Option Value) (gv : Nat → Value) : ∀ (n t : Nat) (T : Tr Value) (k : Nat), (ZpI n t L gv T).get k = if t ≤ k ∧ k < t + n then some (match L k with | some v => v | none => gv k) else T.get k
 | 0, t, T, k => by rw [if_neg (by omega)]; rfl
 | n + 1, t, T, k => by
  show (ZpI n (t + 1) L gv _).get k = _
  rw [Zpd L gv n (t + 1), Tr.get_set]
  by_cases hk : k = t
  ·subst hk
   rw [if_neg (by omega), Zx, if_pos (by omega)]
  ·rw [Zl hk]
   by_cases h : t + 1 ≤ k ∧ k < t + 1 + n
   ·rw [if_pos h, if_pos (by omega)]
   ·rw [if_neg h, if_neg (by omega)]
theorem Zq2 (nt : Nat) (L : Nat → Option Value) (gv : Nat → Value) (k : Nat) : (tmps nt L gv).get k = if k < nt then some (match L k with | some v => v | none => gv k) else none := by
 unfold tmps
 rw [Zpd]
 by_cases h : k < nt
 ·rw [if_pos (by omega), if_pos h]
 ·rw [if_neg (by omega), if_neg h]; rfl
def At (P : Program) (nt : Nat) (T : Tr Value) (h : AH) (m M : Nat) (ι0 : Ren) (h0 : AH) (w0 : World) (a : Act) (w : World) : Prop :=
 ∃ ι, TR ι nt [] T a ∧ Step P ι0 h0 w0 ι h w ∧ ∀ k, m ≤ k → k < M → ι k = none
def ZbD (k : Nat) : Prop := 1000000000 ≤ k ∧ k % 2 = 0
theorem Zgv (b base id : Nat) : ZbD (Zaj b base id) := Zfc b base id
def rho (live : List Nat) (M : Nat) (k : Nat) : Nat := if M ≤ k ∧ k % 2 = 0 then k else if k ∈ live then live.idxOf k else if k < M then M + 2 * k + 1 else k + 2 * M
def sig (live : List Nat) (M : Nat) (j : Nat) : Option Nat :=
 if j < live.length then live[j]?
 else if M ≤ j then
  (if j % 2 = 0 then some j else if j < 3 * M then (if (j - M - 1) / 2 ∉ live then some ((j - M - 1) / 2) else none) else if j - 2 * M ∉ live then some (j - 2 * M) else none)
 else none
theorem ZvP {live : List Nat} {M : Nat} (hM : live.length ≤ M) (h2 : M % 2 = 0) (hl : ∀ k ∈ live, k < M) (k : Nat) : sig live M (rho live M k) = some k := by
 unfold rho
 split
 ·rename_i h
  unfold sig
  rw [if_neg (by omega), if_pos h.1, if_pos h.2]
 ·rename_i h
  split
  ·rename_i hk
   have hlt := List.idxOf_lt_length_of_mem hk
   unfold sig
   rw [if_pos hlt, List.getElem?_eq_getElem hlt]
   simp
  ·rename_i hk
   split
   ·rename_i hkM
    unfold sig
    have e : (M + 2 * k + 1 - M - 1) / 2 = k := by omega
    rw [if_neg (by omega), if_pos (by omega), if_neg (by omega), if_pos (by omega), e, if_pos hk]
   ·rename_i hkM
    unfold sig
    have e : k + 2 * M - 2 * M = k := by omega
    rw [if_neg (by omega), if_pos (by omega), if_neg (by omega), if_neg (by omega), e, if_pos hk]
theorem ZlP {live : List Nat} {M : Nat} (hn : live.Nodup) (h2 : M % 2 = 0) (hl : ∀ k ∈ live, k < M) {j k : Nat} (h : sig live M j = some k) : rho live M k = j := by
 unfold sig at h
 split at h
 ·rename_i hlt
  rw [List.getElem?_eq_getElem hlt] at h
  injection h with h
  subst h
  have hm : live[j] ∈ live := List.getElem_mem hlt
  have := hl _ hm
  unfold rho
  rw [if_neg (by omega), if_pos hm]
  exact hn.idxOf_getElem j hlt
 ·split at h
  ·split at h
   ·injection h with h
    subst h
    unfold rho
    rw [if_pos ⟨by assumption, by assumption⟩]
   ·split at h
    ·split at h
     ·rename_i hc
      injection h with h
      subst h
      unfold rho
      rw [if_neg (by omega), if_neg hc, if_pos (by omega)]
      omega
     ·cases h
    ·split at h
     ·rename_i hc
      injection h with h
      subst h
      unfold rho
      rw [if_neg (by omega), if_neg hc, if_neg (by omega)]
      omega
     ·cases h
  ·cases h
theorem FzC.ren {ι ι2 : Ren} {ρ : Nat → Nat} (hι : ∀ k b, ι k = some b → ι2 (ρ k) = some b) (hm : ∀ b base id, ρ (Zaj b base id) = Zaj b base id) {w : World} {b base id : Nat} (h : FzC ι w b base id) : FzC ι2 w b base id := by
 obtain ⟨c, C, t, fr, h1, h2, h3, h4, h5⟩ := h
 refine ⟨c, C, t, fr, h1, h2, h3, fun i x y hx hy => ?_, h5⟩
 have hv := h4 i x y hx hy
 unfold Z6 at hx
 rw [List.getElem?_map] at hx
 cases hb : c[i]? with
 | none => rw [hb] at hx; cases hx
 | some z =>
  rw [hb] at hx
  injection hx with hx
  subst hx
  have := Zhe hι hm 0 _ _ hv (by cases z <;> rfl)
  have e : Za6 ρ 0 (Zdf z) = Zdf z := by cases z <;> rfl
  rwa [e] at this
theorem ZvQ {c c' r : List Value} {f : Value → Value} {q : Bool} (hcr : c'.map f = c ++ r) (hq : q = true → r = []) (h : q = true) : c'.isEmpty = c.isEmpty := by
 rw [hq h, List.append_nil] at hcr
 subst hcr
 cases c' <;> rfl
theorem Zsg {c c' r : List Value} {f : Value → Value} {t : TypeId} {q : Bool} (hcr : c'.map f = c ++ r) (hq : q = true → r = []) (h : isC (some (.cells c t q)) = true) : isC (some (.cells c' t q)) = true := by
 cases q with
 | false => rfl
 | true =>
  have e := ZvQ hcr hq rfl
  show (!c'.isEmpty) = true
  rw [e]; exact h
theorem ZvR {c c' r : List Value} {f : Value → Value} {t : TypeId} {q : Bool} (hcr : c'.map f = c ++ r) (hq : q = true → r = []) (h : sol (some (.cells c t q)) = true) : sol (some (.cells c' t q)) = true := Zsg (t := t) hcr hq h
theorem Zq3 {nt : Nat} {ι0 ι : Ren} {h0 h : AH} {w0 w : World} {T : Tr Value} {a : Act} (hT : TR ι nt [] T a) (hS : Step P ι0 h0 w0 ι h w)
  (live : List Nat) (m M : Nat) (hM : M = 1000000000) (hll : ∀ k ∈ live, k < M) (hlen : live.length = m) (hmM : m ≤ M) (hn : live.Nodup) (h3 : ∀ k, ι0 k ≠ none → live[k]? = some k ∨ ZbD k)
  (L : Nat → Option Value) (hL : ∀ t v, t < nt → L t = some v → v = Za6 (rho live M) 3 ((T.get t).getD undef) ∧ Zas 3 ((T.get t).getD undef) = true)
  (g : AH) (hg : ∀ j o, g j = some o → ∃ k, live[j]? = some k ∧ match o with
   | .ro O m => h k = some (.ro O m)
   | .cells c t q => ∃ c' r, h k = some (.cells c' t q) ∧ c'.map (Za6 (rho live M) 1) = c ++ r ∧ (q = true → r = []) ∧ Z7 (Zas 1) c' = true) :
  ∃ gv ι', TR ι' nt [] (tmps nt L gv) a ∧ Step P ι0 h0 w0 ι' g w ∧ (∀ k, m ≤ k → k < M → ι' k = none) ∧ (∀ j b, ι' j = some b → ∃ k, ι k = some b) ∧ ∀ j k, live[j]? = some k → ι' j = ι k := by
 have h2M : M % 2 = 0 := by omega
 have s1 := fun k => ZvP (live := live) (M := M) (by omega) h2M hll k
 have rm : ∀ b base id, rho live M (Zaj b base id) = Zaj b base id := fun b base id => by
  have := Zfc b base id
  unfold rho
  rw [if_pos ⟨by omega, this.2⟩]
 have hι : ∀ k b, ι k = some b → (fun j => (sig live M j).bind ι) (rho live M k) = some b := fun k b hk => by
  simp only [s1 k, Option.bind_some, hk]
 have hlive : ∀ j k, live[j]? = some k → sig live M j = some k := fun j k hk => by
  have hlt := (List.getElem?_eq_some_iff.1 hk).1
  unfold sig
  rw [if_pos hlt]
  exact hk
 have back : ∀ j b, (sig live M j).bind ι = some b → ∃ k, sig live M j = some k ∧ ι k = some b := fun j b hj => by
  cases hs : sig live M j with
  | none => rw [hs] at hj; cases hj
  | some k => rw [hs] at hj; exact ⟨k, rfl, hj⟩
 have sm : ∀ k, ZbD k → sig live M k = some k := fun k hk => by
  unfold ZbD at hk
  unfold sig
  rw [if_neg (by omega), if_pos (by omega), if_pos hk.2]
 have old : ∀ k, ι0 k ≠ none → sig live M k = some k := fun k hk => (h3 k hk).elim (hlive k k) (sm k)
 have gC : ∀ j, isC (g j) = true → ∃ k, sig live M j = some k ∧ isC (h k) = true := fun j hj => by
  cases hx : g j with
  | none => rw [hx] at hj; cases hj
  | some o =>
   obtain ⟨k, hk, ho⟩ := hg j o hx
   cases o with
   | ro O m1 => rw [hx] at hj; exact ⟨k, hlive j k hk, by rw [show h k = some (.ro O m1) from ho]; exact hj⟩
   | cells c t q => obtain ⟨c', r, hc, hcr, hq, _⟩ := ho; exact ⟨k, hlive j k hk, by rw [hc]; rw [hx] at hj; exact Zsg hcr hq hj⟩
 have gS : ∀ j, sol (g j) → ∃ k, sig live M j = some k ∧ sol (h k) := fun j hj => by
  cases hx : g j with
  | none => rw [hx] at hj; cases hj
  | some o =>
   obtain ⟨k, hk, ho⟩ := hg j o hx
   cases o with
   | ro O m1 => exact ⟨k, hlive j k hk, by rw [show h k = some (.ro O m1) from ho]; rfl⟩
   | cells c t q => obtain ⟨c', r, hc, hcr, hq, _⟩ := ho; exact ⟨k, hlive j k hk, by rw [hc]; rw [hx] at hj; exact ZvR hcr hq hj⟩
 have garb : ∀ t, ∃ u, VR (fun j => (sig live M j).bind ι) u (a.tmps.getD t undef) := fun t => ZsT hι rm (hT.2.2 t)
 refine ⟨fun t => (garb t).choose, fun j => (sig live M j).bind ι, ⟨hT.1, hT.2.1, fun t => ?_⟩, ⟨fun k b hk => ?_, ⟨fun j c t q hj => ?_, fun j O hj => ?_, fun j j' b b' h1 h2 h4 h5 h6 => ?_, fun j b hj => ?_, fun b base id q hq => ?_, fun x hx => (hS.emb.tb x hx).imp fun q hq => by
  show (sig live M (Zaj x.1 0 (code x.2))).bind ι = some q
  rw [sm _ (Zgv x.1 0 (code x.2))]; exact hq⟩, hS.os, hS.tape, hS.output, hS.size, hS.frame, fun j b h1 h2 => ?_, fun j h1 h2 => ?_, fun j h1 h2 => ?_⟩, fun j h1 h2 => ?_, fun j b hj => (back j b hj).imp fun k h => h.2, fun j k hk => by
  show (sig live M j).bind ι = ι k
  rw [hlive j k hk]; rfl⟩
 ·rw [Zq2]
  by_cases ht : t < nt
  ·rw [if_pos ht]
   cases hl : L t with
   | none => exact (garb t).choose_spec
   | some v =>
    obtain ⟨e, hd⟩ := hL t v ht hl
    subst e
    exact Zhe hι rm 3 _ _ (hT.2.2 t) hd
  ·rw [if_neg ht]
   have : a.tmps.getD t undef = undef := by
    have := hT.1
    simp [Array.getD, show ¬ t < a.tmps.size by omega]
   rw [this]
   exact VR.undef'
 ·show (sig live M k).bind ι = some b
  rw [old k (by rw [hk]; simp)]
  exact hS.ext k b hk
 ·obtain ⟨k, hk, c', r, hc, hcr, hq, hd⟩ := hg j _ hj
  obtain ⟨b, hb, ⟨z1, z2, z3⟩ | ⟨z1, C, hB, hC, hQ⟩⟩ := hS.emb.obj k c' t q hc
  ·refine ⟨b, by show (sig live M j).bind ι = some b; rw [hlive j k hk]; exact hb, .inl ⟨z1, ?_, z3⟩⟩
   subst z2
   have := congrArg List.length hcr
   simp at this
   exact List.eq_nil_of_length_eq_zero (by omega)
  have hqc : isC (some (.cells c t q)) = true := by
   cases q with
   | false => rfl
   | true =>
    rw [hq rfl, List.append_nil] at hcr
    cases c' with
    | nil => cases z1
    | cons x c' => rw [← hcr]; rfl
  have hle : c.length ≤ c'.length := by
   have := congrArg List.length hcr
   simp at this
   omega
  refine ⟨b, by show (sig live M j).bind ι = some b; rw [hlive j k hk]; exact hb, .inr ⟨hqc, C, hB, ⟨Nat.le_trans hle hC.1, fun i x y hx hy => ?_⟩, hQ⟩⟩
  have hx' : (c'.map (Za6 (rho live M) 1))[i]? = some x := by
   rw [hcr, List.getElem?_append_left (List.getElem?_eq_some_iff.1 hx).1]
   exact hx
  rw [List.getElem?_map] at hx'
  cases hz : c'[i]? with
  | none => rw [hz] at hx'; cases hx'
  | some z =>
   rw [hz] at hx'
   injection hx' with hx'
   subst hx'
   exact Zhe hι rm 1 z y (hC.2 i z y hz hy) (Zav hd z (List.mem_of_getElem? hz))
 ·obtain ⟨k, hk, hr⟩ := hg j _ hj
  obtain ⟨b, hb, hB⟩ := hS.emb.ro k O hr
  exact ⟨b, by show (sig live M j).bind ι = some b; rw [hlive j k hk]; exact hb, hB⟩
 ·obtain ⟨k, q1, q2⟩ := gC j h1
  obtain ⟨k', q3, q4⟩ := gS j' h2
  obtain ⟨_, e1, e2⟩ := back j b h4
  rw [q1] at e1; injection e1 with e1; subst e1
  obtain ⟨_, e3, e4⟩ := back j' b' h5
  rw [q3] at e3; injection e3 with e3; subst e3
  have := hS.emb.inj k k' b b' q2 q4 e2 e4 h6
  subst this
  rw [← ZlP hn h2M hll q1, ← ZlP hn h2M hll q3]
 ·obtain ⟨k, _, e2⟩ := back j b hj
  exact hS.emb.lt k b e2
 ·obtain ⟨k, e1, e2⟩ := back _ q hq
  rw [sm _ (Zgv b base id)] at e1; injection e1 with e1; subst e1
  obtain ⟨m1, m2, m3⟩ := hS.emb.mks b base id q e2
  refine ⟨m1, ⟨m2.1.ren hι rm, fun o c hc => by
   have := hι _ _ (m2.2 o c hc)
   rw [rm] at this
   exact this⟩, fun k d hk hd => ?_⟩
  obtain ⟨k', q1, q2⟩ := gC k hk
  obtain ⟨k2, e3, e4⟩ := back k d hd
  rw [q1] at e3; injection e3 with e3; subst e3
  exact m3 k' d q2 e4
 ·obtain ⟨k, e1, e2⟩ := back j b h2
  refine hS.new k b ?_ e2
  cases hk : ι0 k with
  | none => rfl
  | some c =>
   have := ZlP hn h2M hll (old k (by rw [hk]; simp))
   have e3 := ZlP hn h2M hll e1
   rw [this] at e3
   subst e3
   rw [h1] at hk; cases hk
 ·obtain ⟨k, e1, e2⟩ := gS j h1
  rw [old j h2] at e1; injection e1 with e1; subst e1
  exact hS.alive j e2 h2
 ·obtain ⟨k, e1, e2⟩ := gC j h1
  rw [old j h2] at e1; injection e1 with e1; subst e1
  exact hS.kind j e2 h2
 ·show (sig live M j).bind ι = none
  unfold sig
  rw [if_neg (by omega), if_neg (by omega)]
  rfl
theorem ZvS {nt : Nat} {ι0 ι : Ren} {h0 h : AH} {w0 w : World} {T : Tr Value} {a : Act} (hT : TR ι nt [] T a) (hS : Step P ι0 h0 w0 ι h w)
  (live : List Nat) (m M : Nat) (hM : M = 1000000000) (hll : ∀ k ∈ live, k < M) (hlen : live.length = m) (hmM : m ≤ M) (hn : live.Nodup) (h3 : ∀ k, ι0 k ≠ none → live[k]? = some k ∨ ZbD k)
  (L : Nat → Option Value) (hL : ∀ t v, t < nt → L t = some v → v = Za6 (rho live M) 3 ((T.get t).getD undef) ∧ Zas 3 ((T.get t).getD undef) = true)
  (g : AH) (hg : ∀ j o, g j = some o → ∃ k, live[j]? = some k ∧ match o with
   | .ro O m => h k = some (.ro O m)
   | .cells c t q => ∃ c' r, h k = some (.cells c' t q) ∧ c'.map (Za6 (rho live M) 1) = c ++ r ∧ (q = true → r = []) ∧ Z7 (Zas 1) c' = true) :
  ∃ gv, At P nt (tmps nt L gv) g m M ι0 h0 w0 a w := by
 obtain ⟨gv, ι', a1, a2, a3, _⟩ := Zq3 hT hS live m M hM hll hlen hmM hn h3 L hL g hg
 exact ⟨gv, ι', a1, a2, a3⟩
theorem Zv6 (F : Fit P ext) {fu nt : Nat} {c : Code} {T T' : Tr Value} {s s' : St} {e : Ex} (h : ZaK P ext nt fu c T s = some (e, T', s')) (ho : ∀ p ∈ s'.ob, p.1 = p.2) {ι : Ren} {D : List Deferred} {a : Act} {w : World} (hT : TR ι nt D T a) (he : Emb P ι s.h.get w) (hf : Fresh ι s.n s'.n) :
  c.wp P (Zjg P ι s w nt D e T' s') a w := (Zfm F fu).1 nt c T s e T' s' h ho ι D a w hT he hf
end
end Ev
end Go.Proofs.YtlbbiflodemagaaDoor
/- Functions with loops: a run stands ahead of a loop, at a round's end, or at the function's end. -/
namespace Go.Proofs.YtlbbiflodemagaaDoor
open Go.RowKit
namespace Ev
inductive ZbE where
 | seq (b : Code)
 | blk (id : Nat)
 | scp
 | rnd (i : Nat)
inductive Stop where
 | fin (v : Value) (s : St)
 | head (a : Code) (K : List ZbE) (T : Tr Value) (s : St)
 | next (i : Nat) (T : Tr Value) (s : St)
noncomputable section
def Stop.s : Stop → St
 | .fin _ s => s
 | .head _ _ _ s => s
 | .next _ _ s => s
def ZsU (P : Program) (fn : Func) (T : Tr Value) (s : St) : Option Value :=
 match ZbQ P T s fn.results.toList with
 | some [v] => some v
 | some vs => some (.tuple vs.toArray)
 | none => none
def ZsV (s : St) : Option Value → Option Stop
 | some v => some (.fin v s)
 | none => none
def Zv7 (P : Program) (fn : Func) (e : Ex) (T : Tr Value) (s : St) : Option Stop :=
 match e with
 | .exit _ => none
 | .normal => ZsV s (ZsU P fn T s)
 | .ret => ZsV s (ZsU P fn T s)
mutual
def Zgj (P : Program) (ext : FuncId → Option Ext) (fn : Func) (nt : Nat) : Nat → Code → List ZbE → Tr Value → St → Option Stop
 | 0, _, _, _, _ => none
 | fu + 1, c, K, T, s => match c with
  | .seq a b => Zgj P ext fn nt fu a (.seq b :: K) T s
  | .scope a => Zgj P ext fn nt fu a (.scp :: K) T s
  | .block id a => Zgj P ext fn nt fu a (.blk id :: K) T s
  | .cond x a b => match opnd T x with
   | .bool t => match t with
    | true => Zgj P ext fn nt fu a K T s
    | false => Zgj P ext fn nt fu b K T s
   | _ => none
  | .loop a => some (.head a K T s)
  | c => match ZaK P ext nt fu c T s with
   | some (e, T', s') => Zd1 P ext fn nt fu K e T' s'
   | none => none
termination_by structural fu _ _ _ _ => fu
def Zd1 (P : Program) (ext : FuncId → Option Ext) (fn : Func) (nt : Nat) : Nat → List ZbE → Ex → Tr Value → St → Option Stop
 | 0, _, _, _, _ => none
 | fu + 1, K, e, T, s => match K with
  | [] => Zv7 P fn e T s
  | .seq b :: K => match e with
   | .normal => Zgj P ext fn nt fu b K T s
   | .exit i => Zd1 P ext fn nt fu K (.exit i) T s
   | .ret => Zd1 P ext fn nt fu K .ret T s
  | .blk id :: K => match e with
   | .exit i => bif Nat.beq i id then Zd1 P ext fn nt fu K .normal T s else Zd1 P ext fn nt fu K (.exit i) T s
   | .normal => Zd1 P ext fn nt fu K .normal T s
   | .ret => Zd1 P ext fn nt fu K .ret T s
  | .scp :: K => Zd1 P ext fn nt fu K e T s
  | .rnd i :: K => match e with
   | .normal => some (.next i T s)
   | .exit j => Zd1 P ext fn nt fu K (.exit j) T s
   | .ret => Zd1 P ext fn nt fu K .ret T s
termination_by structural fu _ _ _ _ => fu
end
end
section
variable {P : Program} {ext : FuncId → Option Ext}
theorem Zsh {s : St} {o : Option Value} {st : Stop} (h : ZsV s o = some st) : ∃ v, st = .fin v s ∧ o = some v := by
 cases o with
 | none => cases h
 | some v => injection h with h; exact ⟨v, h.symm, rfl⟩
theorem Zsi {fn : Func} {e : Ex} {T : Tr Value} {s : St} {st : Stop} (h : Zv7 P fn e T s = some st) : ∃ v, st = .fin v s ∧ (match e with | .exit _ => False | _ => True) ∧ (match ZbQ P T s fn.results.toList with | some [v] => some v | some vs => some (.tuple vs.toArray) | none => none) = some v := by
 cases e with
 | exit i => cases h
 | normal => obtain ⟨v, h1, h2⟩ := Zsh h; exact ⟨v, h1, trivial, h2⟩
 | ret => obtain ⟨v, h1, h2⟩ := Zsh h; exact ⟨v, h1, trivial, h2⟩
theorem up_to (F : Fit P ext) {fn : Func} {nt : Nat} : ∀ fu : Nat, (∀ c K T s st, Zgj P ext fn nt fu c K T s = some st → Up s st.s) ∧ (∀ K e T s st, Zd1 P ext fn nt fu K e T s = some st → Up s st.s) := by
 intro fu
 induction fu with
 | zero => exact ⟨fun _ _ _ _ _ h => by simp [Zgj] at h, fun _ _ _ _ _ h => by simp [Zd1] at h⟩
 | succ fu ih =>
  obtain ⟨ihT, ihB⟩ := ih
  have other : ∀ c K T s st, (match ZaK P ext nt fu c T s with | some (e, T', s') => Zd1 P ext fn nt fu K e T' s' | none => none) = some st → Up s st.s := fun c K T s st h => by
   split at h
   ·exact ((Zc3 (P := P) (ext := ext) (fun f g hg => (F.hp f g hg).up) fu).1 _ _ _ _ _ _ _ (by assumption)).trans (ihB _ _ _ _ _ h)
   ·cases h
  refine ⟨fun c K T s st h => ?_, fun K e T s st h => ?_⟩
  ·cases c <;> simp only [Zgj] at h
   case seq a b => exact ihT _ _ _ _ _ h
   case scope a => exact ihT _ _ _ _ _ h
   case block id a => exact ihT _ _ _ _ _ h
   case cond x a b =>
    split at h
    ·split at h
     ·exact ihT _ _ _ _ _ h
     ·exact ihT _ _ _ _ _ h
    ·cases h
   case loop a => injection h with h; subst h; exact Up.refl _
   all_goals exact other _ _ _ _ _ h
  ·cases K with
   | nil => simp only [Zd1] at h; obtain ⟨v, rfl, _⟩ := Zsi h; exact Up.refl _
   | cons k K =>
    cases k <;> simp only [Zd1] at h
    ·cases e <;> simp only at h
     ·exact ihT _ _ _ _ _ h
     ·exact ihB _ _ _ _ _ h
     ·exact ihB _ _ _ _ _ h
    ·cases e <;> simp only at h
     ·exact ihB _ _ _ _ _ h
     ·rename_i id i
      cases hb : Nat.beq i id <;> rw [hb] at h <;> exact ihB _ _ _ _ _ h
     ·exact ihB _ _ _ _ _ h
    ·exact ihB _ _ _ _ _ h
    ·cases e <;> simp only at h
     ·injection h with h; subst h; exact Up.refl _
     ·exact ihB _ _ _ _ _ h
     ·exact ihB _ _ _ _ _ h
def post (P : Program) (fn : Func) (R : Ending → World → Prop) (Nx : Nat → Act → World → Prop) : List ZbE → Exit → Act → World → Prop
 | [] => bodyPost P fn R
 | .seq b :: K => Exit.then (b.wp P (post P fn R Nx K)) (post P fn R Nx K)
 | .blk id :: K => Exit.inBlock id (post P fn R Nx K)
 | .scp :: K => Exit.noGoto (post P fn R Nx K)
 | .rnd i :: K => Exit.then (Nx i) (post P fn R Nx K)
def ZpJ (P : Program) (fn : Func) (R : Ending → World → Prop) (Nx : Nat → Act → World → Prop) (nt : Nat) (ι : Ren) (a : Act) (w : World) : Stop → Prop
 | .fin v _ => ∀ v', VR ι v v' → R (.returned v') w
 | .head b K T _ => TR ι nt [] T a → (Code.loop b).wp P (post P fn R Nx K) a w
 | .next i T _ => TR ι nt [] T a → Nx i a w
theorem ZuS (F : Fit P ext) {fn : Func} {nt : Nat} {R : Ending → World → Prop} {Nx : Nat → Act → World → Prop} : ∀ fu : Nat,
  (∀ c K T s st, Zgj P ext fn nt fu c K T s = some st → (∀ p ∈ st.s.ob, p.1 = p.2) → ∀ ι a w, TR ι nt [] T a → Emb P ι s.h.get w → Fresh ι s.n st.s.n →
   (∀ ι' a' w', Step P ι s.h.get w ι' st.s.h.get w' → Dom ι ι' s.n st.s.n → ZpJ P fn R Nx nt ι' a' w' st) → c.wp P (post P fn R Nx K) a w) ∧
  (∀ K e T s st, Zd1 P ext fn nt fu K e T s = some st → (∀ p ∈ st.s.ob, p.1 = p.2) → ∀ ι a w, TR ι nt [] T a → Emb P ι s.h.get w → Fresh ι s.n st.s.n →
   (∀ ι' a' w', Step P ι s.h.get w ι' st.s.h.get w' → Dom ι ι' s.n st.s.n → ZpJ P fn R Nx nt ι' a' w' st) → post P fn R Nx K e.out a w) := by
 intro fu
 induction fu with
 | zero => exact ⟨fun _ _ _ _ _ h => by simp [Zgj] at h, fun _ _ _ _ _ h => by simp [Zd1] at h⟩
 | succ fu ih =>
  obtain ⟨ihT, ihB⟩ := ih
  have other : ∀ c K T s st, (match ZaK P ext nt fu c T s with | some (e, T', s') => Zd1 P ext fn nt fu K e T' s' | none => none) = some st → (∀ p ∈ st.s.ob, p.1 = p.2) → ∀ ι a w, TR ι nt [] T a → Emb P ι s.h.get w → Fresh ι s.n st.s.n →
   (∀ ι' a' w', Step P ι s.h.get w ι' st.s.h.get w' → Dom ι ι' s.n st.s.n → ZpJ P fn R Nx nt ι' a' w' st) → c.wp P (post P fn R Nx K) a w := fun c K T s st h ho ι a w hT he hf hQ => by
   split at h
   ·rename_i e T1 s1 h1
    have u1 := (Zc3 (P := P) (ext := ext) (fun f g hg => (F.hp f g hg).up) fu).1 _ _ _ _ _ _ _ h1
    have u2 := (up_to F (fn := fn) (nt := nt) fu).2 _ _ _ _ _ h
    refine wp_mono (Zv6 F h1 (ZaP u2.ob ho) hT he (hf.mono (Nat.le_refl _) u2.n)) ?_
    rintro ex a1 w1 ⟨rfl, ι1, g1, g2, g3⟩
    exact ihB K e T1 s1 st h ho ι1 a1 w1 g3 g1.emb (hf.after g2 u1.n) fun ι' a' w' k1 k2 => hQ ι' a' w' (g1.trans k1) (g2.trans k2 u1.n u2.n)
   ·cases h
  refine ⟨fun c K T s st h ho ι a w hT he hf hQ => ?_, fun K e T s st h ho ι a w hT he hf hQ => ?_⟩
  ·have h0 := h
   cases c <;> simp only [Zgj] at h
   case seq x y => exact wp_seq (ihT x (.seq y :: K) T s st h ho ι a w hT he hf hQ)
   case scope x => exact wp_scope_straight (ihT x (.scp :: K) T s st h ho ι a w hT he hf hQ)
   case block id x => exact wp_block (ihT x (.blk id :: K) T s st h ho ι a w hT he hf hQ)
   case cond x y z =>
    split at h
    ·rename_i t ht
     have hx : a.eval x = .bool t := ZfE ((ht ▸ hT.opnd x : VR ι (.bool t) (Zc0 a x)).bool_inv)
     split at h
     ·exact wp_cond_true hx (ihT y K T s st h ho ι a w hT he hf hQ)
     ·exact wp_cond_false hx (ihT z K T s st h ho ι a w hT he hf hQ)
    ·cases h
   case loop x =>
    injection h with h
    subst h
    exact hQ ι a w (Step.refl he) Dom.refl hT
   all_goals exact other _ K T s st h ho ι a w hT he hf hQ
  ·cases K with
   | nil =>
    simp only [Zd1] at h
    obtain ⟨v, rfl, hne, hr⟩ := Zsi h
    obtain ⟨v', hrun, hv⟩ := ZfV hT he hr
    have := hQ ι a w (Step.refl he) Dom.refl v' hv
    cases e with
    | normal => exact ⟨hT.2.1, v', hrun, this⟩
    | ret => exact ⟨hT.2.1, v', hrun, this⟩
    | exit i => exact hne.elim
   | cons k K =>
    cases k with
    | seq b =>
     simp only [Zd1] at h
     cases e with
     | normal => exact ihT b K T s st h ho ι a w hT he hf hQ
     | exit i => exact ihB K (.exit i) T s st h ho ι a w hT he hf hQ
     | ret => exact ihB K .ret T s st h ho ι a w hT he hf hQ
    | blk id =>
     simp only [Zd1] at h
     cases e with
     | normal => exact ihB K .normal T s st h ho ι a w hT he hf hQ
     | ret => exact ihB K .ret T s st h ho ι a w hT he hf hQ
     | exit i =>
      simp only at h
      show if i = id then _ else _
      cases hb : Nat.beq i id with
      | true =>
       rw [hb] at h
       rw [if_pos (Nat.eq_of_beq_eq_true hb)]
       exact ihB K .normal T s st h ho ι a w hT he hf hQ
      | false =>
       rw [hb] at h
       rw [if_neg (fun e => by rw [Zi6 e] at hb; cases hb)]
       exact ihB K (.exit i) T s st h ho ι a w hT he hf hQ
    | scp =>
     simp only [Zd1] at h
     have := ihB K e T s st h ho ι a w hT he hf hQ
     cases e <;> exact this
    | rnd i =>
     simp only [Zd1] at h
     cases e with
     | normal =>
      injection h with h
      subst h
      exact hQ ι a w (Step.refl he) Dom.refl hT
     | exit j => exact ihB K (.exit j) T s st h ho ι a w hT he hf hQ
     | ret => exact ihB K .ret T s st h ho ι a w hT he hf hQ
def Into (nt m : Nat) (L : Nat → Option Value) (H : Tr AObj) (T : Tr Value) (s : St) (live : List Nat) : Prop :=
 live.length = m ∧ live.Nodup ∧
  (∀ t v, t < nt → L t = some v → v = Za6 (rho live far) 3 ((T.get t).getD undef) ∧ Zas 3 ((T.get t).getD undef) = true) ∧
  ∀ j o, H.get j = some o → ∃ k, live[j]? = some k ∧ match o with
   | .ro O m => s.h.get k = some (.ro O m)
   | .cells c t q => ∃ c' r, s.h.get k = some (.cells c' t q) ∧ c'.map (Za6 (rho live far) 1) = c ++ r ∧ (q = true → r = []) ∧ Z7 (Zas 1) c' = true
def ZdV (n : Nat) (live : List Nat) : Bool := (live.take n == List.range n) && Z7 (fun k => Nat.blt k 1000000000) live
theorem Zn5 {n : Nat} {live : List Nat} (h : ZdV n live = true) {k : Nat} (hk : k < n) : live[k]? = some k := by
 unfold ZdV at h
 rw [Bool.and_eq_true] at h
 have h := beq_iff_eq.1 h.1
 have : (live.take n)[k]? = some k := by rw [h]; simp [hk]
 rwa [List.getElem?_take_of_lt hk] at this
theorem ZmO {n : Nat} {live : List Nat} (h : ZdV n live = true) : ∀ k ∈ live, k < far := fun k hk => by
 unfold ZdV at h
 rw [Bool.and_eq_true] at h
 have := Zav h.2 k hk
 rw [Nat.blt_eq] at this
 exact this
end
end Ev
end Go.Proofs.YtlbbiflodemagaaDoor
/- Functions that panic, and such as recover what is thrown. -/
namespace Go.Proofs.YtlbbiflodemagaaDoor
open Go.RowKit
namespace Ev
noncomputable section
def Zou (P : Program) (ρ : Operand → Value) (o : Oper) (l : List Oper) : Option (Tmp × Value) :=
  match o.op with
  | .makeInterface _ x => match o.dst with
    | some d => match l with
      | o2 :: _ => match o2.op with
        | .panic y => match y with
          | .tmp d' => match o2.guard with
            | none => bif Nat.beq d' d && Zbp (ρ x) then match ZgW P (execOp (fun _ => ρ x) o) with
              | some (.value (.iface t u)) => some (d, .iface t u)
              | _ => none
              else none
            | _ => none
          | _ => none
        | _ => none
      | [] => none
    | none => none
  | _ => none
def Zg7 (P : Program) (ext : FuncId → Option Ext) (nt : Nat) (call : FuncId → Array Value → St → Option (Value × St)) (fu : Nat) (ops : Array Oper) : List Oper → Tr Value → St → Option (Value × Tr Value × St)
  | [], _, _ => none
  | o :: l, T, s =>
    bif ZdU nt o.dst && Z7 ZfT o.op.operands.toList then
      match Zeb ops T o s with
      | some (true, s1) => match Zou P (opnd T) o l with
        | some (d, v) => some (v, T.set d (some (.chan (some 0))), s1)
        | none => match ZfL P ext fu (opnd T) o s1 with
          | some (v, s') => Zg7 P ext nt call fu ops l (Zc2 T o.dst v) s'
          | none => match ZjC o with
            | some c => match callee (opnd T) c with
              | some (f, args) => match call f args s1 with
                | some (v, s') => some (v, T, s')
                | none => none
              | none => none
            | none => none
      | some (false, s1) => Zg7 P ext nt call fu ops l (Zc2 T o.dst undef) s1
      | none => none
    else none
def ZaW (P : Program) (ext : FuncId → Option Ext) (nt : Nat) (call : FuncId → Array Value → St → Option (Value × St)) : Nat → Code → Tr Value → St → Option (Value × Tr Value × St)
  | 0, _, _, _ => none
  | fu + 1, c, T, s => match c with
    | .seq a b => match ZaK P ext nt fu a T s with
      | some (.normal, T', s') => ZaW P ext nt call fu b T' s'
      | some _ => none
      | none => ZaW P ext nt call fu a T s
    | .cond x a b => match opnd T x with
      | .bool t => match t with
        | true => ZaW P ext nt call fu a T s
        | false => ZaW P ext nt call fu b T s
      | _ => none
    | .block _ a => ZaW P ext nt call fu a T s
    | .loop a => match ZaK P ext nt fu a T s with
      | some (.normal, T', s') => ZaW P ext nt call fu (.loop a) T' s'
      | some _ => none
      | none => ZaW P ext nt call fu a T s
    | .region _ ops draw => match draw with
      | true => none
      | false => Zg7 P ext nt call fu ops ops.toList T s
    | _ => none
def Zdu (P : Program) (ext : FuncId → Option Ext) : Nat → FuncId → Array Value → St → Option (Value × St)
  | 0, _, _, _ => none
  | fu + 1, f, args, s => match ext f with
   | some (.tc S) => match s.nextW with
    | (some (.call pre v post dn), s1) => match Zcf v with
      | true => Zko S args pre v post dn s1
      | false => none
    | _ => none
   | _ => match P.funcs[f]? with
    | some fn => match fn.body with
      | some c => bif Nat.ble args.size fn.ntmps then match ZaW P ext fn.ntmps (Zdu P ext fu) fu c (ZdT 0 args.toList .nil) s with
        | some (v, _, s') => some (v, s')
        | none => none
        else none
      | none => none
    | none => none
end
section
variable {P : Program} {ext : FuncId → Option Ext}
def PostX (P : Program) (ι : Ren) (s : St) (w : World) (v : Value) (s' : St) (e : Ending) (w' : World) : Prop :=
  ∃ ι', e = .panicked (Zee v) ∧ Step P ι s.h.get w ι' s'.h.get w' ∧ Dom ι ι' s.n s'.n
def Zq4 (P : Program) (ι : Ren) (s : St) (w : World) (nt : Nat) (D : List Deferred) (v : Value) (T' : Tr Value) (s' : St) (ex : Exit) (a' : Act) (w' : World) : Prop :=
  ∃ ι', ex = .panic (Zee v) ∧ Step P ι s.h.get w ι' s'.h.get w' ∧ Dom ι ι' s.n s'.n ∧ TR ι' nt D T' a'
structure Zkt (P : Program) (call : FuncId → Array Value → St → Option (Value × St)) : Prop where
  up : ∀ f args s v s', call f args s = some (v, s') → Up s s'
  body : ∀ f args s v s', call f args s = some (v, s') → ∃ (fn : Func) (c : Code), P.funcs[f]? = some fn ∧ fn.body = some c
  does : ∀ f args s v s', call f args s = some (v, s') → (∀ p ∈ s'.ob, p.1 = p.2) → ∀ ι w args', VRs ι args args' → Emb P ι s.h.get w → Fresh ι s.n s'.n → Calls P f args' w (PostX P ι s w v s')
theorem ZrE {ι : Ren} {nt : Nat} {D : List Deferred} {T : Tr Value} {a : Act} {w : World} {ops : Array Oper} {o : Oper} {l : List Oper} {d : Tmp} {v : Value} {Q : Exit → Act → World → Prop} (hT : TR ι nt D T a) (hg : ZdU nt o.dst = true) (hg2 : Z7 ZfT o.op.operands.toList = true) (h : Zou P (opnd T) o l = some (d, v))
    (hQ : TR ι nt D (T.set d (some (.chan (some 0)))) (a.put (some d) v) → Q (.panic (Zee v)) (a.put (some d) v) w) : o.wp P a w (wpList P ops Q l) Q := by
  unfold Zou at h
  split at h
  · rename_i ty x hop
    split at h
    · rename_i d0 hd
      split at h
      · rename_i o2 l2
        split at h
        · rename_i y hop2
          split at h
          · rename_i d'
            split at h
            · rename_i hgd
              obtain ⟨hc, h⟩ := Zo h
              simp only [Bool.and_eq_true] at hc
              have hdd := Nat.eq_of_beq_eq_true hc.1
              subst hdd
              split at h
              · rename_i t u hp
                injection h with h; injection h with q1 q2; subst q1 q2
                have hx : Zc0 a x = opnd T x := (hT.opnd x).eq_of_free hc.2
                have hex : execOp (Zc0 a) o = execOp (fun _ => opnd T x) o := by simp only [execOp, hop, hx]
                unfold Oper.wp
                rw [← Zfl (fun cs b e => by rw [hop] at e; cases e) hg2, hex, Zfi w hp, Oper.upon_value, hd]
                have hT' : TR ι nt D (T.set d' (some (.chan (some 0)))) (a.put (some d') (.iface t u)) := by
                  rw [hd] at hg
                  exact hT.put (dst := some d') hg (.glob rfl)
                unfold wpList
                rw [if_pos (by simp [Region.wanted, hgd])]
                refine .inl ?_
                unfold Oper.wp
                have hlt : d' < a.tmps.size := by
                  rw [hd] at hg
                  rw [hT.1]
                  simpa [ZdU, Nat.blt_eq] using hg
                have hrun : (execOp (a.put (some d') (.iface t u)).eval o2).run P w = .halt (.panic (.iface t u)) w := by
                  simp only [execOp, hop2, Act.eval, Act.put]
                  rw [show (a.tmps.setIfInBounds d' (Value.iface t u)).getD d' undef = .iface t u from by simp [Array.getD, hlt]]
                  rfl
                rw [hrun, Oper.upon_panic]
                exact hQ hT'
              · cases h
            · cases h
          · cases h
        · cases h
      · cases h
    · cases h
  · cases h
theorem ZlQ (F : Fit P ext) {call : FuncId → Array Value → St → Option (Value × St)} (C : Zkt P call) {nt fu : Nat} {ops : Array Oper} : ∀ (l : List Oper) (T : Tr Value) (s : St) (v : Value) (T' : Tr Value) (s' : St), Zg7 P ext nt call fu ops l T s = some (v, T', s') → Up s s'
  | [], T, s, v, T', s', h => by simp [Zg7] at h
  | o :: l, T, s, v, T', s', h => by
    simp only [Zg7] at h
    replace h := (Zo h).2
    have uP := (Zc3 (P := P) (ext := ext) (fun f g hg => (F.hp f g hg).up) fu).2.2.1
    split at h
    · split at h
      · injection h with h; simp only [Prod.mk.injEq] at h; obtain ⟨_, _, rfl⟩ := h; exact ZaD (by assumption)
      · split at h
        · exact (ZaD (by assumption)).trans ((uP _ _ _ _ _ (by assumption)).trans (ZlQ F C l _ _ _ _ _ h))
        · split at h
          · split at h
            · split at h
              · injection h with h; simp only [Prod.mk.injEq] at h; obtain ⟨_, _, rfl⟩ := h
                exact (ZaD (by assumption)).trans (C.up _ _ _ _ _ (by assumption))
              · cases h
            · cases h
          · cases h
    · exact (ZaD (by assumption)).trans (ZlQ F C l _ _ _ _ _ h)
    · cases h
theorem Zhf (F : Fit P ext) {call : FuncId → Array Value → St → Option (Value × St)} (C : Zkt P call) {nt : Nat} : ∀ (fu : Nat) (c : Code) (T : Tr Value) (s : St) (v : Value) (T' : Tr Value) (s' : St), ZaW P ext nt call fu c T s = some (v, T', s') → Up s s'
  | 0, _, _, _, _, _, _, h => by simp [ZaW] at h
  | fu + 1, c, T, s, v, T', s', h => by
    have uC := (Zc3 (P := P) (ext := ext) (fun f g hg => (F.hp f g hg).up) fu).1
    cases c <;> simp only [ZaW] at h
    case seq a b =>
      split at h
      · exact (uC _ _ _ _ _ _ _ (by assumption)).trans (Zhf F C fu _ _ _ _ _ _ h)
      · cases h
      · exact Zhf F C fu _ _ _ _ _ _ h
    case cond x a b =>
      split at h
      · split at h
        · exact Zhf F C fu _ _ _ _ _ _ h
        · exact Zhf F C fu _ _ _ _ _ _ h
      · cases h
    case block id a => exact Zhf F C fu _ _ _ _ _ _ h
    case loop a =>
      split at h
      · exact (uC _ _ _ _ _ _ _ (by assumption)).trans (Zhf F C fu _ _ _ _ _ _ h)
      · cases h
      · exact Zhf F C fu _ _ _ _ _ _ h
    case region id ops draw =>
      split at h
      · cases h
      · exact ZlQ F C _ _ _ _ _ _ h
    all_goals cases h
theorem Zku (F : Fit P ext) {call : FuncId → Array Value → St → Option (Value × St)} (C : Zkt P call) {nt fu : Nat} {ops : Array Oper} : ∀ (l : List Oper) (T : Tr Value) (s : St) (v : Value) (T' : Tr Value) (s' : St), Zg7 P ext nt call fu ops l T s = some (v, T', s') → (∀ p ∈ s'.ob, p.1 = p.2) →
    ∀ ι D a w (Q : Exit → Act → World → Prop), TR ι nt D T a → Emb P ι s.h.get w → Fresh ι s.n s'.n → (∀ ι' a' w', Step P ι s.h.get w ι' s'.h.get w' → Dom ι ι' s.n s'.n → TR ι' nt D T' a' → Q (.panic (Zee v)) a' w') → wpList P ops Q l a w
  | [], T, s, v, T', s', h => by simp [Zg7] at h
  | o :: l, T, s, v, T', s', h => by
    intro ho ι D a w Q hT he hf hQ
    simp only [Zg7] at h
    obtain ⟨hg, h⟩ := Zo h
    simp only [Bool.and_eq_true] at hg
    split at h
    · rename_i s1 hw
      have u1 := ZaD hw
      obtain ⟨hwant, e2, e3⟩ := Zcj (fun t _ => hT.2.2 t) hw
      unfold wpList
      rw [if_pos hwant]
      split at h
      · rename_i d v0 ht
        injection h with h; simp only [Prod.mk.injEq] at h; obtain ⟨rfl, rfl, rfl⟩ := h
        exact .inl (ZrE hT hg.1 hg.2 ht fun hT' => hQ ι _ w (by rw [e2]; exact Step.refl he) (by rw [e3]; exact Dom.refl) (by first | exact hT' | (simp only [Act.put] at hT' ⊢; exact hT')))
      · split at h
        · rename_i v1 s2 hv
          have ua := Zc3 (P := P) (ext := ext) (fun f g hg => (F.hp f g hg).up) fu
          have u2 := ua.2.2.1 _ _ _ _ _ hv
          have u3 := ZlQ F C _ _ _ _ _ _ h
          refine .inl ((Zfm F fu).2.2.1 (opnd T) (Zc0 a) o s1 v1 s2 hv (ZaP u3.ob ho) ι w hT.opnd (e2 ▸ he) (e3 ▸ (hf.mono (Nat.le_refl _) u3.n)) a _ _ (Zfl (ZiD hv) hg.2).symm fun v' w' ι' g1 g2 g3 => ?_)
          rw [e2] at g1
          rw [e3] at g2
          have hle : s.n ≤ s2.n := by rw [← e3]; exact u2.n
          exact Zku F C l (Zc2 T o.dst v1) s2 v T' s' h ho ι' D _ w' Q ((hT.on g1.ext).put hg.1 g3) g1.emb (hf.after g2 hle) fun ι2 a2 w2 k1 k2 k3 => hQ ι2 a2 w2 (g1.trans k1) (g2.trans k2 hle u3.n) k3
        · split at h
          · rename_i c hc
            obtain ⟨hop, _⟩ := Zm6 hc
            split at h
            · rename_i f args hcal
              split at h
              · rename_i v1 s2 hcall
                injection h with h; simp only [Prod.mk.injEq] at h; obtain ⟨rfl, rfl, rfl⟩ := h
                obtain ⟨args', hrun, hargs⟩ := Zls (P := P) hT.opnd hop hcal w
                rw [Zfl (fun cs b e => by rw [hop] at e; cases e) hg.2] at hrun
                obtain ⟨fn, c', hfn, hb⟩ := C.body _ _ _ _ _ hcall
                refine .inl ?_
                unfold Oper.wp
                rw [hrun, Zdt hfn (F.go f fn hfn) hb, Oper.upon_enter]
                refine (C.does _ _ _ _ _ hcall ho ι w args' hargs (e2 ▸ he) (e3 ▸ hf)).mono ?_
                rintro e w2 ⟨ι2, rfl, k1, k2⟩
                exact hQ ι2 _ w2 (e2 ▸ k1) (e3 ▸ k2) (hT.on k1.ext)
              · cases h
            · cases h
          · cases h
    · rename_i s1 hw
      have u1 := ZaD hw
      obtain ⟨hwant, e2, e3⟩ := Zcj (fun t _ => hT.2.2 t) hw
      unfold wpList
      rw [if_neg (by rw [hwant]; simp)]
      exact Zku F C l (Zc2 T o.dst undef) s1 v T' s' h ho ι D _ w Q (hT.put hg.1 VR.undef') (e2 ▸ he) (e3 ▸ hf) fun ι2 a2 w2 k1 k2 k3 => hQ ι2 a2 w2 (e2 ▸ k1) (e3 ▸ k2) k3
    · cases h
theorem Zn6 (F : Fit P ext) {call : FuncId → Array Value → St → Option (Value × St)} (C : Zkt P call) {nt : Nat} : ∀ (fu : Nat),
    (∀ (c : Code) (T : Tr Value) (s : St) (v : Value) (T' : Tr Value) (s' : St), ZaW P ext nt call fu c T s = some (v, T', s') → (∀ p ∈ s'.ob, p.1 = p.2) →
      ∀ ι D a w, TR ι nt D T a → Emb P ι s.h.get w → Fresh ι s.n s'.n → c.wp P (Zq4 P ι s w nt D v T' s') a w) ∧
    (∀ (c : Code) (T : Tr Value) (s : St) (v : Value) (T' : Tr Value) (s' : St), ZaW P ext nt call fu (.loop c) T s = some (v, T', s') → (∀ p ∈ s'.ob, p.1 = p.2) →
      ∀ ι D a w, TR ι nt D T a → Emb P ι s.h.get w → Fresh ι s.n s'.n → Code.rounds P c (Zq4 P ι s w nt D v T' s') fu a w) := by
  intro fu
  induction fu with
  | zero => exact ⟨fun _ _ _ _ _ _ h => by simp [ZaW] at h, fun _ _ _ _ _ _ h => by simp [ZaW] at h⟩
  | succ fu ih =>
    obtain ⟨ihC, ihL⟩ := ih
    have uC := (Zc3 (P := P) (ext := ext) (fun f g hg => (F.hp f g hg).up) fu).1
    have sC := (Zfm F fu).1
    have loops : ∀ (c : Code) (T : Tr Value) (s : St) (v : Value) (T' : Tr Value) (s' : St), ZaW P ext nt call (fu + 1) (.loop c) T s = some (v, T', s') → (∀ p ∈ s'.ob, p.1 = p.2) →
        ∀ ι D a w, TR ι nt D T a → Emb P ι s.h.get w → Fresh ι s.n s'.n → Code.rounds P c (Zq4 P ι s w nt D v T' s') (fu + 1) a w := by
      intro x T s v T' s' h ho ι D a w hT he hf
      simp only [ZaW] at h
      rw [rounds_succ]
      split at h
      · rename_i T1 s1 h1
        have u1 := uC _ _ _ _ _ _ _ h1
        have u2 := Zhf F C fu _ _ _ _ _ _ h
        refine wp_mono (sC nt x T s .normal T1 s1 h1 (ZaP u2.ob ho) ι D a w hT he (hf.mono (Nat.le_refl _) u2.n)) ?_
        rintro ex a1 w1 ⟨rfl, ι1, g1, g2, g3⟩
        refine Zjx ?_ fu a1 w1 (ihL x T1 s1 v T' s' h ho ι1 D a1 w1 g3 g1.emb (hf.after g2 u1.n))
        rintro ex a2 w2 ⟨ι2, rfl, k1, k2, k3⟩
        exact ⟨ι2, rfl, g1.trans k1, g2.trans k2 u1.n u2.n, k3⟩
      · cases h
      · refine wp_mono (ihC x T s v T' s' h ho ι D a w hT he hf) ?_
        rintro ex a1 w1 ⟨ι1, rfl, g⟩
        exact ⟨ι1, rfl, g⟩
    refine ⟨fun c T s v T' s' h ho ι D a w hT he hf => ?_, loops⟩
    have h0 := h
    cases c <;> simp only [ZaW] at h
    case seq x y =>
      split at h
      · rename_i T1 s1 h1
        have u1 := uC _ _ _ _ _ _ _ h1
        have u2 := Zhf F C fu _ _ _ _ _ _ h
        refine wp_seq (wp_mono (sC nt x T s .normal T1 s1 h1 (ZaP u2.ob ho) ι D a w hT he (hf.mono (Nat.le_refl _) u2.n)) ?_)
        rintro ex a1 w1 ⟨rfl, ι1, g1, g2, g3⟩
        refine wp_mono (ihC y T1 s1 v T' s' h ho ι1 D a1 w1 g3 g1.emb (hf.after g2 u1.n)) ?_
        rintro ex a2 w2 ⟨ι2, rfl, k1, k2, k3⟩
        exact ⟨ι2, rfl, g1.trans k1, g2.trans k2 u1.n u2.n, k3⟩
      · cases h
      · refine wp_seq (wp_mono (ihC x T s v T' s' h ho ι D a w hT he hf) ?_)
        rintro ex a1 w1 ⟨ι1, rfl, g⟩
        exact ⟨ι1, rfl, g⟩
    case cond x y z =>
      split at h
      · rename_i t ht
        have hx : a.eval x = .bool t := ZfE ((ht ▸ hT.opnd x : VR ι (.bool t) (Zc0 a x)).bool_inv)
        split at h
        · exact wp_cond_true hx (ihC y T s v T' s' h ho ι D a w hT he hf)
        · exact wp_cond_false hx (ihC z T s v T' s' h ho ι D a w hT he hf)
      · cases h
    case block id x =>
      refine wp_block (wp_mono (ihC x T s v T' s' h ho ι D a w hT he hf) ?_)
      rintro ex a1 w1 ⟨ι1, rfl, g⟩
      exact ⟨ι1, rfl, g⟩
    case loop x => exact wp_loop_rounds (fu + 1) (loops x T s v T' s' h0 ho ι D a w hT he hf)
    case region id ops draw =>
      split at h
      · cases h
      · exact wp_region_list (Zku F C _ T s v T' s' h ho ι D a w _ hT he hf fun ι' a' w' g1 g2 g3 => ⟨ι', rfl, g1, g2, g3⟩)
    all_goals cases h
theorem ZtV {ι : Ren} {v v' : Value} (ht : Zcf v = true) : ¬ VR ι v v' := by
  intro h
  cases h with
  | atom h =>
    unfold Zcf at ht
    split at ht
    · simp only [Ev.atom] at h
      simp [h] at ht
    · cases ht
  | _ => simp [Zcf] at ht
theorem Zkv (F : Fit P ext) : ∀ fu : Nat, Zkt P (Zdu P ext fu)
  | 0 => ⟨fun _ _ _ _ _ h => by simp [Zdu] at h, fun _ _ _ _ _ h => by simp [Zdu] at h, fun _ _ _ _ _ h => by simp [Zdu] at h⟩
  | fu + 1 => by
    have C := Zkv F fu
    refine ⟨fun f args s v s' h => ?_, fun f args s v s' h => ?_, fun f args s v s' h ho ι w args' ha he hf => ?_⟩
    · simp only [Zdu] at h
      split at h
      · split at h
        · rename_i hw
          split at h
          · exact (ZR hw).trans (Zqv h)
          · cases h
        · cases h
      · split at h
        · split at h
          · replace h := (Zo h).2
            split at h
            · injection h with h; injection h with q1 q2; subst q1 q2; exact Zhf F C _ _ _ _ _ _ _ (by assumption)
            · cases h
          · cases h
        · cases h
    · simp only [Zdu] at h
      split at h
      · rename_i S hx
        exact (F.tc f S hx).1
      · split at h
        · rename_i fn hfn
          split at h
          · rename_i c hb
            exact ⟨fn, c, hfn, hb⟩
          · cases h
        · cases h
    · simp only [Zdu] at h
      split at h
      · rename_i S hx
        split at h
        · rename_i pre u post dn s1 hw
          obtain ⟨e1, e2, _⟩ := ZY hw
          split at h
          · rename_i ht
            obtain ⟨rfl, h3⟩ := Zm4 (F.tc f S hx).2 h ho ha (e1 ▸ he) (e2 ▸ hf)
            refine h3.mono ?_
            rintro e w' (⟨v', ι', rfl, g1, g2, g3⟩ | ⟨_, ι', rfl, g1, g2⟩)
            · exact absurd g3 (ZtV ht)
            · exact ⟨ι', rfl, e1 ▸ g1, e2 ▸ g2⟩
          · cases h
        · cases h
      · split at h
        · rename_i fn hfn
          split at h
          · rename_i c hb
            obtain ⟨hsz, h⟩ := Zo h
            have hle : args.size ≤ fn.ntmps := Nat.le_of_ble_eq_true hsz
            split at h
            · rename_i v1 T1 s1 h1
              injection h with h; injection h with q1 q2; subst q1 q2
              refine calls_of_wp hfn hb (wp_mono ((Zn6 F C fu).1 c _ s _ T1 _ h1 ho ι [] _ w (Zhc ha hle) he hf) ?_)
              rintro ex a1 w1 ⟨ι1, rfl, g1, g2, g3⟩
              exact ⟨g3.2.1, ι1, rfl, g1, g2⟩
            · cases h
          · cases h
        · cases h
end
end Ev
end Go.Proofs.YtlbbiflodemagaaDoor
/- What is known of a function, in blocks' numbers of its own; and what that says at a call. -/
namespace Go.Proofs.YtlbbiflodemagaaDoor
open Go.RowKit
namespace Ev
noncomputable section
def ZdG : Nat → List AObj → Tr AObj
 | _, [] => .nil
 | i, o :: l => (ZdG (i + 1) l).set i (some o)
theorem Zpe : ∀ (l : List AObj) (i k : Nat), (ZdG i l).get k = if i ≤ k then l[k - i]? else none
 | [], i, k => by
  show (Tr.nil : Tr AObj).get k = _
  rw [Tr.get_nil]
  split <;> simp
 | o :: l, i, k => by
  show ((ZdG (i + 1) l).set i (some o)).get k = _
  rw [Tr.get_set]
  by_cases hk : k = i
  ·subst hk; rw [Zx, if_pos (Nat.le_refl _)]; simp
  ·rw [Zl hk, Zpe l (i + 1) k]
   by_cases h : i + 1 ≤ k
   ·rw [if_pos h, if_pos (by omega)]
    have : k - i = (k - (i + 1)) + 1 := by omega
    rw [this, List.getElem?_cons_succ]
   ·rw [if_neg h, if_neg (by omega)]
end
def lk (l : List AObj) : AH := fun k => l[k]?
def lkO (l : List (Option AObj)) : AH := fun k => (l[k]?).join
theorem Zfn (l : List AObj) : (ZdG 0 l).get = lk l := funext fun k => by rw [Zpe]; simp [lk]
section
variable {P : Program} {ext : FuncId → Option Ext}
def Fin (P : Program) (ι : Ren) (pre : List AObj) (w : World) (v : Value) (post : List (Option AObj)) (e : Ending) (w' : World) : Prop :=
 (∃ v' ι', e = .returned v' ∧ Step P ι (lk pre) w ι' (lkO post) w' ∧ (∀ k, ι' k ≠ none → k < post.length ∨ far ≤ k) ∧ VR ι' v v') ∨ (Zcf v = true ∧ ∃ ι', e = .panicked (Zee v) ∧ Step P ι (lk pre) w ι' (lkO post) w' ∧ (∀ k, ι' k ≠ none → k < post.length ∨ far ≤ k))
def LSpec (P : Program) (f : FuncId) (A : Array Value) (pre : List AObj) (v : Value) (post : List (Option AObj)) : Prop :=
 ∀ ι w args', (∀ k, ι k ≠ none → k < pre.length ∨ ZbD k) → VRs ι A args' → Emb P ι (lk pre) w → Calls P f args' w (Fin P ι pre w v post)
def Zn7 (n0 : Nat) (v : Value) (post : List (Option AObj)) (u : Value) (s : St) (live : List Nat) : Prop :=
 live.length = post.length ∧ live.Nodup ∧ ZdV n0 live = true ∧ (v = Za6 (rho live far) 3 u ∧ Zas 3 u = true) ∧
  ∀ j o, lkO post j = some o → ∃ k, live[j]? = some k ∧ match o with
   | .ro O m => s.h.get k = some (.ro O m)
   | .cells c t q => ∃ c' r, s.h.get k = some (.cells c' t q) ∧ c'.map (Za6 (rho live far) 1) = c ++ r ∧ (q = true → r = []) ∧ Z7 (Zas 1) c' = true
theorem Zlt {ι0 ι : Ren} {pre : List AObj} {w0 w : World} {u v v' : Value} {post : List (Option AObj)} {s : St} {live : List Nat} (hle : post.length ≤ far) (hd : ∀ k, ι0 k ≠ none → k < pre.length ∨ ZbD k) (h : Zn7 pre.length v post u s live) (hS : Step P ι0 (lk pre) w0 ι s.h.get w) (hv : VR ι u v') : Fin P ι0 pre w0 v post (.returned v') w := by
 obtain ⟨h1, h2, h3, h4, h5⟩ := h
 have hT : TR ι 1 [] ((Tr.nil : Tr Value).set 0 (some u)) { tmps := #[v'], defers := [] } := ⟨rfl, rfl, fun t => by
  rw [Tr.get_set]
  by_cases ht : t = 0
  ·subst ht; rw [Zx]; exact hv
  ·rw [Zl ht, Tr.get_nil]
   have : (#[v'] : Array Value).getD t undef = undef := by simp [Array.getD, show ¬ t < 1 by omega]
   rw [this]
   exact VR.undef'⟩
 obtain ⟨gv, ι', hT', hS', hfr⟩ := ZvS hT hS live post.length far rfl (ZmO h3) h1 hle h2 (fun k hk => (hd k hk).imp (Zn5 h3) id) (fun _ => some v) (fun t x ht hx => by
  injection hx with hx
  subst hx
  obtain rfl : t = 0 := by omega
  rw [Tr.get_set, Zx]
  exact h4) (lkO post) h5
 refine .inl ⟨v', ι', rfl, hS', fun k hk => ?_, ?_⟩
 ·rcases Nat.lt_or_ge k post.length with h | h
  ·exact .inl h
  ·rcases Nat.lt_or_ge k far with h' | h'
   ·exact absurd (hfr k h h') hk
   ·exact .inr h'
 ·have := hT'.2.2 0
  rw [Zq2, if_pos (by omega)] at this
  exact this
theorem ZuT (F : Fit P ext) {f : FuncId} {fn : Func} {c : Code} (hfn : P.funcs[f]? = some fn) (hb : fn.body = some c) {A : Array Value} {pre : List AObj} {v : Value} {post : List (Option AObj)} (hA : Nat.ble A.size fn.ntmps = true) {fu : Nat} {orc : Orc} {st : Stop}
  (hev : Zgj P ext fn fn.ntmps fu c [] (ZdT 0 A.toList .nil) ⟨ZdG 0 pre, pre.length, [], orc, []⟩ = some st) (ho : ∀ p ∈ st.s.ob, p.1 = p.2) (hn : st.s.n ≤ far)
  (hto : ∀ ι0 w0, (∀ k, ι0 k ≠ none → k < pre.length ∨ ZbD k) → ∀ ι' a' w', Step P ι0 (lk pre) w0 ι' st.s.h.get w' → ZpJ P fn (Fin P ι0 pre w0 v post) (fun _ _ _ => False) fn.ntmps ι' a' w' st) : LSpec P f A pre v post := by
 intro ι w args' hd ha he
 refine calls_of_wp hfn hb ?_
 have := (ZuS F (R := Fin P ι pre w v post) (Nx := fun _ _ _ => False) fu).1 c [] _ _ st hev ho ι _ w (Zhc ha (Nat.le_of_ble_eq_true hA)) (by show Emb P ι (ZdG 0 pre).get w; rw [Zfn]; exact he)
  ⟨hn, fun k h1 h2 => by
   cases hk : ι k with
   | none => rfl
   | some b => exact absurd (hd k (by rw [hk]; simp)) (by have h3 : pre.length ≤ k := h1; have h4 : st.s.n ≤ 1000000000 := hn; have h5 : k < st.s.n := h2; unfold ZbD; omega)⟩
  (fun ι' a' w' g1 _ => hto ι w hd ι' a' w' (by have := g1; simp only [Zfn] at this; exact this))
 exact this
theorem ZtW (F : Fit P ext) {f : FuncId} {fn : Func} {c : Code} (hfn : P.funcs[f]? = some fn) (hb : fn.body = some c) {A : Array Value} {pre : List AObj} {v u : Value} {post : List (Option AObj)} (hA : Nat.ble A.size fn.ntmps = true) {fu : Nat} {orc : Orc} {s : St}
  (hev : Zgj P ext fn fn.ntmps fu c [] (ZdT 0 A.toList .nil) ⟨ZdG 0 pre, pre.length, [], orc, []⟩ = some (.fin u s)) (ho : ∀ p ∈ s.ob, p.1 = p.2) (hn : s.n ≤ far) (hle : post.length ≤ far) (live : List Nat) (h : Zn7 pre.length v post u s live) : LSpec P f A pre v post :=
 ZuT F hfn hb hA hev ho hn fun _ _ hd _ _ _ hS _ hv => Zlt hle hd h hS hv
/-! ### At a call -/
def ZaY (m : Nat) : Nat → Value → Bool
 | d + 1, .agg cs => Z7 (ZaY m d) cs.toList
 | d + 1, .tuple cs => Z7 (ZaY m d) cs.toList
 | _, .pointer (some ⟨k, _, none⟩) => Nat.blt k m
 | _, .slice (some ⟨k, _, none⟩) _ _ => Nat.blt k m
 | _, .pointer (some ⟨_, _, some _⟩) => true
 | _, .slice (some ⟨_, _, some _⟩) _ _ => true
 | _, .map (some k) => Nat.blt k m
 | _, v => atom v
theorem Zig {ι ι2 : Ren} {ρ : Nat → Nat} {m : Nat} (hι : ∀ k b, k < m → ι k = some b → ι2 (ρ k) = some b) (hmk : ∀ b base id q, ι (Zaj b base id) = some q → ι2 (Zaj b base id) = some q) : ∀ (d : Nat) (v v' : Value), VR ι v v' → ZaY m d v = true → VR ι2 (Za6 ρ d v) v'
 | d, v, v', h, hd => by
  cases h with
  | atom h => rw [Zh5 d h]; exact .atom h
  | glob h => cases d <;> simp [ZaY, Ev.atom] at hd
  | ptr h => cases d <;> exact .ptr (hι _ _ (Nat.le_of_ble_eq_true hd) h)
  | map h => cases d <;> exact .map (hι _ _ (Nat.le_of_ble_eq_true hd) h)
  | slice h hn hc hq => cases d <;> exact .slice (hι _ _ (Nat.le_of_ble_eq_true hd) h) hn hc hq
  | slice0 h =>
   rename_i A _
   obtain ⟨k, o, sp⟩ := A
   cases sp <;> cases d <;> exact .slice0 h
  | mptr h => cases d <;> exact .mptr (hmk _ _ _ _ h)
  | mslice h hn hc => cases d <;> exact .mslice (hmk _ _ _ _ h) hn hc
  | func hs ht h1 h2 =>
   rename_i fn a a' b b'
   have ha : atom (.func fn a b) = true := by cases d <;> exact hd
   have e := VR.eq_of_atom ha (.func hs ht h1 h2)
   rw [e, Zh5 d ha]
   exact .atom ha
  | agg hs h1 =>
   cases d with
   | zero => simp [ZaY, Ev.atom] at hd
   | succ d =>
    simp only [ZaY] at hd
    obtain ⟨q1, q2⟩ := Zip (f := Za6 ρ d) hs fun i x y hx hy => Zig hι hmk d x y (h1 i x y hx hy) (Za5 hd i x hx)
    exact .agg q1 q2
  | tuple hs h1 =>
   cases d with
   | zero => simp [ZaY, Ev.atom] at hd
   | succ d =>
    simp only [ZaY] at hd
    obtain ⟨q1, q2⟩ := Zip (f := Za6 ρ d) hs fun i x y hx hy => Zig hι hmk d x y (h1 i x y hx hy) (Za5 hd i x hx)
    exact .tuple q1 q2
theorem ZmP {ι ι2 : Ren} {f : Value → Value} {a a' : Array Value} (h : VRs ι (Zg6 f a) a') (g : ∀ (i : Nat) x y, a[i]? = some x → VR ι (f x) y → VR ι2 x y) : VRs ι2 a a' := by
 rw [Zsf] at h
 refine ⟨by simpa using h.1, fun i x y hx hy => g i x y hx (h.2 i _ y (by rw [Array.getElem?_map, hx]; rfl) hy)⟩
theorem VR.agg_of {ι : Ren} {a : Array Value} {v' : Value} (h : VR ι (.agg a) v') : ∃ a', v' = .agg a' ∧ VRs ι a a' := by
 cases h with
 | atom h => simp [Ev.atom] at h
 | agg hs h1 => exact ⟨_, rfl, hs, h1⟩
theorem VR.tuple_of {ι : Ren} {a : Array Value} {v' : Value} (h : VR ι (.tuple a) v') : ∃ a', v' = .tuple a' ∧ VRs ι a a' := by
 cases h with
 | atom h => simp [Ev.atom] at h
 | tuple hs h1 => exact ⟨_, rfl, hs, h1⟩
theorem ZpK {ι ι2 : Ren} {ρ : Nat → Nat} {m : Nat} (hι : ∀ k b, k < m → ι (ρ k) = some b → ι2 k = some b) (hmk : ∀ b base id q, ι (Zaj b base id) = some q → ι2 (Zaj b base id) = some q) : ∀ (d : Nat) (v v' : Value), VR ι (Za6 ρ d v) v' → ZaY m d v = true → VR ι2 v v'
 | d, v, v', h, hd => by
  have at_ : atom v = true → VR ι2 v v' := fun ha => by
   rw [Zh5 d ha] at h
   rw [h.eq_of_atom ha]
   exact .atom ha
  cases v with
  | pointer a =>
   cases a with
   | none => exact at_ rfl
   | some a =>
    obtain ⟨k, o, sp⟩ := a
    cases sp with
    | some sp =>
     have h' : VR ι (.pointer (some ⟨k, o, some sp⟩)) v' := by cases d <;> exact h
     cases h' with
     | atom q => simp [Ev.atom] at q
     | mptr q => exact .mptr (hmk _ _ _ _ q)
    | none =>
     have hk : k < m := by cases d <;> exact Nat.le_of_ble_eq_true hd
     have h' : VR ι (.pointer (some ⟨ρ k, o, none⟩)) v' := by cases d <;> exact h
     cases h' with
     | atom q => simp [Ev.atom] at q
     | ptr q => exact .ptr (hι k _ hk q)
  | slice a n c =>
   cases a with
   | none =>
    have ha : atom (.slice none n c) = true := by cases d <;> exact hd
    exact at_ ha
   | some a =>
    obtain ⟨k, o, sp⟩ := a
    cases sp with
    | some sp =>
     have h' : VR ι (.slice (some ⟨k, o, some sp⟩) n c) v' := by cases d <;> exact h
     cases h' with
     | atom q => simp [Ev.atom] at q
     | mslice q hn hc => exact .mslice (hmk _ _ _ _ q) hn hc
     | slice0 h0 => exact .slice0 h0
    | none =>
     have hk : k < m := by cases d <;> exact Nat.le_of_ble_eq_true hd
     have h' : VR ι (.slice (some ⟨ρ k, o, none⟩) n c) v' := by cases d <;> exact h
     cases h' with
     | atom q => simp [Ev.atom] at q
     | slice q hn hc hq => exact .slice (hι k _ hk q) hn hc hq
     | slice0 h0 => exact .slice0 h0
  | map a =>
   cases a with
   | none =>
    have ha : atom (.map none) = true := rfl
    exact at_ ha
   | some k =>
    have hk : k < m := by cases d <;> exact Nat.le_of_ble_eq_true hd
    have h' : VR ι (.map (some (ρ k))) v' := by cases d <;> exact h
    cases h' with
    | atom q => simp [Ev.atom] at q
    | map q => exact .map (hι k _ hk q)
  | agg cs =>
   cases d with
   | zero => simp [ZaY, Ev.atom] at hd
   | succ d =>
    simp only [ZaY] at hd
    obtain ⟨a', rfl, ha⟩ := VR.agg_of (a := Zg6 (Za6 ρ d) cs) h
    have := ZmP ha fun i x y hx hv => ZpK hι hmk d x y hv (Za5 hd i x hx)
    exact .agg this.1 this.2
  | tuple cs =>
   cases d with
   | zero => simp [ZaY, Ev.atom] at hd
   | succ d =>
    simp only [ZaY] at hd
    obtain ⟨a', rfl, ha⟩ := VR.tuple_of (a := Zg6 (Za6 ρ d) cs) h
    have := ZmP ha fun i x y hx hv => ZpK hι hmk d x y hv (Za5 hd i x hx)
    exact .tuple this.1 this.2
  | _ => exact at_ (by cases d <;> exact hd)
def kap (κ : List Nat) (n j : Nat) : Nat := match κ[j]? with | some k => k | none => n + (j - κ.length)
theorem Zn8 {κ : List Nat} {n j : Nat} (h : j < κ.length) : κ[j]? = some (kap κ n j) := by
 unfold kap
 rw [List.getElem?_eq_getElem h]
theorem ZtX {κ : List Nat} {n j : Nat} (h : κ.length ≤ j) : kap κ n j = n + (j - κ.length) := by
 unfold kap
 rw [List.getElem?_eq_none h]
def ZhQ (ρ : Nat → Nat) : AObj → AObj
 | .cells c t q => .cells (c.map (Za6 ρ 1)) t q
 | .ro O m => .ro O m
def Zh6 (m : Nat) : AObj → Bool
 | .cells c _ _ => Z7 (ZaY m 1) c
 | .ro _ _ => true
theorem Zeg {ρ : Nat → Nat} {o : AObj} : isC (some (ZhQ ρ o)) = isC (some o) := by
 cases o with
 | cells c t q => cases q with
  | false => rfl
  | true => cases c <;> rfl
 | ro O m => rfl
theorem ZlR {ρ : Nat → Nat} {o : AObj} : sol (some (ZhQ ρ o)) = sol (some o) := by
 cases o with
 | cells c t q => cases q with
  | false => rfl
  | true => cases c <;> rfl
 | ro O m => rfl
theorem ZmQ : ∀ (n : Nat) (l : List Nat), l.Nodup → (∀ k ∈ l, k < n) → l.length ≤ n
 | 0, l, _, h => by
  cases l with
  | nil => exact Nat.le_refl _
  | cons x l => exact absurd (h x (List.mem_cons_self ..)) (Nat.not_lt_zero _)
 | n + 1, l, hn, h => by
  by_cases hm : n ∈ l
  ·have := ZmQ n (l.erase n) (hn.erase n) (fun k hk => by
    have h1 := h k (List.mem_of_mem_erase hk)
    have hne : k ≠ n := fun e => by subst e; exact (hn.mem_erase_iff.1 hk).1 rfl
    omega)
   rw [List.length_erase_of_mem hm] at this
   omega
  ·have := ZmQ n l hn (fun k hk => by
    have h1 := h k hk
    have : k ≠ n := fun e => hm (e ▸ hk)
    omega)
   omega
theorem ZvT {ρ : Nat → Nat} {d : Nat} {v : Value} (h : Zcf v = true) : Za6 ρ d v = v := by
 unfold Zcf at h
 split at h
 ·cases d <;> rfl
 ·cases h
theorem LSpec.call {f : FuncId} {A : Array Value} {pre : List AObj} {v : Value} {post : List (Option AObj)} (h : LSpec P f A pre v post) (κ : List Nat) (n : Nat) (hκ : κ.length = pre.length) (hnd : κ.Nodup) (hlt : ∀ k ∈ κ, k < n) (hle : pre.length ≤ post.length)
  (hA : Z7 (ZaY pre.length 3) A.toList = true) (hpre : ∀ o ∈ pre, Zh6 pre.length o = true) (hv : (ZaY post.length 3 v || Zcf v) = true) (hpost : ∀ o, some o ∈ post → Zh6 post.length o = true)
  {A' : Array Value} {pre' : List (Nat × AObj)} {v' : Value} {post' : List (Nat × Option AObj)} {dn : Nat} (eA : A' = Zg6 (Za6 (kap κ n) 3) A) (ev : v' = Za6 (kap κ n) 3 v) (edn : pre.length + dn = post.length)
  (e1 : ∀ j o, pre[j]? = some o → Za4 (kap κ n j) pre' = some (ZhQ (kap κ n) o)) (e2 : ∀ k o, Za4 k pre' = some o → ∃ j, j < pre.length ∧ k = kap κ n j)
  (e3 : ∀ j, j < post.length → behind pre' post' (kap κ n j) = (lkO post j).map (ZhQ (kap κ n))) (e4 : ∀ k o, behind pre' post' k = some o → ∃ j, j < post.length ∧ k = kap κ n j) : ZB P f A' pre' v' post' n dn := by
 intro ι w args' ha he hf
 subst eA ev
 have kl : ∀ j, j < pre.length → kap κ n j ∈ κ := fun j hj => List.mem_of_getElem? (Zn8 (n := n) (by omega : j < κ.length))
 have kn : ∀ j, j < pre.length → kap κ n j < n := fun j hj => hlt _ (kl j hj)
 have kg : ∀ j, pre.length ≤ j → kap κ n j = n + (j - pre.length) := fun j hj => by rw [← hκ]; exact ZtX (by omega)
 have kinj : ∀ i j, kap κ n i = kap κ n j → i = j := fun i j hij => by
  rcases Nat.lt_or_ge i pre.length with h1 | h1 <;> rcases Nat.lt_or_ge j pre.length with h2 | h2
  ·have a := Zn8 (n := n) (by omega : i < κ.length)
   have b := Zn8 (n := n) (by omega : j < κ.length)
   rw [hij, ← b] at a
   exact (List.getElem?_inj (by omega) hnd).1 a
  ·have := kn i h1; rw [hij, kg j h2] at this; omega
  ·have := kn j h2; rw [← hij, kg i h1] at this; omega
  ·rw [kg i h1, kg j h2] at hij; omega
 have hpn : pre.length ≤ n := hκ ▸ ZmQ n κ hnd hlt
 have hnf : n + dn ≤ 1000000000 := hf.1
 let ιl : Ren := fun j => if j < pre.length then ι (kap κ n j) else if 1000000000 ≤ j ∧ j % 2 = 0 then ι j else none
 have hιm : ∀ b base id, ιl (Zaj b base id) = ι (Zaj b base id) := fun b base id => by
  have := Zfc b base id
  simp only [ιl]
  rw [if_neg (by omega), if_pos this]
 have hmkl : ∀ b base id q, ι (Zaj b base id) = some q → ιl (Zaj b base id) = some q := fun b base id q h => by rw [hιm]; exact h
 have hιl : ∀ j, j < pre.length → ιl j = ι (kap κ n j) := fun j hj => by simp [ιl, hj]
 have hl : ∀ k b, k < pre.length → ι (kap κ n k) = some b → ιl k = some b := fun k b hk hb => by rw [hιl k hk]; exact hb
 have hargs : VRs ιl A args' := ZmP ha fun i x y hx hv => ZpK hl hmkl 3 x y hv (Za5 hA i x hx)
 have cr : ∀ {c : List Value} {C : Array Value}, Z7 (ZaY pre.length 1) c = true → CR ι (c.map (Za6 (kap κ n) 1)) C → CR ιl c C := fun {c C} hu hc => ⟨by simpa using hc.1, fun i x y hx hy => ZpK hl hmkl 1 x y (hc.2 i _ y (by rw [List.getElem?_map, hx]; rfl) hy) (Zav hu x (List.mem_of_getElem? hx))⟩
 have hemb : Emb P ιl (lk pre) w := by
  refine ⟨fun j c t q hj => ?_, fun j O hj => ?_, fun j j' b b' h1 h2 h3 h4 h5 => ?_, fun j b hj => ?_, fun b base id q hq => ?_, fun x hx => (he.tb x hx).imp fun q hq => hmkl _ _ _ _ hq⟩
  ·have hlt' : j < pre.length := (List.getElem?_eq_some_iff.1 hj).1
   obtain ⟨b, q1, ⟨z1, z2, z3⟩ | ⟨z1, C, q2, q3, q4⟩⟩ := he.obj _ _ t q (e1 j _ hj)
   ·exact ⟨b, by rw [hιl j hlt']; exact q1, .inl ⟨z1, List.map_eq_nil_iff.1 z2, z3⟩⟩
   ·exact ⟨b, by rw [hιl j hlt']; exact q1, .inr ⟨(Zeg (ρ := kap κ n) (o := .cells c t q)).symm.trans z1, C, q2, cr (hpre _ (List.mem_of_getElem? hj)) q3, q4⟩⟩
  ·have hlt' : j < pre.length := (List.getElem?_eq_some_iff.1 hj).1
   obtain ⟨b, q1, q2⟩ := he.ro _ _ (e1 j _ hj)
   exact ⟨b, by rw [hιl j hlt']; exact q1, q2⟩
  ·obtain ⟨o, ho⟩ := Option.isSome_iff_exists.1 (ZbR h1)
   obtain ⟨o', ho'⟩ := Option.isSome_iff_exists.1 (Ze0 h2)
   have l1 : j < pre.length := (List.getElem?_eq_some_iff.1 ho).1
   have l2 : j' < pre.length := (List.getElem?_eq_some_iff.1 ho').1
   rw [hιl j l1] at h3
   rw [hιl j' l2] at h4
   have c1 : isC (Za4 (kap κ n j) pre') = true := by rw [e1 j o ho, Zeg, ← ho]; exact h1
   exact kinj j j' (he.inj _ _ b b' c1 (by show sol (Za4 (kap κ n j') pre') = true; rw [e1 j' o' ho', ZlR, ← ho']; exact h2) h3 h4 h5)
  ·by_cases hj' : j < pre.length
   ·rw [hιl j hj'] at hj; exact he.lt _ b hj
   ·simp only [ιl] at hj
    rw [if_neg hj'] at hj
    split at hj
    ·exact he.lt _ b hj
    ·cases hj
  ·rw [hιm] at hq
   obtain ⟨m1, m2, m3⟩ := he.mks b base id q hq
   refine ⟨m1, ⟨m2.1.on hmkl, fun o c hc => hmkl _ _ _ _ (m2.2 o c hc)⟩, fun k d hk hd => ?_⟩
   obtain ⟨o, ho⟩ := Option.isSome_iff_exists.1 (ZbR hk)
   have l1 : k < pre.length := (List.getElem?_eq_some_iff.1 ho).1
   rw [hιl k l1] at hd
   exact m3 (kap κ n k) d (by show isC (Za4 (kap κ n k) pre') = true; rw [e1 k o ho, Zeg, ← ho]; exact hk) hd
 refine (h ιl w args' (fun k hk => by
  by_cases h : k < pre.length
  ·exact .inl h
  ·simp only [ιl] at hk
   rw [if_neg h] at hk
   split at hk
   ·exact .inr (by assumption)
   ·exact absurd rfl hk) hargs hemb).mono ?_
 intro e w' hfin
 obtain ⟨ι2, hS, hdom, hfin⟩ : ∃ ι2, Step P ιl (lk pre) w ι2 (lkO post) w' ∧ (∀ k, ι2 k ≠ none → k < post.length ∨ far ≤ k) ∧ ((∃ v', e = .returned v' ∧ VR ι2 v v') ∨ (Zcf v = true ∧ e = .panicked (Zee v))) := by
  rcases hfin with ⟨v', ι2, q1, q2, q3, q4⟩ | ⟨q1, ι2, q2, q3, q4⟩
  ·exact ⟨ι2, q2, q3, .inl ⟨v', q1, q4⟩⟩
  ·exact ⟨ι2, q3, q4, .inr ⟨q1, q2⟩⟩
 have live : ∀ j, j < pre.length → ∃ b, ιl j = some b := fun j hj => hemb.live (k := j) (by simp [lk, hj])
 let ι' : Ren := fun k => match ι k with | some b => some b | none => if n ≤ k ∧ k < n + dn then ι2 (k - n + pre.length) else if 1000000000 ≤ k ∧ k % 2 = 0 then ι2 k else none
 have hold : ∀ k b, ι k = some b → ι' k = some b := fun k b hk => by simp [ι', hk]
 have hnew : ∀ k b, k < post.length → ι2 k = some b → ι' (kap κ n k) = some b := fun k b hk hb => by
  rcases Nat.lt_or_ge k pre.length with h1 | h1
  ·obtain ⟨c, hc⟩ := live k h1
   have := hS.ext k c hc
   rw [hb] at this
   injection this with this
   subst this
   rw [hιl k h1] at hc
   exact hold _ _ hc
  ·have e := kg k h1
   have hn : ι (kap κ n k) = none := hf.2 _ (by omega) (by omega)
   have : ι' (kap κ n k) = ι2 (kap κ n k - n + pre.length) := by simp only [ι', hn]; rw [if_pos ⟨by omega, by omega⟩]
   rw [this, e, show n + (k - pre.length) - n + pre.length = k by omega]
   exact hb
 have hback : ∀ k b, k < post.length → ι' (kap κ n k) = some b → ι2 k = some b := fun k b hk hb => by
  rcases Nat.lt_or_ge k pre.length with h1 | h1
  ·obtain ⟨c, hc⟩ := live k h1
   have q := hS.ext k c hc
   rw [hιl k h1] at hc
   rw [hold _ _ hc] at hb
   rw [q]; exact hb
  ·have e := kg k h1
   have hn : ι (kap κ n k) = none := hf.2 _ (by omega) (by omega)
   have : ι' (kap κ n k) = ι2 (kap κ n k - n + pre.length) := by simp only [ι', hn]; rw [if_pos ⟨by omega, by omega⟩]
   rw [this, e, show n + (k - pre.length) - n + pre.length = k by omega] at hb
   exact hb
 have hnewM : ∀ b base id q, ι2 (Zaj b base id) = some q → ι' (Zaj b base id) = some q := fun b base id q hq => by
  have hf := Zfc b base id
  cases hi : ι (Zaj b base id) with
  | some c =>
   have := hS.ext _ c (hmkl _ _ _ _ hi)
   rw [hq] at this
   injection this with this
   subst this
   exact hold _ _ hi
  | none =>
   simp only [ι', hi]
   rw [if_neg (by omega), if_pos hf]
   exact hq
 have hbackM : ∀ b base id q, ι' (Zaj b base id) = some q → ι2 (Zaj b base id) = some q := fun b base id q hq => by
  have hf := Zfc b base id
  cases hi : ι (Zaj b base id) with
  | some c =>
   rw [hold _ _ hi] at hq
   rw [← hq]
   exact hS.ext _ c (hmkl _ _ _ _ hi)
  | none =>
   simp only [ι', hi] at hq
   rw [if_neg (by omega), if_pos hf] at hq
   exact hq
 have inv : ∀ k o, behind pre' post' k = some o → ∃ j o0, j < post.length ∧ k = kap κ n j ∧ lkO post j = some o0 ∧ o = ZhQ (kap κ n) o0 := fun k o hk => by
  obtain ⟨j, hj, rfl⟩ := e4 k o hk
  rw [e3 j hj] at hk
  cases hp : lkO post j with
  | none => rw [hp] at hk; cases hk
  | some o0 => rw [hp] at hk; injection hk with hk; exact ⟨j, o0, hj, rfl, hp, hk.symm⟩
 have mem : ∀ {j o}, lkO post j = some o → some o ∈ post := fun {j o} hj => by
  unfold lkO at hj
  cases hp : post[j]? with
  | none => rw [hp] at hj; cases hj
  | some x => rw [hp] at hj; exact (show x = some o from hj) ▸ List.mem_of_getElem? hp
 suffices hmain : Step P ι (fun k => Za4 k pre') w ι' (behind pre' post') w' ∧ Dom ι ι' n (n + dn) by
  rcases hfin with ⟨v', q1, hvr⟩ | ⟨q1, q2⟩
  ·refine .inl ⟨v', ι', q1, hmain.1, hmain.2, ?_⟩
   have hu : ZaY post.length 3 v = true := by
    cases hu : ZaY post.length 3 v with
    | true => rfl
    | false => rw [hu] at hv; exact absurd hvr (ZtV hv)
   exact Zig hnew hnewM 3 v v' hvr hu
  ·rw [ZvT q1]
   exact .inr ⟨q1, ι', q2, hmain.1, hmain.2⟩
 refine ⟨⟨hold, ⟨fun k c t q hk => ?_, fun k O hk => ?_, fun k k' b b' h1 h2 h3 h4 h5 => ?_, fun k b hk => ?_, fun b base id q hq => ?_, fun x hx => (hS.emb.tb x hx).imp fun q hq => hnewM _ _ _ _ hq⟩, hS.os, hS.tape, hS.output, hS.size, fun b hb hno => hS.frame b hb fun j c hj hc => ?_, fun k b h1 h2 => ?_, fun k h1 h2 => ?_, fun k h1 h2 => ?_⟩, fun k hk => ?_⟩
 ·obtain ⟨j, o0, hj, rfl, hp, ho⟩ := inv k _ hk
  cases o0 with
  | ro O => cases ho
  | cells c0 t0 q0 =>
   injection ho with q1 q2 q3
   subst q1 q2 q3
   obtain ⟨b, q1, ⟨z1, z2, z3⟩ | ⟨z1, C, q2, q3, q4⟩⟩ := hS.emb.obj j c0 _ _ hp
   ·exact ⟨b, hnew j b hj q1, .inl ⟨z1, by rw [z2]; rfl, z3⟩⟩
   have hu : Z7 (ZaY post.length 1) c0 = true := hpost _ (mem hp)
   refine ⟨b, hnew j b hj q1, .inr ⟨(Zeg (ρ := kap κ n) (o := .cells c0 t q)).trans z1, C, q2, ⟨by simpa using q3.1, fun i x y hx hy => ?_⟩, q4⟩⟩
   rw [List.getElem?_map] at hx
   cases hz : c0[i]? with
   | none => rw [hz] at hx; cases hx
   | some z =>
    rw [hz] at hx
    injection hx with hx
    subst hx
    exact Zig hnew hnewM 1 z y (q3.2 i z y hz hy) (Zav hu z (List.mem_of_getElem? hz))
 ·obtain ⟨j, o0, hj, rfl, hp, ho⟩ := inv k _ hk
  cases o0 with
  | cells c0 t0 => cases ho
  | ro O' m1 =>
   injection ho with q1 q2
   subst q1 q2
   obtain ⟨b, q1, q2⟩ := hS.emb.ro j _ hp
   exact ⟨b, hnew j b hj q1, q2⟩
 ·obtain ⟨o, ho⟩ := Option.isSome_iff_exists.1 (ZbR h1)
  obtain ⟨o', ho'⟩ := Option.isSome_iff_exists.1 (Ze0 h2)
  obtain ⟨j, o0, hj, rfl, hp, rfl⟩ := inv k _ ho
  obtain ⟨j', o0', hj', rfl, hp', rfl⟩ := inv k' _ ho'
  rw [ho, Zeg] at h1
  have h2' : sol (behind pre' post' (kap κ n j')) = true := h2
  rw [ho', ZlR] at h2'
  rw [hS.emb.inj j j' b b' (by rw [hp]; exact h1) (by rw [hp']; exact h2') (hback j b hj h3) (hback j' b' hj' h4) h5]
 ·cases hi : ι k with
  | some c =>
   have := hold k c hi
   rw [hk] at this; injection this with this; subst this
   exact Nat.lt_of_lt_of_le (he.lt k b hi) hS.size
  | none =>
   simp only [ι', hi] at hk
   split at hk
   ·exact hS.emb.lt _ b hk
   ·split at hk
    ·exact hS.emb.lt _ b hk
    ·cases hk
 ·have hq2 := hbackM b base id q hq
  obtain ⟨m1, m2, m3⟩ := hS.emb.mks b base id q hq2
  refine ⟨m1, ⟨m2.1.on hnewM, fun o c hc => hnewM _ _ _ _ (m2.2 o c hc)⟩, fun k d hk hd => ?_⟩
  obtain ⟨o, ho⟩ := Option.isSome_iff_exists.1 (ZbR hk)
  obtain ⟨j, o0, hj, rfl, hp, rfl⟩ := inv k _ ho
  have hk' : isC (behind pre' post' (kap κ n j)) = true := hk
  rw [ho, Zeg] at hk'
  exact m3 j d (by rw [hp]; exact hk') (hback j d hj hd)
 ·obtain ⟨o, ho⟩ := Option.isSome_iff_exists.1 (ZbR hj)
  have l1 : j < pre.length := (List.getElem?_eq_some_iff.1 ho).1
  rw [hιl j l1] at hc
  exact hno (kap κ n j) c (by rw [e1 j o ho, Zeg, ← ho]; exact hj) hc
 ·simp only [ι', h1] at h2
  split at h2
  ·rename_i hr
   have hnone : ιl (k - n + pre.length) = none := by simp only [ιl]; rw [if_neg (by omega), if_neg (by omega)]
   rcases hS.new _ b hnone h2 with h | ⟨j, c, hj, hc, he2⟩
   ·exact .inl h
   ·obtain ⟨o, ho⟩ := Option.isSome_iff_exists.1 (ZbR hj)
    have l1 : j < pre.length := (List.getElem?_eq_some_iff.1 ho).1
    rw [hιl j l1] at hc
    exact .inr ⟨kap κ n j, c, by rw [e1 j o ho, Zeg, ← ho]; exact hj, hc, he2⟩
  ·split at h2
   ·rename_i hr
    have hnone : ιl k = none := by simp only [ιl]; rw [if_neg (by omega), if_pos hr]; exact h1
    rcases hS.new _ b hnone h2 with h | ⟨j, c, hj, hc, he2⟩
    ·exact .inl h
    ·obtain ⟨o, ho⟩ := Option.isSome_iff_exists.1 (ZbR hj)
     have l1 : j < pre.length := (List.getElem?_eq_some_iff.1 ho).1
     rw [hιl j l1] at hc
     exact .inr ⟨kap κ n j, c, by rw [e1 j o ho, Zeg, ← ho]; exact hj, hc, he2⟩
   ·cases h2
 ·obtain ⟨o, ho⟩ := Option.isSome_iff_exists.1 (Ze0 h1)
  obtain ⟨j, o0, hj, rfl, hp, rfl⟩ := inv k _ ho
  rcases Nat.lt_or_ge j pre.length with l1 | l1
  ·obtain ⟨c, hc⟩ := live j l1
   have h1' : sol (behind pre' post' (kap κ n j)) = true := h1
   rw [ho, ZlR] at h1'
   have q := hS.alive j (by rw [hp]; exact h1') (by rw [hc]; simp)
   obtain ⟨o1, ho1⟩ := Option.isSome_iff_exists.1 (Ze0 q)
   show sol (Za4 (kap κ n j) pre') = true
   rw [e1 j o1 ho1, ZlR, ← ho1]
   exact q
  ·exact absurd (hf.2 _ (by rw [kg j l1]; omega) (by rw [kg j l1]; omega)) h2
 ·obtain ⟨o, ho⟩ := Option.isSome_iff_exists.1 (ZbR h1)
  obtain ⟨j, o0, hj, rfl, hp, rfl⟩ := inv k _ ho
  rcases Nat.lt_or_ge j pre.length with l1 | l1
  ·obtain ⟨c, hc⟩ := live j l1
   rw [ho, Zeg] at h1
   have q := hS.kind j (by rw [hp]; exact h1) (by rw [hc]; simp)
   obtain ⟨o1, ho1⟩ := Option.isSome_iff_exists.1 (ZbR q)
   rw [e1 j o1 ho1, Zeg, ← ho1]
   exact q
  ·exact absurd (hf.2 _ (by rw [kg j l1]; omega) (by rw [kg j l1]; omega)) h2
 ·cases hi : ι k with
  | some c => exact .inl (by simp)
  | none =>
   simp only [ι', hi] at hk
   split at hk
   ·rename_i hr; exact .inr (.inl hr)
   ·split at hk
    ·rename_i hr; exact .inr (.inr hr.1)
    ·exact absurd rfl hk
end
end Ev
end Go.Proofs.YtlbbiflodemagaaDoor
/- Tools of my own, over any program: contracts that hand back one value and leave what was there alone, and regions walked once in the class of worlds that are alike below a block. -/
namespace Go.Proofs.YtlbbiflodemagaaDoor
open Go.ChangeShapes Go.WideShapes Go.ChangeAt Go.RowKit

def Ret (v : Value) (w : World) (e : Ending) (w' : World) : Prop := e = .returned v ∧ Below w.heap.size w w'

def Cl (w : World) : Type := { w' : World // Below w.heap.size w w' }
def Cl.w {w : World} (x : Cl w) : World := x.1
theorem Cl.below {w : World} (x : Cl w) : Below w.heap.size w x.w := x.2
def Cl.start (w : World) : Cl w := ⟨w, Below.refl _ _⟩
instance (w : World) : Nonempty (Cl w) := ⟨Cl.start w⟩
theorem Cl.size {w : World} (x : Cl w) : w.heap.size ≤ x.w.heap.size := x.below.size
theorem Cl.cell {w : World} (x : Cl w) {b o : Nat} {v : Value} (hb : b < w.heap.size) (h : w.cell? ⟨b, o, none⟩ = some v) : x.w.cell? ⟨b, o, none⟩ = some v :=
 (x.below.cell (p := ⟨b, o, none⟩) hb).trans h
theorem Cl.frozen {w : World} (x : Cl w) {b o : Nat} {v : Bool} (hb : b < w.heap.size) (h : w.frozen? ⟨b, o, none⟩ = v) : x.w.frozen? ⟨b, o, none⟩ = v :=
 (x.below.frozen (p := ⟨b, o, none⟩) hb).trans h
theorem Cl.all {w : World} (_ : Cl w) (b o : Nat) (v : Value) (hb : b < w.heap.size) (h : w.cell? ⟨b, o, none⟩ = some v) : ∀ y : Cl w, y.w.cell? ⟨b, o, none⟩ = some v := fun y => y.cell hb h
theorem Cl.lt {w : World} (x : Cl w) {b : Nat} (h : b < w.heap.size) : b < x.w.heap.size := Nat.lt_of_lt_of_le h x.size
def Cl.on {w : World} (x : Cl w) {w' : World} (h : Below x.w.heap.size x.w w') : Cl w := ⟨w', x.below.trans (h.mono x.size)⟩
theorem Ret.next {w : World} {x : Cl w} {v : Value} {e : Ending} {w' : World} (h : Ret v x.w e w') : e = .returned v ∧ ∃ y : Cl w, w' = y.w :=
 ⟨h.1, x.on h.2, rfl⟩

theorem Ret.end {w W : World} {x : Cl W} {v : Value} (h : Below w.heap.size w W) : Ret v w (.returned v) x.w :=
 ⟨rfl, h.trans (x.below.mono h.size)⟩
theorem Ret.same {w : World} {v : Value} : Ret v w (.returned v) w := ⟨rfl, Below.refl _ _⟩
theorem Ret.alloc {w : World} {v : Value} (o : Obj) : Ret v w (.returned v) (w.alloc o) := ⟨rfl, (Below.refl _ _).alloc (Nat.le_refl _) _⟩

/-! ### Blocks that are known -/
def Has (W : World) (b : Nat) (cs : List Value) : Prop := b < W.heap.size ∧ ∀ i v, cs[i]? = some v → W.cell? ⟨b, i, none⟩ = some v ∧ W.frozen? ⟨b, i, none⟩ = false
section
variable {W : World} {b : Nat} {cs : List Value}
theorem Has.lt (h : Has W b cs) : b < W.heap.size := h.1
theorem Has.new (W : World) (cs : List Value) (t : TypeId) : Has (W.alloc (.cells cs.toArray t)) W.heap.size cs := by
 refine ⟨by simp, fun i v hi => ?_⟩
 have e : (W.alloc (.cells cs.toArray t)).heap[W.heap.size]? = some (.cells cs.toArray t (0, 0)) := heap_alloc_new W _
 refine ⟨?_, by simp only [World.frozen?, e]; simp⟩
 have := cell_of_row (W.alloc (.cells cs.toArray t)) W.heap.size i cs.toArray t (0, 0) e
 rw [this]; simpa using hi
theorem Has.below {W' : World} (h : Has W b cs) (hb : Below W.heap.size W W') : Has W' b cs :=
 ⟨Nat.lt_of_lt_of_le h.1 hb.size, fun i v hi => ⟨(hb.cell (p := ⟨b, i, none⟩) h.1).trans (h.2 i v hi).1, (hb.frozen (p := ⟨b, i, none⟩) h.1).trans (h.2 i v hi).2⟩⟩
theorem Has.ext (h : Has W b cs) (y : Cl W) : Has y.w b cs := h.below y.below
theorem Has.alloc (h : Has W b cs) (o : Obj) : Has (W.alloc o) b cs := h.below ((Below.refl _ _).alloc (Nat.le_refl _) _)
theorem Has.far (h : Has W b cs) {p : Addr} (hp : p.block ≠ b) (u : Value) : Has (W.setCell p u) b cs := by
 refine ⟨by simpa [World.setCell] using h.1, fun i v hi => ?_⟩
 have hb : (W.setCell p u).heap[b]? = W.heap[b]? := Below.heap_setCell W p u b (fun e => hp e.symm)
 exact ⟨(World.cell?_of_block (a := ⟨b, i, none⟩) hb).trans (h.2 i v hi).1, (World.frozen?_of_block (a := ⟨b, i, none⟩) hb).trans (h.2 i v hi).2⟩
theorem Has.at_ (h : Has W b cs) (i : Nat) (v : Value) (hi : cs[i]? = some v) : ∀ y : Cl W, y.w.cell? ⟨b, i, none⟩ = some v := fun y => ((h.ext y).2 i v hi).1
theorem Has.fr (h : Has W b cs) (i : Nat) (v : Value) (hi : cs[i]? = some v) : ∀ y : Cl W, y.w.frozen? ⟨b, i, none⟩ = false := fun y => ((h.ext y).2 i v hi).2
theorem Has.here (h : Has W b cs) (i : Nat) (v : Value) (hi : cs[i]? = some v) : W.cell? ⟨b, i, none⟩ = some v := (h.2 i v hi).1
end
theorem Cl.out {w W : World} (x : Cl W) (h : Below w.heap.size w W) : Below w.heap.size w x.w := h.trans (x.below.mono h.size)
theorem Ret.of {w T : World} {v : Value} (h : Below w.heap.size w T) : Ret v w (.returned v) T := ⟨rfl, h⟩
end Go.Proofs.YtlbbiflodemagaaDoor
/- The frame of every law, over any program: from 'called with whatever can be read, it hands back true and leaves what was there alone' to the row's own step. And how arguments are opened. -/
namespace Go.Proofs.YtlbbiflodemagaaDoor
open Go.ChangeShapes Go.WideShapes Go.ChangeAt Go.RowKit

section
variable {H : Type} {enc : TypeId × Value → H} {P : Program}

theorem Zlu (hl : laidOutB P = true) {W W' : World} (hb : Below W.heap.size W W') : ∀ {ts : List TypeId} {vs : List Value} {ds : List (DataW H)} {ps : List MemPlace},
  (ts.all fun t => P.readableRec t && decide (t < P.types.size)) = true → DataW.TrodAll enc P W 0 (fun _ => true) true ts vs ds ps → (∀ x ∈ ps, x.block < W.heap.size) →
  DataW.TrodAll enc P W' 0 (fun b => decide (b < W.heap.size)) true ts vs ds ps
 | [], vs, ds, ps, _, h, _ => by
  obtain ⟨rfl, rfl, rfl⟩ := trodAll_nil h
  exact trodAll_mk0
 | t :: ts, vs, ds, ps, ha, h, hlt => by
  obtain ⟨v, vs', d, ds', p, q, rfl, rfl, rfl, h0, r0⟩ := trodAll_cons h
  simp only [List.all_cons, Bool.and_eq_true, decide_eq_true_eq] at ha
  exact trodAll_cons_mk (Below.trod hl ha.1.1 ha.1.2 h0 hb fun x hx => hlt x (List.mem_append_left _ hx))
   (Zlu hl hb (by simpa using ha.2) r0 fun x hx => hlt x (List.mem_append_right _ hx))

end
end Go.Proofs.YtlbbiflodemagaaDoor
/- A round's frame: what the runner says of code holds there too. -/
namespace Go.Proofs.YtlbbiflodemagaaDoor
open Go.RowKit
namespace Ev
section
variable {P : Program} {ext : FuncId → Option Ext} {r : Option Nat}
end
end Ev
end Go.Proofs.YtlbbiflodemagaaDoor
/- Ranges over functions: the rounds, the iterator, the statement. -/
namespace Go.Proofs.YtlbbiflodemagaaDoor
open Go.RowKit
namespace Ev
noncomputable section
structure Cx where
 nt : Nat
 T : Tr Value
 ps : Array Tmp
 asg : Code
 body : Code
def dropY (dst : Option Tmp) (ys : List Tmp) : List Tmp := match dst with | some d => ys.filter (fun t => !Nat.beq t d) | none => ys
def addY (dst : Option Tmp) (ys : List Tmp) : List Tmp := match dst with | some d => d :: ys | none => ys
end
section
variable {P : Program} {ext : FuncId → Option Ext}
theorem Step.put {ι0 ι : Ren} {h0 h : AH} {w0 W : World} (st : Step P ι0 h0 w0 ι h W) {l : Nat} (hl : w0.heap.size ≤ l) (hn : ∀ k b, ι k = some b → b.1 ≠ l) (o : Obj) : Step P ι0 h0 w0 ι h (W.putObj l o) where
 ext := st.ext
 emb := ⟨fun k c t q hk => by
   obtain ⟨b, q1, hz⟩ := st.emb.obj k c t q hk
   exact ⟨b, q1, hz.imp id fun ⟨q0, C, q2, q3⟩ => ⟨q0, C, q2.on (World.putObj_heap_other (hn k b q1)), q3⟩⟩,
  fun k O hk => by
   obtain ⟨b, q1, q2⟩ := st.emb.ro k O hk
   exact ⟨b, q1, q2.on (World.putObj_heap_other (hn k b q1))⟩, st.emb.inj, fun k b hk => by
   have := st.emb.lt k b hk
   simpa [World.putObj] using this, fun b base id q hq => by
   obtain ⟨m1, m2, m3⟩ := st.emb.mks b base id q hq
   exact ⟨m1, ⟨m2.1.ext (fun _ _ h => h) (World.putObj_heap_other (by rw [← m1]; exact hn _ q hq)), m2.2⟩, m3⟩, st.emb.tb⟩
 os := st.os
 tape := st.tape
 output := st.output
 size := by have := st.size; simpa [World.putObj] using this
 frame := fun b hb hc => (World.putObj_heap_other (by omega)).trans (st.frame b hb hc)
 new := st.new
 alive := st.alive
 kind := st.kind
structure IS (P : Program) (ι0 : Ren) (h0 : AH) (w0 : World) (n0 : Nat) (cn : Nat) (cT : Tr Value) (ac : Act) (l K : Nat) (R : Loop) (ι : Ren) (s : St) (W : World) : Prop where
 st : Step P ι0 h0 w0 ι s.h.get W
 dm : Dom ι0 ι n0 s.n
 hn : n0 ≤ s.n
 tr : TR ι cn [] cT { tmps := ac.tmps, defers := [] }
 lo : W.heap[l]? = some (.loop R)
 de : W.heap[K]? = some (.deferred (some []))
 ll : w0.heap.size ≤ l
 lk : K ≠ l
 nl : ∀ k b, ι k = some b → b.1 ≠ l ∧ b.1 ≠ K
theorem ZmR {ι ι1 : Ren} {h h1 : AH} {W W1 : World} (g : Step P ι h W ι1 h1 W1) {l : Nat} (hl : l < W.heap.size) (hn : ∀ k b, ι k = some b → b.1 ≠ l) : (∀ k b, ι1 k = some b → b.1 ≠ l) ∧ W1.heap[l]? = W.heap[l]? := by
 refine ⟨fun k b hk => ?_, g.frame l hl fun k c _ hc => hn k c hc⟩
 cases hi : ι k with
 | some c =>
  have := g.ext k c hi
  rw [hk] at this
  injection this with this
  rw [this]; exact hn k c hi
 | none =>
  rcases g.new k b hi hk with h | ⟨j, c, _, hj, e⟩
  ·omega
  ·rw [← e]; exact hn j c hj
section
variable {ι0 : Ren} {h0 : AH} {w0 : World} {n0 cn : Nat} {cT : Tr Value} {ac : Act} {l K : Nat} {R : Loop}
theorem IS.step {ι ι1 : Ren} {s s1 : St} {W W1 : World} (I : IS P ι0 h0 w0 n0 cn cT ac l K R ι s W) (g1 : Step P ι s.h.get W ι1 s1.h.get W1) (g2 : Dom ι ι1 s.n s1.n) (hle : s.n ≤ s1.n) : IS P ι0 h0 w0 n0 cn cT ac l K R ι1 s1 W1 := by
 have hl : l < W.heap.size := (Array.getElem?_eq_some_iff.1 I.lo).1
 have hk : K < W.heap.size := (Array.getElem?_eq_some_iff.1 I.de).1
 obtain ⟨a1, a2⟩ := ZmR g1 hl fun k b h => (I.nl k b h).1
 obtain ⟨b1, b2⟩ := ZmR g1 hk fun k b h => (I.nl k b h).2
 exact ⟨I.st.trans g1, I.dm.trans g2 I.hn hle, Nat.le_trans I.hn hle, I.tr.on g1.ext, a2.trans I.lo, b2.trans I.de, I.ll, I.lk, fun k b h => ⟨a1 k b h, b1 k b h⟩⟩
theorem IS.put {ι : Ren} {s : St} {W : World} (I : IS P ι0 h0 w0 n0 cn cT ac l K R ι s W) (R' : Loop) : IS P ι0 h0 w0 n0 cn cT ac l K R' ι s (W.putObj l (.loop R')) := by
 have hl : l < W.heap.size := (Array.getElem?_eq_some_iff.1 I.lo).1
 exact ⟨I.st.put I.ll (fun k b h => (I.nl k b h).1) _, I.dm, I.hn, I.tr, World.putObj_heap_same hl, (World.putObj_heap_other I.lk).trans I.de, I.ll, I.lk, I.nl⟩
end
section
variable {ι0 : Ren} {h0 : AH} {w0 : World} {n0 : Nat} {ac : Act} {l K : Nat} {R : Loop} {cx : Cx}
end
end
end Ev
end Go.Proofs.YtlbbiflodemagaaDoor
/- Ranges over functions: the iterator's code, the statement, the function. -/
namespace Go.Proofs.YtlbbiflodemagaaDoor
open Go.RowKit
namespace Ev
section
variable {P : Program} {ext : FuncId → Option Ext}
def YS (l : Nat) (ys : List Tmp) (a : Act) : Prop := ∀ t ∈ ys, a.tmps.getD t undef = .func (.yield l) #[] #[]
theorem YS.drop {l : Nat} {ys : List Tmp} {a : Act} {nt : Nat} (h : YS l ys a) (hs : a.tmps.size = nt) {dst : Option Tmp} (hd : ZdU nt dst = true) (v : Value) : YS l (dropY dst ys) (a.put dst v) := fun t ht => by
 rw [ZmN hs hd]
 cases dst with
 | none => rw [if_neg (by simp)]; exact h t ht
 | some d =>
  have ht : t ∈ ys.filter (fun t => !Nat.beq t d) := ht
  obtain ⟨h1, h2⟩ := List.mem_filter.1 ht
  have : ¬ d = t := fun e => by subst e; simp at h2
  rw [if_neg (by simpa using this)]
  exact h t h1
theorem YS.add {l : Nat} {ys : List Tmp} {a : Act} {nt : Nat} (h : YS l ys a) (hs : a.tmps.size = nt) {dst : Option Tmp} (hd : ZdU nt dst = true) : YS l (addY dst ys) (a.put dst (.func (.yield l) #[] #[])) := fun t ht => by
 rw [ZmN hs hd]
 split
 ·rfl
 ·rename_i hne
  cases dst with
  | none => exact h t ht
  | some d =>
   rcases List.mem_cons.1 (show t ∈ d :: ys from ht) with rfl | ht
   ·exact absurd rfl hne
   ·exact h t ht
section
variable {ι0 : Ren} {h0 : AH} {w0 : World} {n0 : Nat} {ac : Act} {l0 K : Nat} {R : Loop} {cx : Cx}
end
end
end Ev
end Go.Proofs.YtlbbiflodemagaaDoor
/- Ranges over functions: the iterator, the statement. -/
namespace Go.Proofs.YtlbbiflodemagaaDoor
open Go.RowKit
namespace Ev
section
variable {P : Program} {ext : FuncId → Option Ext}
section
variable {ι0 : Ren} {h0 : AH} {w0 : World} {n0 : Nat} {ac : Act} {l0 K : Nat} {R : Loop} {cx : Cx}
end
def Mk (b : Nat) (m : Bool) (D : List Deferred) (ι : Ren) (w : World) : Prop := match m with
 | false => D = []
 | true => ∃ K, b ≤ K ∧ D = [{ target := .collected K, args := #[] }] ∧ w.heap[K]? = some (.deferred (some [])) ∧ ∀ k b, ι k = some b → b.1 ≠ K
theorem Mk.step {b : Nat} {m : Bool} {D : List Deferred} {ι ι1 : Ren} {h h1 : AH} {w w1 : World} (hm : Mk b m D ι w) (g : Step P ι h w ι1 h1 w1) : Mk b m D ι1 w1 := by
 cases m with
 | false => exact hm
 | true =>
  obtain ⟨K, hb, e, hk, hn⟩ := hm
  obtain ⟨a1, a2⟩ := ZmR g (Array.getElem?_eq_some_iff.1 hk).1 hn
  exact ⟨K, hb, e, a2.trans hk, a1⟩
end
end Ev
end Go.Proofs.YtlbbiflodemagaaDoor
/- Functions with a range over a function do what the runner says of them. -/
namespace Go.Proofs.YtlbbiflodemagaaDoor
open Go.RowKit
namespace Ev
section
variable {P : Program} {ext : FuncId → Option Ext}
end
end Ev
end Go.Proofs.YtlbbiflodemagaaDoor
/- Functions that recover what is thrown. -/
namespace Go.Proofs.YtlbbiflodemagaaDoor
open Go.RowKit
namespace Ev
noncomputable section
def Zkw (P : Program) (ext : FuncId → Option Ext) (nt : Nat) (call : FuncId → Array Value → St → Option (Value × St)) : Nat → Code → Tr Value → St → List (FuncId × Array Value) → Option (Value × Tr Value × St × List (FuncId × Array Value))
 | 0, _, _, _, _ => none
 | fu + 1, c, T, s, ds => match c with
  | .seq a b => match evD P ext nt fu a T s ds with
   | some (false, T', s', ds') => Zkw P ext nt call fu b T' s' ds'
   | some (true, _) => none
   | none => Zkw P ext nt call fu a T s ds
  | .region id ops draw => match ZaW P ext nt call fu (.region id ops draw) T s with
   | some (v, T', s') => some (v, T', s', ds)
   | none => none
  | .cond x a b => match ZaW P ext nt call fu (.cond x a b) T s with
   | some (v, T', s') => some (v, T', s', ds)
   | none => none
  | _ => none
abbrev ZbS := Option (Value × Bool)
def Zji (M : ZbS) : Value := match M with | some (v, false) => v | _ => .nilIface
def ZsW (M : ZbS) : ZbS := match M with | some (v, false) => some (v, true) | M => M
def ZlS (M : ZbS) : ZbS := match M with | some (_, true) => none | M => M
def ZsX (P : Program) (o : Oper) : Bool :=
 match o.op with
 | .call _ => match o.op.operands.toList with
  | [] => match ZgW P (execOp (fun _ => undef) o) with
   | some .recover => true
   | _ => false
  | _ => false
 | _ => false
def ZsY : Value → Bool
 | .iface _ _ => true
 | .nilIface => true
 | _ => false
def ZuU (P : Program) (nt : Nat) (o : Oper) (d : Tmp) (w : Value) : Option (Tmp × Value) :=
 match o.op with
 | .typeAssert x _ _ _ => match x with
  | .tmp d' => match o.guard with
   | none => match o.dst with
    | some d2 => bif Nat.beq d' d && Nat.blt d2 nt && ZsY w then match ZgW P (execOp (fun _ => w) o) with
     | some (.value r) => bif Zbp r then some (d2, r) else none
     | _ => none
     else none
    | none => none
   | some _ => none
  | _ => none
 | _ => none
def evDefOps (P : Program) (ext : FuncId → Option Ext) (nt fu : Nat) (ops : Array Oper) : List Oper → Tr Value → St → ZbS → Option (Tr Value × St × ZbS)
 | [], T, s, M => some (T, s, M)
 | o :: l, T, s, M =>
  bif ZdU nt o.dst && Z7 ZfT o.op.operands.toList then
   match Zeb ops T o s with
   | some (true, s1) => match ZsX P o with
    | true => match o.dst with
     | some d => match l with
      | o2 :: l2 => match ZuU P nt o2 d (Zji M) with
       | some (d2, r) => evDefOps P ext nt fu ops l2 ((T.set d (some (.chan (some 0)))).set d2 (some r)) s1 (ZsW M)
       | none => none
      | [] => none
     | none => none
    | false => match ZfL P ext fu (opnd T) o s1 with
     | some (v, s') => evDefOps P ext nt fu ops l (Zc2 T o.dst v) s' M
     | none => none
   | some (false, s1) => evDefOps P ext nt fu ops l (Zc2 T o.dst undef) s1 M
   | none => none
  else none
def Zg8 (P : Program) (ext : FuncId → Option Ext) (nt : Nat) : Nat → Code → Tr Value → St → ZbS → Option (Tr Value × St × ZbS)
 | 0, _, _, _, _ => none
 | fu + 1, c, T, s, M => match c with
  | .seq a b => match Zg8 P ext nt fu a T s M with
   | some (T', s', M') => Zg8 P ext nt fu b T' s' M'
   | none => none
  | .cond x a b => match opnd T x with
   | .bool t => match t with
    | true => Zg8 P ext nt fu a T s M
    | false => Zg8 P ext nt fu b T s M
   | _ => none
  | .region id ops draw => match draw with
   | true => match ZaK P ext nt fu (.region id ops true) T s with
    | some (.normal, T', s') => some (T', s', M)
    | _ => none
   | false => evDefOps P ext nt fu ops ops.toList T s M
  | .skip => some (T, s, M)
  | _ => none
def Ze3 (P : Program) (ext : FuncId → Option Ext) (fu : Nat) : List (FuncId × Array Value) → St → ZbS → Option (St × ZbS)
 | [], s, M => some (s, M)
 | d :: ds, s, M => match P.funcs[d.1]? with
  | some fn => match fn.body with
   | some c => bif Nat.ble d.2.size fn.ntmps then match Zg8 P ext fn.ntmps fu c (ZdT 0 d.2.toList .nil) s M with
    | some (T, s', M') => match (match ZbQ P T s' fn.results.toList with | some [v] => some v | some vs => some (.tuple vs.toArray) | none => none) with
     | some _ => Ze3 P ext fu ds s' (ZlS M')
     | none => none
    | none => none
    else none
   | none => none
  | none => none
def ZjK (P : Program) (ext : FuncId → Option Ext) (fu : Nat) (fn : Func) (T : Tr Value) (s : St) (ds : List (FuncId × Array Value)) (M : ZbS) : Out :=
 match Ze3 P ext fu ds s M with
 | some (s2, none) => match (match ZbQ P T s2 fn.results.toList with | some [v] => some v | some vs => some (.tuple vs.toArray) | none => none) with
  | some v => some (v, s2)
  | none => none
 | _ => none
def Ziq (P : Program) (ext : FuncId → Option Ext) (fu : Nat) (f : FuncId) (args : Array Value) (s : St) : Out :=
 match P.funcs[f]? with
 | some fn => match fn.body with
  | some c => bif Nat.ble args.size fn.ntmps then match evD P ext fn.ntmps fu c (ZdT 0 args.toList .nil) s [] with
   | some (_, T, s1, ds) => ZjK P ext fu fn T s1 ds none
   | none => match Zkw P ext fn.ntmps (Zdu P ext fu) fu c (ZdT 0 args.toList .nil) s [] with
    | some (v, T, s1, ds) => ZjK P ext fu fn T s1 ds (some (v, false))
    | none => none
   else none
  | none => none
 | none => none
end
section
variable {P : Program} {ext : FuncId → Option Ext}
theorem Zn9 (F : Fit P ext) {call : FuncId → Array Value → St → Option (Value × St)} (C : Zkt P call) {nt : Nat} : ∀ (fu : Nat) (c : Code) (T : Tr Value) (s : St) (ds : List (FuncId × Array Value)) (v : Value) (T' : Tr Value) (s' : St) (ds' : List (FuncId × Array Value)), Zkw P ext nt call fu c T s ds = some (v, T', s', ds') → Up s s'
 | 0, _, _, _, _, _, _, _, _, h => by simp [Zkw] at h
 | fu + 1, c, T, s, ds, v, T', s', ds', h => by
  cases c <;> simp only [Zkw] at h
  case seq a b =>
   split at h
   ·exact (ZiE F fu _ _ _ _ _ _ _ _ (by assumption)).trans (Zn9 F C fu _ _ _ _ _ _ _ _ h)
   ·cases h
   ·exact Zn9 F C fu _ _ _ _ _ _ _ _ h
  case region id ops draw =>
   split at h
   ·injection h with h; simp only [Prod.mk.injEq] at h; obtain ⟨_, _, rfl, _⟩ := h; exact Zhf F C _ _ _ _ _ _ _ (by assumption)
   ·cases h
  case cond x a b =>
   split at h
   ·injection h with h; simp only [Prod.mk.injEq] at h; obtain ⟨_, _, rfl, _⟩ := h; exact Zhf F C _ _ _ _ _ _ _ (by assumption)
   ·cases h
  all_goals cases h
def Zwz (P : Program) (ι : Ren) (s : St) (w : World) (nt : Nat) (v : Value) (T' : Tr Value) (s' : St) (ds' : List (FuncId × Array Value)) (ex : Exit) (a' : Act) (w' : World) : Prop :=
 ex = .panic (Zee v) ∧ ∃ ι' D', Step P ι s.h.get w ι' s'.h.get w' ∧ Dom ι ι' s.n s'.n ∧ TR ι' nt D' T' a' ∧ DR ι' ds' D'
theorem ZmS (F : Fit P ext) {call : FuncId → Array Value → St → Option (Value × St)} (C : Zkt P call) {nt : Nat} : ∀ (fu : Nat) (c : Code) (T : Tr Value) (s : St) (ds : List (FuncId × Array Value)) (v : Value) (T' : Tr Value) (s' : St) (ds' : List (FuncId × Array Value)), Zkw P ext nt call fu c T s ds = some (v, T', s', ds') → (∀ p ∈ s'.ob, p.1 = p.2) →
  ∀ ι D a w, TR ι nt D T a → DR ι ds D → Emb P ι s.h.get w → Fresh ι s.n s'.n → c.wp P (Zwz P ι s w nt v T' s' ds') a w
 | 0, _, _, _, _, _, _, _, _, h => by simp [Zkw] at h
 | fu + 1, c, T, s, ds, v, T', s', ds', h => by
  intro ho ι D a w hT hD he hf
  cases c <;> simp only [Zkw] at h
  case seq x y =>
   split at h
   ·rename_i T1 s1 ds1 h1
    have u1 := ZiE F fu _ _ _ _ _ _ _ _ h1
    have u2 := Zn9 F C fu _ _ _ _ _ _ _ _ h
    refine wp_seq (wp_mono (Zhd F fu x T s ds _ T1 s1 ds1 h1 (ZaP u2.ob ho) ι D a w hT hD he (hf.mono (Nat.le_refl _) u2.n)) ?_)
    rintro ex a1 w1 ⟨rfl, ι1, D1, g1, g2, g3, g4⟩
    refine wp_mono (ZmS F C fu y T1 s1 ds1 v T' s' ds' h ho ι1 D1 a1 w1 g3 g4 g1.emb (hf.after g2 u1.n)) ?_
    rintro ex a2 w2 ⟨rfl, ι2, D2, k1, k2, k3, k4⟩
    exact ⟨rfl, ι2, D2, g1.trans k1, g2.trans k2 u1.n u2.n, k3, k4⟩
   ·cases h
   ·refine wp_seq (wp_mono (ZmS F C fu x T s ds v T' s' ds' h ho ι D a w hT hD he hf) ?_)
    rintro ex a1 w1 ⟨rfl, g⟩
    exact ⟨rfl, g⟩
  case region id ops draw =>
   split at h
   ·rename_i v1 T1 s1 h1
    injection h with h; simp only [Prod.mk.injEq] at h; obtain ⟨rfl, rfl, rfl, rfl⟩ := h
    refine wp_mono ((Zn6 F C fu).1 _ T s _ _ _ h1 ho ι D a w hT he hf) ?_
    rintro ex a1 w1 ⟨ι1, rfl, g1, g2, g3⟩
    exact ⟨rfl, ι1, D, g1, g2, g3, hD.on g1.ext⟩
   ·cases h
  case cond x y z =>
   split at h
   ·rename_i v1 T1 s1 h1
    injection h with h; simp only [Prod.mk.injEq] at h; obtain ⟨rfl, rfl, rfl, rfl⟩ := h
    refine wp_mono ((Zn6 F C fu).1 _ T s _ _ _ h1 ho ι D a w hT he hf) ?_
    rintro ex a1 w1 ⟨ι1, rfl, g1, g2, g3⟩
    exact ⟨rfl, ι1, D, g1, g2, g3, hD.on g1.ext⟩
   ·cases h
  all_goals cases h
def MR (M : ZbS) (u : FrameMode) : Prop :=
 match M with
 | none => u = .returning
 | some (v, b) => u = .panicking [{ v := v, recovered := b }]
theorem MR.settle {M : ZbS} {u : FrameMode} (h : MR M u) : MR (ZlS M) (settle u) := by
 cases M with
 | none => cases h; rfl
 | some p =>
  obtain ⟨v, b⟩ := p
  cases h
  cases b <;> rfl
theorem MR.norun {M : ZbS} {u : FrameMode} (h : MR M u) : u ≠ .run := by
 cases M with
 | none => cases h; simp
 | some p => obtain ⟨v, b⟩ := p; cases h; simp
theorem MR.recover {M : ZbS} {u : FrameMode} (h : MR M u) (c : Frame) (cs : List Frame) :
  ∃ u', MR (ZsW M) u' ∧ ((recoverD ({ c with mode := u } :: cs) = some (Zji M, { c with mode := u' } :: cs)) ∨ (recoverD ({ c with mode := u } :: cs) = none ∧ Zji M = .nilIface ∧ u' = u)) := by
 cases M with
 | none => cases h; exact ⟨_, rfl, .inr ⟨rfl, rfl, rfl⟩⟩
 | some p =>
  obtain ⟨v, b⟩ := p
  cases h
  cases b with
  | true => exact ⟨_, rfl, .inr ⟨rfl, rfl, rfl⟩⟩
  | false => exact ⟨_, rfl, .inl rfl⟩
theorem ZvU {ρ : Operand → Value} {o : Oper} (h : ZsX P o = true) (w : World) : (execOp ρ o).run P w = .ok .recover w := by
 unfold ZsX at h
 split at h
 ·rename_i c hop
  split at h
  ·rename_i hl
   split at h
   ·rename_i hp
    have : execOp ρ o = execOp (fun _ => undef) o := execOp_congr o (fun cs b e => by rw [hop] at e; cases e) fun x hx => by
     have hx' : x ∈ o.op.operands.toList := by simpa using hx
     rw [hl] at hx'
     cases hx'
    rw [this]
    exact Zfi w hp
   ·cases h
  ·cases h
 ·cases h
theorem ZtY {x : Value} (h : ZsY x = true) : x.oneCell' = true := by
 cases x <;> simp [ZsY] at h <;> rfl
theorem Zw0 {nt : Nat} {o : Oper} {d d2 : Tmp} {x r : Value} {ρ : Operand → Value} (h : ZuU P nt o d x = some (d2, r)) (hd : ρ (.tmp d) = x) (w : World) :
  o.guard = none ∧ o.dst = some d2 ∧ d2 < nt ∧ Zbp r = true ∧ (execOp ρ o).run P w = .ok (.value r) w ∧ ZsY x = true := by
 unfold ZuU at h
 split at h
 ·rename_i y xt ty ok hop
  split at h
  ·rename_i d'
   split at h
   ·rename_i hg
    split at h
    ·rename_i d3 hd3
     replace h := Zo h
     obtain ⟨hc, h⟩ := h
     simp only [Bool.and_eq_true] at hc
     have hdd := Nat.eq_of_beq_eq_true hc.1.1
     subst hdd
     split at h
     ·rename_i r' hp
      replace h := Zo h
      obtain ⟨hfr, h⟩ := h
      injection h with h; injection h with q1 q2; subst q1 q2
      refine ⟨hg, hd3, by simpa [Nat.blt_eq] using hc.1.2, hfr, ?_, hc.2⟩
      have : execOp ρ o = execOp (fun _ => x) o := by simp only [execOp, hop, hd]
      rw [this]
      exact Zfi w hp
     ·cases h
    ·cases h
   ·cases h
  ·cases h
 ·cases h
theorem Zh7 (F : Fit P ext) {nt fu : Nat} {ops : Array Oper} : ∀ (n : Nat) (l : List Oper) (T : Tr Value) (s : St) (M : ZbS) (T' : Tr Value) (s' : St) (M' : ZbS), l.length ≤ n → evDefOps P ext nt fu ops l T s M = some (T', s', M') → Up s s'
 | _, [], T, s, M, T', s', M', _, h => by simp only [evDefOps] at h; injection h with h; simp only [Prod.mk.injEq] at h; obtain ⟨_, rfl, _⟩ := h; exact Up.refl _
 | 0, _ :: _, T, s, M, T', s', M', hn, h => by simp at hn
 | n + 1, o :: l, T, s, M, T', s', M', hn, h => by
  have uP := (Zc3 (P := P) (ext := ext) (fun f g hg => (F.hp f g hg).up) fu).2.2.1
  have hn' : l.length ≤ n := by simpa using hn
  rw [evDefOps.eq_def] at h
  simp only at h
  replace h := (Zo h).2
  split at h
  ·split at h
   ·split at h
    ·split at h
     ·rename_i o2 l2
      split at h
      ·exact (ZaD (by assumption)).trans (Zh7 F n l2 _ _ _ _ _ _ (by simp at hn'; omega) h)
      ·cases h
     ·cases h
    ·cases h
   ·split at h
    ·exact (ZaD (by assumption)).trans ((uP _ _ _ _ _ (by assumption)).trans (Zh7 F n l _ _ _ _ _ _ hn' h))
    ·cases h
  ·exact (ZaD (by assumption)).trans (Zh7 F n l _ _ _ _ _ _ hn' h)
  ·cases h
theorem ZmT {c : Code} {Q Q' : Exit → Act → List Frame → World → Prop} {a : Act} {cs : List Frame} {w : World} (h : c.wpS P Q a cs w) (hq : ∀ e a cs w, Q e a cs w → Q' e a cs w) : c.wpS P Q' a cs w :=
 fun b k hb hr => let ⟨e, a', cs', w', q, r⟩ := h b k hb hr; ⟨e, a', cs', w', hq _ _ _ _ q, r⟩
theorem Zpf {ops : Array Oper} {Q : Exit → Act → List Frame → World → Prop} {i : Nat} {rest : List Nat} {a : Act} {cs : List Frame} {w : World} {o : Oper} (ho : ops[i]? = some o) (hw : Region.wanted o (yielded ops a.tmps) = true)
  (h : o.wp P a w (fun a' w' => wpOpsS P ops Q rest a' cs w') (fun e a' w' => Q e a' cs w')) : wpOpsS P ops Q (i :: rest) a cs w := by
 unfold Oper.wp at h
 simp only [wpOpsS, ho, hw, if_true]
 split
 ·rename_i w' hr
  rw [hr] at h
  exact h.elim
 ·exact h
theorem ZtZ {ops : Array Oper} {Q : Exit → Act → List Frame → World → Prop} {i : Nat} {rest : List Nat} {a : Act} {cs : List Frame} {w : World} {o : Oper} (ho : ops[i]? = some o) (hw : Region.wanted o (yielded ops a.tmps) = false)
  (h : wpOpsS P ops Q rest (a.put o.dst undef) cs w) : wpOpsS P ops Q (i :: rest) a cs w := by
 simp only [wpOpsS, ho, hw]
 exact h
theorem ZuV {ops : Array Oper} {Q : Exit → Act → List Frame → World → Prop} {i : Nat} {rest : List Nat} {a : Act} {w : World} {o : Oper} {c : Frame} {cs : List Frame} {u : FrameMode} {M : ZbS} (ho : ops[i]? = some o) (hw : Region.wanted o (yielded ops a.tmps) = true)
  (hr : (execOp a.eval o).run P w = .ok .recover w) (hM : MR M u) (h : ∀ u', MR (ZsW M) u' → wpOpsS P ops Q rest (a.put o.dst (Zji M)) ({ c with mode := u' } :: cs) w) : wpOpsS P ops Q (i :: rest) a ({ c with mode := u } :: cs) w := by
 obtain ⟨u', h1, h2⟩ := hM.recover c cs
 simp only [wpOpsS, ho, hw, if_true, hr]
 rcases h2 with h2 | ⟨h2, h3, h4⟩
 ·rw [h2]; exact h u' h1
 ·rw [h2]
  have := h u' h1
  rw [h3, h4] at this
  exact this
theorem Zg9 (F : Fit P ext) {nt fu : Nat} {ops : Array Oper} {c : Frame} {cs : List Frame} : ∀ (n : Nat) (l : List Oper) (k : Nat) (T : Tr Value) (s : St) (M : ZbS) (T' : Tr Value) (s' : St) (M' : ZbS), l.length ≤ n → (∀ j, l[j]? = ops[k + j]?) → evDefOps P ext nt fu ops l T s M = some (T', s', M') → (∀ p ∈ s'.ob, p.1 = p.2) →
  ∀ ι D a u w (Q : Exit → Act → List Frame → World → Prop), TR ι nt D T a → MR M u → Emb P ι s.h.get w → Fresh ι s.n s'.n →
   (∀ ι' a' u' w', Step P ι s.h.get w ι' s'.h.get w' → Dom ι ι' s.n s'.n → TR ι' nt D T' a' → MR M' u' → Q .normal a' ({ c with mode := u' } :: cs) w') → wpOpsS P ops Q (List.range' k l.length) a ({ c with mode := u } :: cs) w
 | _, [], k, T, s, M, T', s', M', _, _, h => by
  intro ho ι D a u w Q hT hM he hf hQ
  simp only [evDefOps] at h
  injection h with h; simp only [Prod.mk.injEq] at h; obtain ⟨rfl, rfl, rfl⟩ := h
  exact hQ ι a u w (Step.refl he) Dom.refl hT hM
 | 0, _ :: _, k, T, s, M, T', s', M', hn, _, h => by simp at hn
 | n + 1, o :: l, k, T, s, M, T', s', M', hn, hl, h => by
  intro ho ι D a u w Q hT hM he hf hQ
  have hn' : l.length ≤ n := by simpa using hn
  have h0 : ops[k]? = some o := by simpa using (hl 0).symm
  have hl' : ∀ j, l[j]? = ops[k + 1 + j]? := fun j => by have := hl (j + 1); simpa [Nat.add_assoc, Nat.add_comm 1 j] using this
  rw [evDefOps.eq_def] at h
  simp only at h
  obtain ⟨hg, h⟩ := Zo h
  simp only [Bool.and_eq_true] at hg
  rw [List.length_cons, List.range'_succ]
  split at h
  ·rename_i s1 hw
   obtain ⟨hwant, e2, e3⟩ := Zcj (fun t _ => hT.2.2 t) hw
   split at h
   ·rename_i hrec
    split at h
    ·rename_i d hd
     cases l with
     | nil => cases h
     | cons o2 l2 =>
      simp only at h
      split at h
      ·rename_i d2 r has
       refine ZuV h0 hwant (ZvU hrec w) hM fun u' hM' => ?_
       have h1 : ops[k + 1]? = some o2 := by simpa using (hl' 0).symm
       have hlt : d < a.tmps.size := by
        have := hg.1
        rw [hd] at this
        rw [hT.1]
        simpa [ZdU, Nat.blt_eq] using this
       have hev : (a.put o.dst (Zji M)).eval (.tmp d) = Zji M := by
        rw [hd]
        simp only [Act.eval, Act.put]
        simp [Array.getD, hlt]
       obtain ⟨q1, q2, q3, q4, q5, q6⟩ := Zw0 (ρ := (a.put o.dst (Zji M)).eval) has hev w
       have hT1 : TR ι nt D (T.set d (some (.chan (some 0)))) (a.put o.dst (Zji M)) := by
        rw [hd]
        have := hg.1
        rw [hd] at this
        exact hT.put (dst := some d) this (.glob (ZtY q6))
       rw [List.length_cons, List.range'_succ]
       refine Zpf h1 (by simp [Region.wanted, q1]) ?_
       unfold Oper.wp
       rw [q5, Oper.upon_value, q2]
       have hl2 : ∀ j, l2[j]? = ops[k + 1 + 1 + j]? := fun j => by have := hl' (j + 1); rw [show k + 1 + 1 + j = k + 1 + (j + 1) by omega]; simpa using this
       exact Zg9 F n l2 (k + 1 + 1) _ s1 (ZsW M) T' s' M' (by simp at hn'; omega) hl2 h ho ι D _ u' w Q (hT1.put (dst := some d2) (by simpa [ZdU, Nat.blt_eq] using q3) (VR.of_free q4)) hM' (e2 ▸ he) (e3 ▸ hf) fun ι2 a2 u2 w2 k1 k2 k3 k4 => hQ ι2 a2 u2 w2 (e2 ▸ k1) (e3 ▸ k2) k3 k4
      ·cases h
    ·cases h
   ·split at h
    ·rename_i v1 s2 hv
     have ua := Zc3 (P := P) (ext := ext) (fun f g hg => (F.hp f g hg).up) fu
     have u2 := ua.2.2.1 _ _ _ _ _ hv
     have u3 := Zh7 F n l _ _ _ _ _ _ hn' h
     refine Zpf h0 hwant ((Zfm F fu).2.2.1 (opnd T) (Zc0 a) o s1 v1 s2 hv (ZaP u3.ob ho) ι w hT.opnd (e2 ▸ he) (e3 ▸ (hf.mono (Nat.le_refl _) u3.n)) a _ _ (Zfl (ZiD hv) hg.2).symm fun v' w' ι' g1 g2 g3 => ?_)
     rw [e2] at g1
     rw [e3] at g2
     have hle : s.n ≤ s2.n := by rw [← e3]; exact u2.n
     exact Zg9 F n l (k + 1) (Zc2 T o.dst v1) s2 M T' s' M' hn' hl' h ho ι' D _ u w' Q ((hT.on g1.ext).put hg.1 g3) hM g1.emb (hf.after g2 hle) fun ι2 a2 u2 w2 k1 k2 k3 k4 => hQ ι2 a2 u2 w2 (g1.trans k1) (g2.trans k2 hle u3.n) k3 k4
    ·cases h
  ·rename_i s1 hw
   obtain ⟨hwant, e2, e3⟩ := Zcj (fun t _ => hT.2.2 t) hw
   refine ZtZ h0 hwant ?_
   exact Zg9 F n l (k + 1) (Zc2 T o.dst undef) s1 M T' s' M' hn' hl' h ho ι D _ u w Q (hT.put hg.1 VR.undef') hM (e2 ▸ he) (e3 ▸ hf) fun ι2 a2 u2 w2 k1 k2 k3 k4 => hQ ι2 a2 u2 w2 (e2 ▸ k1) (e3 ▸ k2) k3 k4
  ·cases h
theorem Zh8 (F : Fit P ext) {nt : Nat} : ∀ (fu : Nat) (c : Code) (T : Tr Value) (s : St) (M : ZbS) (T' : Tr Value) (s' : St) (M' : ZbS), Zg8 P ext nt fu c T s M = some (T', s', M') → Up s s'
 | 0, _, _, _, _, _, _, _, h => by simp [Zg8] at h
 | fu + 1, c, T, s, M, T', s', M', h => by
  have uC := (Zc3 (P := P) (ext := ext) (fun f g hg => (F.hp f g hg).up) fu).1
  cases c <;> simp only [Zg8] at h
  case seq a b =>
   split at h
   ·exact (Zh8 F fu _ _ _ _ _ _ _ (by assumption)).trans (Zh8 F fu _ _ _ _ _ _ _ h)
   ·cases h
  case cond x a b =>
   split at h
   ·split at h
    ·exact Zh8 F fu _ _ _ _ _ _ _ h
    ·exact Zh8 F fu _ _ _ _ _ _ _ h
   ·cases h
  case region id ops draw =>
   split at h
   ·split at h
    ·injection h with h; simp only [Prod.mk.injEq] at h; obtain ⟨_, rfl, _⟩ := h; exact uC _ _ _ _ _ _ _ (by assumption)
    ·cases h
   ·exact Zh7 F _ _ _ _ _ _ _ _ (Nat.le_refl _) h
  case skip => injection h with h; simp only [Prod.mk.injEq] at h; obtain ⟨_, rfl, _⟩ := h; exact Up.refl _
  all_goals cases h
def ZvV (P : Program) (ι : Ren) (s : St) (w : World) (nt : Nat) (D : List Deferred) (T' : Tr Value) (s' : St) (M' : ZbS) (c : Frame) (cs : List Frame) (ex : Exit) (a' : Act) (cs' : List Frame) (w' : World) : Prop :=
 ex = .normal ∧ ∃ ι' u', cs' = { c with mode := u' } :: cs ∧ Step P ι s.h.get w ι' s'.h.get w' ∧ Dom ι ι' s.n s'.n ∧ TR ι' nt D T' a' ∧ MR M' u'
theorem Zh9 (F : Fit P ext) {nt : Nat} {c0 : Frame} {cs : List Frame} : ∀ (fu : Nat) (c : Code) (T : Tr Value) (s : St) (M : ZbS) (T' : Tr Value) (s' : St) (M' : ZbS), Zg8 P ext nt fu c T s M = some (T', s', M') → (∀ p ∈ s'.ob, p.1 = p.2) →
  ∀ ι D a u w, TR ι nt D T a → MR M u → Emb P ι s.h.get w → Fresh ι s.n s'.n → c.wpS P (ZvV P ι s w nt D T' s' M' c0 cs) a ({ c0 with mode := u } :: cs) w
 | 0, _, _, _, _, _, _, _, h => by simp [Zg8] at h
 | fu + 1, c, T, s, M, T', s', M', h => by
  intro ho ι D a u w hT hM he hf
  cases c <;> simp only [Zg8] at h
  case seq x y =>
   split at h
   ·rename_i T1 s1 M1 h1
    have u1 := Zh8 F fu _ _ _ _ _ _ _ h1
    have u2 := Zh8 F fu _ _ _ _ _ _ _ h
    refine wpS_seq (ZmT (Zh9 F fu x T s M T1 s1 M1 h1 (ZaP u2.ob ho) ι D a u w hT hM he (hf.mono (Nat.le_refl _) u2.n)) ?_)
    rintro ex a1 cs1 w1 ⟨rfl, ι1, v1, rfl, g1, g2, g3, g4⟩
    refine ZmT (Zh9 F fu y T1 s1 M1 T' s' M' h ho ι1 D a1 v1 w1 g3 g4 g1.emb (hf.after g2 u1.n)) ?_
    rintro ex a2 cs2 w2 ⟨rfl, ι2, v2, rfl, k1, k2, k3, k4⟩
    exact ⟨rfl, ι2, v2, rfl, g1.trans k1, g2.trans k2 u1.n u2.n, k3, k4⟩
   ·cases h
  case cond x y z =>
   split at h
   ·rename_i t ht
    have hx : a.eval x = .bool t := ZfE ((ht ▸ hT.opnd x : VR ι (.bool t) (Zc0 a x)).bool_inv)
    split at h
    ·exact wpS_cond hx (Zh9 F fu y T s M T' s' M' h ho ι D a u w hT hM he hf)
    ·exact wpS_cond hx (Zh9 F fu z T s M T' s' M' h ho ι D a u w hT hM he hf)
   ·cases h
  case region id ops draw =>
   split at h
   ·split at h
    ·rename_i T1 s1 h1
     injection h with h; simp only [Prod.mk.injEq] at h; obtain ⟨rfl, rfl, rfl⟩ := h
     refine wpS_of_wp (wp_mono ((Zfm F fu).1 nt _ T s .normal _ _ h1 ho ι D a w hT he hf) ?_)
     rintro ex a1 w1 ⟨rfl, ι1, g1, g2, g3⟩
     exact ⟨rfl, ι1, u, rfl, g1, g2, g3, hM⟩
    ·cases h
   ·refine wpS_region ?_
    rw [List.range_eq_range', ← Array.length_toList]
    exact Zg9 F _ ops.toList 0 T s M T' s' M' (Nat.le_refl _) (by simp) h ho ι D a u w _ hT hM he hf fun ι' a' u' w' k1 k2 k3 k4 => ⟨rfl, ι', u', rfl, k1, k2, k3, k4⟩
  case skip =>
   injection h with h; simp only [Prod.mk.injEq] at h; obtain ⟨rfl, rfl, rfl⟩ := h
   exact wpS_of_wp (wp_skip ⟨rfl, ι, u, rfl, Step.refl he, Dom.refl, hT, hM⟩)
  all_goals cases h
theorem Zlv (F : Fit P ext) {fu : Nat} : ∀ (ds : List (FuncId × Array Value)) (s : St) (M : ZbS) (s' : St) (M' : ZbS), Ze3 P ext fu ds s M = some (s', M') → Up s s'
 | [], s, M, s', M', h => by simp only [Ze3] at h; injection h with h; simp only [Prod.mk.injEq] at h; obtain ⟨rfl, _⟩ := h; exact Up.refl _
 | d :: ds, s, M, s', M', h => by
  simp only [Ze3] at h
  split at h
  ·split at h
   ·replace h := (Zo h).2
    split at h
    ·rename_i T1 s1 M1 h1
     have h' : Ze3 P ext fu ds s1 (ZlS M1) = some (s', M') := by
      split at h
      ·exact h
      ·cases h
     exact (Zh8 F fu _ _ _ _ _ _ _ h1).trans (Zlv F ds _ _ _ _ h')
    ·cases h
   ·cases h
  ·cases h
theorem Zlw (F : Fit P ext) {fu : Nat} {fn : Func} {tmps : Array Value} {R : Ending → World → Prop} : ∀ (ds : List (FuncId × Array Value)) (s : St) (M : ZbS) (s' : St), Ze3 P ext fu ds s M = some (s', none) → (∀ p ∈ s'.ob, p.1 = p.2) →
  ∀ ι D u w, DR ι ds D → MR M u → Emb P ι s.h.get w → Fresh ι s.n s'.n → (∀ ι' w', Step P ι s.h.get w ι' s'.h.get w' → Dom ι ι' s.n s'.n → Leaves P fn tmps R [] .returning w') → Leaves P fn tmps R D u w
 | [], s, M, s', h => by
  intro ho ι D u w hD hM he hf hR
  simp only [Ze3] at h
  injection h with h; simp only [Prod.mk.injEq] at h; obtain ⟨rfl, rfl⟩ := h
  cases hM
  cases D with
  | nil => exact hR ι w (Step.refl he) Dom.refl
  | cons _ _ => exact hD.elim
 | d :: ds, s, M, s', h => by
  intro ho ι D u w hD hM he hf hR
  simp only [Ze3] at h
  split at h
  ·rename_i fn' hfn
   split at h
   ·rename_i c hb
    replace h := Zo h
    obtain ⟨hsz, h⟩ := h
    have hle : d.2.size ≤ fn'.ntmps := Nat.le_of_ble_eq_true hsz
    split at h
    ·rename_i T1 s1 M1 h1
     split at h
     ·rename_i v1 hv1
      cases D with
      | nil => exact hD.elim
      | cons x D =>
       obtain ⟨⟨b, ht, hargs⟩, hD⟩ := hD
       have u1 := Zh8 F fu _ _ _ _ _ _ _ h1
       have u2 := Zlv F ds _ _ _ _ h
       refine ⟨hM.norun, _, _, d.1, x.args ++ b, ht, ?_, ?_⟩
       ·rw [ht]
        exact Zdt hfn (F.go _ _ hfn) hb _ _
       ·refine callsD_of_wpS hfn hb fun c0 cs hu => ?_
        have hc0 : c0 = { c0 with mode := u } := by subst hu; rfl
        have key := Zh9 F (nt := fn'.ntmps) (c0 := c0) (cs := cs) fu c _ s M T1 s1 M1 h1 (ZaP u2.ob ho) ι [] _ u w (Zhc hargs hle) hM he (hf.mono (Nat.le_refl _) u2.n)
        rw [← hc0] at key
        refine ZmT key ?_
        rintro ex a1 cs1 w1 ⟨rfl, ι1, u1', rfl, g1, g2, g3, g4⟩
        obtain ⟨v', hrun, hv⟩ := ZfV g3 g1.emb hv1
        exact ⟨g3.2.1, u1', rfl, v', hrun, Zlw F ds s1 (ZlS M1) s' h ho ι1 D _ w1 (hD.on g1.ext) g4.settle g1.emb (hf.after g2 u1.n) fun ι2 w2 k1 k2 => hR ι2 w2 (g1.trans k1) (g2.trans k2 u1.n u2.n)⟩
     ·cases h
    ·cases h
   ·cases h
  ·cases h
theorem ZjL (F : Fit P ext) {fu : Nat} {fn : Func} {T : Tr Value} {s : St} {ds : List (FuncId × Array Value)} {M : ZbS} {v : Value} {s' : St} (h : ZjK P ext fu fn T s ds M = some (v, s')) : Up s s' := by
 unfold ZjK at h
 split at h
 ·rename_i s2 h2
  have u := Zlv F _ _ _ _ _ h2
  split at h
  ·injection h with h; injection h with q1 q2; subst q1 q2; exact u
  ·cases h
 ·cases h
theorem Zm7 (F : Fit P ext) {fu : Nat} {fn : Func} {T : Tr Value} {s0 s : St} {ds : List (FuncId × Array Value)} {M : ZbS} {v : Value} {s' : St} (h : ZjK P ext fu fn T s ds M = some (v, s')) (ho : ∀ p ∈ s'.ob, p.1 = p.2) {ι0 ι : Ren} {w0 w : World} {D : List Deferred} {u : FrameMode} {nt : Nat} {a : Act}
  (u0 : Up s0 s) (g1 : Step P ι0 s0.h.get w0 ι s.h.get w) (g2 : Dom ι0 ι s0.n s.n) (hf : Fresh ι0 s0.n s'.n) (hT : TR ι nt D T a) (hD : DR ι ds D) (hM : MR M u) : Leaves P fn a.tmps (ZlN P ι0 s0 w0 v s') a.defers u w := by
 have uf := ZjL F h
 unfold ZjK at h
 split at h
 ·rename_i s2 h2
  split at h
  ·rename_i v1 hres
   injection h with h; injection h with q1 q2; subst q1 q2
   rw [hT.2.1]
   refine Zlw F ds s M s2 h2 ho ι D u w hD hM g1.emb (hf.after g2 u0.n) fun ι2 w2 k1 k2 => ?_
   obtain ⟨v', hrun, hv⟩ := ZfV (hT.on k1.ext) k1.emb hres
   exact ⟨v', hrun, v', ι2, rfl, g1.trans k1, g2.trans k2 u0.n uf.n, hv⟩
  ·cases h
 ·cases h
theorem Zkx (F : Fit P ext) {fu : Nat} {f : FuncId} {fn : Func} {c : Code} (hfn : P.funcs[f]? = some fn) (hb : fn.body = some c) : Zfk P f (Ziq P ext fu f) := by
 refine ⟨fun args s v s' h => ?_, fun args s v s' h ho ι w args' ha he hf => .inl ⟨⟨fn, c, hfn, hb⟩, ?_⟩⟩
 ·unfold Ziq at h
  rw [hfn] at h
  simp only [hb] at h
  replace h := (Zo h).2
  split at h
  ·rename_i r T s1 ds h1
   exact (ZiE F fu _ _ _ _ _ _ _ _ h1).trans (ZjL F h)
  ·split at h
   ·rename_i v1 T s1 ds h1
    exact (Zn9 F (Zkv F fu) fu _ _ _ _ _ _ _ _ h1).trans (ZjL F h)
   ·cases h
 ·unfold Ziq at h
  rw [hfn] at h
  simp only [hb] at h
  replace h := Zo h
  obtain ⟨hsz, h⟩ := h
  have hle : args.size ≤ fn.ntmps := Nat.le_of_ble_eq_true hsz
  split at h
  ·rename_i r T s1 ds h1
   have u1 := ZiE F fu _ _ _ _ _ _ _ _ h1
   have u2 := ZjL F h
   refine calls_of_wp_defers hfn hb (wp_mono (Zhd F fu c _ s [] r T s1 ds h1 (ZaP u2.ob ho) ι [] _ w (Zhc ha hle) trivial he (hf.mono (Nat.le_refl _) u2.n)) ?_)
   rintro ex a1 w1 ⟨rfl, ι1, D1, g1, g2, g3, g4⟩
   have key := Zm7 F (u := .returning) h ho u1 g1 g2 hf g3 g4 rfl
   cases r <;> exact key
  ·split at h
   ·rename_i v1 T s1 ds h1
    have u1 := Zn9 F (Zkv F fu) fu _ _ _ _ _ _ _ _ h1
    have u2 := ZjL F h
    refine calls_of_wp_defers hfn hb (wp_mono (ZmS F (Zkv F fu) fu c _ s [] v1 T s1 ds h1 (ZaP u2.ob ho) ι [] _ w (Zhc ha hle) trivial he (hf.mono (Nat.le_refl _) u2.n)) ?_)
    rintro ex a1 w1 ⟨rfl, ι1, D1, g1, g2, g3, g4⟩
    exact Zm7 F (u := .panicking (Zee v1)) h ho u1 g1 g2 hf g3 g4 rfl
   ·cases h
end
end Ev
end Go.Proofs.YtlbbiflodemagaaDoor
/- Functions of no body of their own. -/
namespace Go.Proofs.YtlbbiflodemagaaDoor
open Go.RowKit
namespace Ev
noncomputable section
def Zlx (P : Program) (e : Array Value → Sem Value) (args : Array Value) (s : St) : Out :=
 bif Z7 Zbp args.toList then match ZgW P (e args) with
  | some v => bif Zbp v then some (v, s) else none
  | none => none
  else none
def ZnA (args : Array Value) (s : St) : Out :=
 match args.toList with
 | [x] => some (x, s)
 | _ => none
end
section
variable {P : Program}
theorem Zpg {f : FuncId} {fn : Func} {e : Array Value → Sem Value} (hf : P.funcs[f]? = some fn) (hn : (fn.name == "runtime.NumGoroutine") = false) (hb : fn.body.isNone = true) (hx : Extern.findNext fn = none) (he : Extern.find fn = some e) : Zfk P f (Zlx P e) := by
 refine ⟨fun args s v s' h => ?_, fun args s v s' h ho ι w args' ha hE hF => .inr ?_⟩
 ·unfold Zlx at h
  replace h := (Zo h).2
  split at h
  ·replace h := (Zo h).2
   injection h with h; injection h with h1 h2; subst h2; exact Up.refl _
  ·cases h
 ·unfold Zlx at h
  replace h := Zo h
  obtain ⟨hfree, h⟩ := h
  split at h
  ·rename_i v1 hp
   replace h := Zo h
   obtain ⟨hfv, h⟩ := h
   injection h with h; injection h with h1 h2; subst h1 h2
   have hae : args' = args := Zez ha.1 fun i x y hx1 hy1 => (ha.2 i x y hx1 hy1).eq_of_free (Za5 hfree i x hx1)
   subst hae
   refine ⟨v1, w, ?_, v1, ι, rfl, Step.refl hE, Dom.refl, VR.of_free hfv⟩
   rw [run_callFunc_extern hf hn hb hx he, Zfi w hp]; rfl
  ·cases h
theorem Zua {f : FuncId} {fn : Func} (hf : P.funcs[f]? = some fn) (hn : (fn.name == "runtime.NumGoroutine") = false) (hb : fn.body.isNone = true) (hx : Extern.findNext fn = none) (he : Extern.find fn = some Extern.AbiNoEscape.same) : Zfk P f ZnA := by
 refine ⟨fun args s v s' h => ?_, fun args s v s' h ho ι w args' ha hE hF => .inr ?_⟩
 ·unfold ZnA at h
  split at h
  ·injection h with h; injection h with h1 h2; subst h2; exact Up.refl _
  ·cases h
 ·unfold ZnA at h
  split at h
  ·rename_i x hx1
   injection h with h; injection h with h1 h2; subst h1 h2
   have hA : args = #[x] := by rw [← Array.toArray_toList (xs := args), hx1]
   subst hA
   obtain ⟨y, rfl⟩ : ∃ y, args' = #[y] := by
    have h1 : args'.size = 1 := ha.1.symm
    exact ⟨args'[0], by apply Array.ext; simp [h1]; intro i h1 h2; simp at h2; subst h2; rfl⟩
   refine ⟨y, w, ?_, y, ι, rfl, Step.refl hE, Dom.refl, ha.2 0 x y rfl rfl⟩
   rw [run_callFunc_extern hf hn hb hx he]; rfl
  ·cases h
end
end Ev
end Go.Proofs.YtlbbiflodemagaaDoor
/- Strings: what the library's functions do of them. -/
namespace Go.Proofs
open Go.Shelf
def YtlbbiflodemagaaDoor.Ev.lays156_ren : Go.Shelf.Ren := ⟨fun | 156 => 19 | 165 => 29 | 166 => 22 | 169 => 23 | 240 => 31 | 241 => 36 | 276 => 39 | 277 => 47 | n => n, fun | 31 => 44 | 9 => 9 | 3 => 3 | 4 => 4 | 0 => 0 | 20 => 20 | 72 => 62 | 76 => 65 | 70 => 60 | 37 => 40 | 75 => 64 | 127 => 79 | 164 => 90 | 5 => 5 | 80 => 67 | n => n, fun | n => n⟩
theorem YtlbbiflodemagaaDoor.Ev.lays156 : Go.Proofs.Lays.n156 Tryd.prog YtlbbiflodemagaaDoor.Ev.lays156_ren := {
  mixed := by kernel_rfl
  f156 := Tryd.func19.trans (congrArg some (by kernel_rfl))
  f165 := Tryd.func29.trans (congrArg some (by kernel_rfl))
  f166 := Tryd.func22.trans (congrArg some (by kernel_rfl))
  f169 := Tryd.func23.trans (congrArg some (by kernel_rfl))
  f240 := Tryd.func31.trans (congrArg some (by kernel_rfl))
  f241 := Tryd.func36.trans (congrArg some (by kernel_rfl))
  f276 := Tryd.func39.trans (congrArg some (by kernel_rfl))
  f277 := Tryd.func47.trans (congrArg some (by kernel_rfl))
  t0 := Tryd.underlying0
  a0 := Tryd.isAgg0
  z0 := Tryd.sizeOf0
  v0 := Tryd.zeroValue0
  t3 := Tryd.underlying3
  a3 := Tryd.isAgg3
  z3 := Tryd.sizeOf3
  v3 := Tryd.zeroValue3
  t4 := Tryd.underlying4
  a4 := Tryd.isAgg4
  z4 := Tryd.sizeOf4
  v4 := Tryd.zeroValue4
  t9 := Tryd.underlying9
  a9 := Tryd.isAgg9
  z9 := Tryd.sizeOf9
  v9 := Tryd.zeroValue9
  t20 := Tryd.underlying20
  a20 := Tryd.isAgg20
  z20 := Tryd.sizeOf20
  v20 := Tryd.zeroValue20
  t31 := Tryd.underlying44
  a31 := Tryd.isAgg44
  z31 := Tryd.sizeOf44
  v31 := Tryd.zeroValue44
  t37 := Tryd.underlying40
  a37 := Tryd.isAgg40
  z37 := Tryd.sizeOf40
  v37 := Tryd.zeroValue40
  t70 := Tryd.underlying60
  a70 := Tryd.isAgg60
  z70 := Tryd.sizeOf60
  v70 := Tryd.zeroValue60
  t72 := Tryd.underlying62
  a72 := Tryd.isAgg62
  z72 := Tryd.sizeOf62
  v72 := Tryd.zeroValue62
  t75 := Tryd.underlying64
  a75 := Tryd.isAgg64
  z75 := Tryd.sizeOf64
  v75 := Tryd.zeroValue64
  t76 := Tryd.underlying65
  a76 := Tryd.isAgg65
  z76 := Tryd.sizeOf65
  v76 := Tryd.zeroValue65
  t127 := Tryd.underlying79
  a127 := Tryd.isAgg79
  z127 := Tryd.sizeOf79
  v127 := Tryd.zeroValue79
  t164 := Tryd.underlying90
  a164 := Tryd.isAgg90
  z164 := Tryd.sizeOf90
  v164 := Tryd.zeroValue90 }
def YtlbbiflodemagaaDoor.Ev.lays105_ren : Go.Shelf.Ren := ⟨fun | 105 => 26 | 212 => 32 | 99 => 33 | 165 => 29 | 166 => 22 | 170 => 34 | 169 => 23 | 263 => 40 | 264 => 41 | 206 => 42 | 240 => 31 | 241 => 36 | 276 => 39 | 277 => 47 | n => n, fun | 9 => 9 | 3 => 3 | 4 => 4 | 20 => 20 | 0 => 0 | 46 => 81 | 109 => 82 | 5 => 5 | 72 => 62 | 76 => 65 | 51 => 92 | 146 => 93 | 53 => 95 | 148 => 96 | 70 => 60 | 37 => 40 | 75 => 64 | 127 => 79 | 164 => 90 | 80 => 67 | n => n, fun | n => n⟩
theorem YtlbbiflodemagaaDoor.Ev.lays105 : Go.Proofs.Lays.n105 Tryd.prog YtlbbiflodemagaaDoor.Ev.lays105_ren := {
  mixed := by kernel_rfl
  f99 := Tryd.func33.trans (congrArg some (by kernel_rfl))
  f105 := Tryd.func26.trans (congrArg some (by kernel_rfl))
  f165 := Tryd.func29.trans (congrArg some (by kernel_rfl))
  f166 := Tryd.func22.trans (congrArg some (by kernel_rfl))
  f169 := Tryd.func23.trans (congrArg some (by kernel_rfl))
  f170 := Tryd.func34.trans (congrArg some (by kernel_rfl))
  f206 := Tryd.func42.trans (congrArg some (by kernel_rfl))
  f212 := Tryd.func32.trans (congrArg some (by kernel_rfl))
  f240 := Tryd.func31.trans (congrArg some (by kernel_rfl))
  f241 := Tryd.func36.trans (congrArg some (by kernel_rfl))
  f263 := Tryd.func40.trans (congrArg some (by kernel_rfl))
  f264 := Tryd.func41.trans (congrArg some (by kernel_rfl))
  f276 := Tryd.func39.trans (congrArg some (by kernel_rfl))
  f277 := Tryd.func47.trans (congrArg some (by kernel_rfl))
  t0 := Tryd.underlying0
  a0 := Tryd.isAgg0
  z0 := Tryd.sizeOf0
  v0 := Tryd.zeroValue0
  t3 := Tryd.underlying3
  a3 := Tryd.isAgg3
  z3 := Tryd.sizeOf3
  v3 := Tryd.zeroValue3
  t4 := Tryd.underlying4
  a4 := Tryd.isAgg4
  z4 := Tryd.sizeOf4
  v4 := Tryd.zeroValue4
  t5 := Tryd.underlying5
  a5 := Tryd.isAgg5
  z5 := Tryd.sizeOf5
  v5 := Tryd.zeroValue5
  t9 := Tryd.underlying9
  a9 := Tryd.isAgg9
  z9 := Tryd.sizeOf9
  v9 := Tryd.zeroValue9
  t20 := Tryd.underlying20
  a20 := Tryd.isAgg20
  z20 := Tryd.sizeOf20
  v20 := Tryd.zeroValue20
  t37 := Tryd.underlying40
  a37 := Tryd.isAgg40
  z37 := Tryd.sizeOf40
  v37 := Tryd.zeroValue40
  t46 := Tryd.underlying81
  a46 := Tryd.isAgg81
  z46 := Tryd.sizeOf81
  v46 := Tryd.zeroValue81
  t51 := Tryd.underlying92
  a51 := Tryd.isAgg92
  z51 := Tryd.sizeOf92
  v51 := Tryd.zeroValue92
  t53 := Tryd.underlying95
  a53 := Tryd.isAgg95
  z53 := Tryd.sizeOf95
  v53 := Tryd.zeroValue95
  t70 := Tryd.underlying60
  a70 := Tryd.isAgg60
  z70 := Tryd.sizeOf60
  v70 := Tryd.zeroValue60
  t72 := Tryd.underlying62
  a72 := Tryd.isAgg62
  z72 := Tryd.sizeOf62
  v72 := Tryd.zeroValue62
  t75 := Tryd.underlying64
  a75 := Tryd.isAgg64
  z75 := Tryd.sizeOf64
  v75 := Tryd.zeroValue64
  t76 := Tryd.underlying65
  a76 := Tryd.isAgg65
  z76 := Tryd.sizeOf65
  v76 := Tryd.zeroValue65
  t109 := Tryd.underlying82
  a109 := Tryd.isAgg82
  z109 := Tryd.sizeOf82
  v109 := Tryd.zeroValue82
  t127 := Tryd.underlying79
  a127 := Tryd.isAgg79
  z127 := Tryd.sizeOf79
  v127 := Tryd.zeroValue79
  t146 := Tryd.underlying93
  a146 := Tryd.isAgg93
  z146 := Tryd.sizeOf93
  v146 := Tryd.zeroValue93
  t148 := Tryd.underlying96
  a148 := Tryd.isAgg96
  z148 := Tryd.sizeOf96
  v148 := Tryd.zeroValue96
  t164 := Tryd.underlying90
  a164 := Tryd.isAgg90
  z164 := Tryd.sizeOf90
  v164 := Tryd.zeroValue90 }
def YtlbbiflodemagaaDoor.Ev.lays171_ren : Go.Shelf.Ren := ⟨fun | 171 => 17 | 243 => 28 | 246 => 35 | 283 => 43 | 284 => 44 | 285 => 45 | 286 => 46 | 129 => 54 | 317 => 53 | 318 => 55 | 319 => 56 | 320 => 57 | 337 => 64 | 338 => 65 | n => n, fun | 3 => 3 | 9 => 9 | 2 => 2 | 4 => 4 | 171 => 98 | 0 => 0 | 53 => 95 | 37 => 40 | 5 => 5 | 173 => 101 | 212 => 109 | 51 => 92 | 20 => 20 | 213 => 110 | 46 => 81 | 232 => 127 | 233 => 128 | n => n, fun | 17 => 0 | 18 => 2 | 19 => 3 | n => n⟩
theorem YtlbbiflodemagaaDoor.Ev.lays171 : Go.Proofs.LaysM.n171 Tryd.prog YtlbbiflodemagaaDoor.Ev.lays171_ren := {
  mixed := by kernel_rfl
  f129 := Tryd.func54.trans (congrArg some (by kernel_rfl))
  f171 := Tryd.func17.trans (congrArg some (by kernel_rfl))
  f243 := Tryd.func28.trans (congrArg some (by kernel_rfl))
  f246 := Tryd.func35.trans (congrArg some (by kernel_rfl))
  f283 := Tryd.func43.trans (congrArg some (by kernel_rfl))
  f284 := Tryd.func44.trans (congrArg some (by kernel_rfl))
  f285 := Tryd.func45.trans (congrArg some (by kernel_rfl))
  f286 := Tryd.func46.trans (congrArg some (by kernel_rfl))
  f317 := Tryd.func53.trans (congrArg some (by kernel_rfl))
  f318 := Tryd.func55.trans (congrArg some (by kernel_rfl))
  f319 := Tryd.func56.trans (congrArg some (by kernel_rfl))
  f320 := Tryd.func57.trans (congrArg some (by kernel_rfl))
  f337 := Tryd.func64.trans (congrArg some (by kernel_rfl))
  f338 := Tryd.func65.trans (congrArg some (by kernel_rfl))
  t0 := Tryd.underlying0
  a0 := Tryd.isAgg0
  z0 := Tryd.sizeOf0
  v0 := Tryd.zeroValue0
  t2 := Tryd.underlying2
  a2 := Tryd.isAgg2
  z2 := Tryd.sizeOf2
  v2 := Tryd.zeroValue2
  t3 := Tryd.underlying3
  a3 := Tryd.isAgg3
  z3 := Tryd.sizeOf3
  v3 := Tryd.zeroValue3
  t4 := Tryd.underlying4
  a4 := Tryd.isAgg4
  z4 := Tryd.sizeOf4
  v4 := Tryd.zeroValue4
  t5 := Tryd.underlying5
  a5 := Tryd.isAgg5
  z5 := Tryd.sizeOf5
  v5 := Tryd.zeroValue5
  t9 := Tryd.underlying9
  a9 := Tryd.isAgg9
  z9 := Tryd.sizeOf9
  v9 := Tryd.zeroValue9
  t20 := Tryd.underlying20
  a20 := Tryd.isAgg20
  z20 := Tryd.sizeOf20
  v20 := Tryd.zeroValue20
  t37 := Tryd.underlying40
  a37 := Tryd.isAgg40
  z37 := Tryd.sizeOf40
  v37 := Tryd.zeroValue40
  t46 := Tryd.underlying81
  a46 := Tryd.isAgg81
  z46 := Tryd.sizeOf81
  v46 := Tryd.zeroValue81
  t51 := Tryd.underlying92
  a51 := Tryd.isAgg92
  z51 := Tryd.sizeOf92
  v51 := Tryd.zeroValue92
  t53 := Tryd.underlying95
  a53 := Tryd.isAgg95
  z53 := Tryd.sizeOf95
  v53 := Tryd.zeroValue95
  t171 := Tryd.underlying98
  a171 := Tryd.isAgg98
  z171 := Tryd.sizeOf98
  v171 := Tryd.zeroValue98
  t173 := Tryd.underlying101
  a173 := Tryd.isAgg101
  z173 := Tryd.sizeOf101
  v173 := Tryd.zeroValue101
  t212 := Tryd.underlying109
  a212 := Tryd.isAgg109
  z212 := Tryd.sizeOf109
  v212 := Tryd.zeroValue109
  t213 := Tryd.underlying110
  a213 := Tryd.isAgg110
  z213 := Tryd.sizeOf110
  t232 := Tryd.underlying127
  a232 := Tryd.isAgg127
  z232 := Tryd.sizeOf127
  v232 := Tryd.zeroValue127
  t233 := Tryd.underlying128
  a233 := Tryd.isAgg128
  z233 := Tryd.sizeOf128
  v233 := Tryd.zeroValue128
  g17 := by kernel_rfl
  g18 := by kernel_rfl
  g19 := by kernel_rfl
  i0 := by kernel_rfl
  i2 := by kernel_rfl
  i3 := by kernel_rfl
  i4 := by kernel_rfl
  i5 := by kernel_rfl
  i9 := by kernel_rfl
  i20 := by kernel_rfl
  i37 := by kernel_rfl
  i46 := by kernel_rfl
  i51 := by kernel_rfl
  i53 := by kernel_rfl
  i171 := by kernel_rfl
  i173 := by kernel_rfl
  i212 := by kernel_rfl
  i232 := by kernel_rfl
  i233 := by kernel_rfl
  m17 := by kernel_rfl
  m18 := by kernel_rfl
  m19 := by kernel_rfl }
end Go.Proofs
namespace Go.Proofs.YtlbbiflodemagaaDoor
open Go.RowKit
namespace Ev
set_option linter.unusedVariables false
def ZeO : Nat → Nat → List Int
 | 0, _ => []
 | f + 1, u => if u < 10 then [(48 + u : Nat)] else ZeO f (u / 10) ++ [((48 + u % 10 : Nat) : Int)]
def Ze (n : Int) : List Int := if n < 0 then 45 :: ZeO 20 n.natAbs else ZeO 20 n.toNat
def u8s (l : List Int) : List UInt8 := l.map fun n => UInt8.ofNat n.toNat
theorem ZlT (a b : List Int) : u8s (a ++ b) = u8s a ++ u8s b := List.map_append
theorem ZsZ (ns : List Int) : ∀ acc : ByteArray, (ns.foldl (fun r n => r.push (UInt8.ofNat n.toNat)) acc).data = acc.data ++ (u8s ns).toArray := by
 induction ns with
 | nil => intro acc; simp [u8s]
 | cons n ns ih => intro acc; rw [List.foldl_cons, ih]; simp [ByteArray.push, u8s]
theorem Zcs (ns : List Int) : Za ns = ⟨(u8s ns).toArray⟩ := by
 apply ByteArray.ext
 unfold Za
 rw [ZsZ]
 simp
theorem Zq5 : ∀ (f u : Nat), u < 10 ^ f → u8s (ZeO f u) = if f = 0 then [] else Lib.decDigits u
 | 0, u, h => rfl
 | f + 1, u, h => by
  rw [if_neg (by omega)]
  unfold ZeO
  rw [Lib.decDigits]
  by_cases hu : u < 10
  ·rw [if_pos hu, dif_pos hu]; rfl
  ·rw [if_neg hu, dif_neg hu, ZlT]
   cases f with
   | zero => simp at h; omega
   | succ f =>
    rw [Zq5 (f + 1) (u / 10) (by rw [Nat.pow_succ] at h; omega), if_neg (by omega)]
    rfl
theorem Zov {n : Int} (h0 : -9223372036854775808 ≤ n) (h1 : n ≤ 9223372036854775807) : Za (Ze n) = ⟨(Lib.itoa n).toArray⟩ := by
 rw [Zcs]
 congr 2
 unfold Ze Lib.itoa
 by_cases hn : n < 0
 ·rw [if_pos hn, if_pos hn]
  show (45 : UInt8) :: u8s (ZeO 20 n.natAbs) = _
  rw [Zq5 20 _ (by omega), if_neg (by decide)]
 ·rw [if_neg hn, if_neg hn, Zq5 20 _ (by omega), if_neg (by decide)]
def ZnB : List Value → Option (List ByteArray)
 | [] => some []
 | .string x :: l => match ZnB l with | some r => some (x :: r) | none => none
 | _ => none
theorem Zph : ∀ {l : List Value} {r : List ByteArray}, ZnB l = some r → l = r.map Value.string
 | [], r, h => by injection h with h; subst h; rfl
 | v :: l, r, h => by
  unfold ZnB at h
  split at h
  ·rename_i e; cases e
  ·rename_i x l' e
   injection e with e1 e2
   subst e1 e2
   split at h
   ·rename_i r' hr
    injection h with h
    subst h
    rw [Zph hr]; rfl
   ·cases h
  ·cases h
def ZlU (sep : ByteArray) : List ByteArray → ByteArray
 | [] => ByteArray.empty
 | x :: l => l.foldl (fun a y => a ++ sep ++ y) x
def Zow (x : ByteArray) : Nat → ByteArray
 | 0 => ByteArray.empty
 | n + 1 => x ++ Zow x n
theorem Zsj (x : ByteArray) : x = ⟨x.data.toList.toArray⟩ := by cases x; simp
theorem Zpi (sep : ByteArray) : ∀ (l : List ByteArray) (a : ByteArray), (l.foldl (fun a y => a ++ sep ++ y) a).data.toList = a.data.toList ++ Lib.joinTail sep.data.toList (l.map (·.data.toList))
 | [], a => by simp [Lib.joinTail]
 | y :: l, a => by
  rw [List.foldl_cons, Zpi sep l]
  simp [Lib.joinTail, ByteArray.data_append]
theorem Zq6 (sep : ByteArray) (xs : List ByteArray) : ZlU sep xs = ⟨(Lib.join (xs.map (·.data.toList)) sep.data.toList).toArray⟩ := by
 cases xs with
 | nil => rfl
 | cons x l =>
  rw [Zsj (ZlU sep (x :: l))]
  unfold ZlU
  rw [Zpi, List.map_cons, Lib.join_cons]
theorem Zta (sep : ByteArray) (xs : List ByteArray) : (ZlU sep xs).size = (Lib.join (xs.map (·.data.toList)) sep.data.toList).length := by
 rw [Zq6]; simp [ByteArray.size]
noncomputable section
def ZpL (args : Array Value) (s : St) : Out :=
 match args.toList with
 | [.int .i64 n] => match s.tst (decide (-9223372036854775808 ≤ n) && decide (n ≤ 9223372036854775807)) with
  | (true, s1) => some (.string (Za (Ze n)), s1)
  | (false, _) => none
 | _ => none
def ZpM (args : Array Value) (s : St) : Out :=
 match args.toList with
 | [.slice (some ⟨k, o, none⟩) n c, .string sep] => match rowAt s k o n with
  | some l => match ZnB l with
   | some xs => bif Nat.ble n c && Nat.ble n 100000 then match s.tst (Nat.ble (ZlU sep xs).size 140737488355328) with
    | (true, s1) => some (.string (ZlU sep xs), s1)
    | (false, _) => none
    else none
   | none => none
  | none => none
 | _ => none
def ZlV (args : Array Value) (s : St) : Out :=
 match args.toList with
 | [.string x, .int .i64 (.ofNat n)] => bif Nat.ble n 100000 then match s.tst (Nat.ble (x.size * n) 140737488355328) with
  | (true, s1) => some (.string (Zow x n), s1)
  | (false, _) => none
  else none
 | _ => none
end
section
variable {P : Program}
theorem ZjM {f : FuncId} {fn : Func} {c : Code} {g : Array Value → St → Out} (hf : P.funcs[f]? = some fn) (hb : fn.body = some c) (up : ∀ args s v s', g args s = some (v, s') → Up s s')
  (h : ∀ args s v s', g args s = some (v, s') → (∀ p ∈ s'.ob, p.1 = p.2) → s'.h = s.h ∧ s'.n = s.n ∧ Zbp v = true ∧ ∀ ι w args', VRs ι args args' → Emb P ι s.h.get w → Calls P f args' w fun e w' => e = .returned v ∧ Below w.heap.size w w') : Zfk P f g := by
 refine ⟨up, fun args s v s' hg ho ι w args' ha he hF => .inl ⟨⟨fn, c, hf, hb⟩, ?_⟩⟩
 obtain ⟨q1, q2, q3, q4⟩ := h args s v s' hg ho
 refine (q4 ι w args' ha he).mono ?_
 rintro e w' ⟨rfl, hB⟩
 refine ⟨v, ι, rfl, ?_, ?_, VR.of_free q3⟩
 ·rw [q1]; exact Step.below he hB
 ·rw [q2]; exact Dom.refl
theorem ZmU {s s1 : St} {t : Bool} (h : s.tst t = (true, s1)) (ho : ∀ p ∈ s1.ob, p.1 = p.2) : t = true ∧ s1.h = s.h ∧ s1.n = s.n := by
 unfold St.tst at h
 split at h
 ·injection h with h1 h2; subst h2; exact ⟨h1, rfl, rfl⟩
 ·injection h with h1 h2; subst h2; exact ⟨h1, rfl, rfl⟩
 ·injection h with h1 h2; subst h1 h2
  exact ⟨ho (t, true) (List.mem_cons_self ..), rfl, rfl⟩
end
theorem Zky {w w' : World} (h : ∃ k os, w' = Go.Sort.grow (w.drewN k) os) : Below w.heap.size w w' := by
 obtain ⟨k, os, rfl⟩ := h
 refine ⟨rfl, rfl, rfl, by show w.heap.size ≤ (w.heap ++ os).size; rw [Array.size_append]; omega, fun j hj => ?_⟩
 show (w.heap ++ os)[j]? = w.heap[j]?
 exact Array.getElem?_append_left hj
theorem tabItoa {w : World} (h : TabW w) : Lib.TabIs Tryd.prog w "internal/strconv.uint64pow10" .u64 Lib.pow10Tab := by
  obtain ⟨C, t, fr, hw, hC⟩ := h _ (List.mem_cons_self ..)
  obtain rfl : C = _ := hC
  unfold Lib.TabIs World.var?
  rw [show Tryd.prog.globalNamed "internal/strconv.uint64pow10" = some 0 from by kernel_rfl]
  simp only [Option.bind_some]
  rw [hw]
  rfl
theorem itoa_does : Zfk Tryd.prog 17 ZpL := by
  refine ZjM Tryd.func17 rfl (fun args s v s' h => ?_) fun args s v s' h ho => ?_
  · unfold ZpL at h
    split at h
    · split at h
      · rename_i s1 hs; injection h with h; injection h with h1 h2; subst h2; exact ZeD hs
      · cases h
    · cases h
  · unfold ZpL at h
    split at h
    · rename_i n hl
      split at h
      · rename_i s1 hs
        injection h with h; injection h with h1 h2; subst h1 h2
        obtain ⟨t1, t2, t3⟩ := ZmU hs ho
        simp only [Bool.and_eq_true, decide_eq_true_eq] at t1
        refine ⟨t2, t3, rfl, fun ι w args' ha he => ?_⟩
        have hA : args = #[.int .i64 n] := by rw [← Array.toArray_toList (xs := args), hl]
        subst hA
        obtain rfl : args' = #[.int .i64 n] := Zez ha.1 fun i x y hx1 hy1 => (ha.2 i x y hx1 hy1).eq_of_free (Za5 (p := Zbp) (a := #[.int .i64 n]) rfl i x hx1)
        refine (Any.strconv_Itoa lays171 n t1.1 t1.2 w (tabItoa he.tabw)).mono ?_
        rintro e w' ⟨rfl, hw⟩
        exact ⟨by rw [Zov t1.1 t1.2], Zky hw⟩
      · cases h
    · cases h
theorem Zub {ι : Ren} {a b : Value} {args' : Array Value} (h : VRs ι #[a, b] args') : ∃ x' y', args' = #[x', y'] ∧ VR ι a x' ∧ VR ι b y' := by
 obtain ⟨l⟩ := args'
 match l, h with
 | [x, y], h => exact ⟨x, y, rfl, h.2 0 a x rfl rfl, h.2 1 b y rfl rfl⟩
 | [], h => exact absurd h.1 (by simp)
 | [_], h => exact absurd h.1 (by simp)
 | _ :: _ :: _ :: _, h => exact absurd h.1 (by simp)
theorem ZvW (x : ByteArray) (n : Nat) : Zow x n = ⟨(Lib.repeatL x.data.toList n).toArray⟩ := by
 have : ∀ n : Nat, (Zow x n).data.toList = Lib.repeatL x.data.toList n := fun n => by
  induction n with
  | zero => rfl
  | succ n ih => unfold Zow; rw [ByteArray.data_append, Array.toList_append, ih]; rfl
 rw [Zsj (Zow x n), this]
theorem extra156 : Builder.Extra Tryd.prog lays156_ren := { sizeBuilder := by kernel_rfl, liesBuilder := by kernel_rfl, t5 := Tryd.underlying5, a5 := Tryd.isAgg5, z5 := Tryd.sizeOf5, v5 := Tryd.zeroValue5, infoByte := by kernel_rfl, cellsByte := by kernel_rfl, sizeByte := by kernel_rfl, neB5 := by decide }
theorem join_does : Zfk Tryd.prog 19 ZpM := by
  refine ZjM Tryd.func19 rfl (fun args s v s' h => ?_) fun args s v s' h ho => ?_
  · unfold ZpM at h
    split at h
    · split at h
      · split at h
        · replace h := (Zo h).2
          split at h
          · rename_i s1 hs; injection h with h; injection h with h1 h2; subst h2; exact ZeD hs
          · cases h
        · cases h
      · cases h
    · cases h
  · unfold ZpM at h
    split at h
    · rename_i k o n c sep hl
      split at h
      · rename_i l hr
        split at h
        · rename_i xs hx
          obtain ⟨hnc, h⟩ := Zo h
          simp only [Bool.and_eq_true] at hnc
          split at h
          · rename_i s1 hs
            injection h with h; injection h with h1 h2; subst h1 h2
            obtain ⟨t1, t2, t3⟩ := ZmU hs ho
            refine ⟨t2, t3, rfl, fun ι w args' ha he => ?_⟩
            have hA : args = #[.slice (some ⟨k, o, none⟩) n c, .string sep] := by rw [← Array.toArray_toList (xs := args), hl]
            subst hA
            obtain ⟨b, cs, hb, hcl, hll, hcs, hvv⟩ := Zi8 he hr
            have hxl := Zph hx
            subst hxl
            have hcell : ∀ (j : Nat) x, xs[j]? = some x → w.cell? ⟨b.1, o + j, none⟩ = some (.string x) := fun j x hj => by
              have hjl : j < xs.length := (List.getElem?_eq_some_iff.1 hj).1
              have hjc : j < cs.length := by rw [hcl, ← hll, List.length_map]; exact hjl
              have h1 := hcs j cs[j] (List.getElem?_eq_getElem hjc)
              have h2 := (hvv j (.string x) cs[j] (by rw [List.getElem?_map, hj]; rfl) (List.getElem?_eq_getElem hjc)).eq_of_atom rfl
              rw [h2, Addr.add_lit] at h1
              exact h1
            have hln : xs.length = n := by simpa using hll
            obtain ⟨x', y', rfl, hv1, hv2⟩ := Zub ha
            obtain rfl := hv2.eq_of_atom rfl
            have hsz : (Lib.join (xs.map (·.data.toList)) sep.data.toList).length ≤ 140737488355328 := by rw [← Zta]; exact Nat.le_of_ble_eq_true t1
            have hle : n ≤ c := Nat.le_of_ble_eq_true hnc.1
            have hN : n ≤ 100000 := Nat.le_of_ble_eq_true hnc.2
            cases hv1 with
            | atom h => exact (Bool.false_ne_true h).elim
            | slice hb2 hn hc hq =>
              rename_i b2 c'
              rw [hb] at hb2; injection hb2 with hb2; subst hb2
              subst hln
              refine (Any.strings_Join lays156 extra156 b.1 o c' xs sep w hcell (he.lt _ _ hb) (by omega) (by omega) hsz).mono ?_
              rintro e w' ⟨rfl, hB⟩
              exact ⟨by rw [Zq6], hB⟩
            | slice0 _h0 =>
              rename_i a'
              have : xs = [] := List.eq_nil_of_length_eq_zero hln
              subst this
              refine (Any.strings_Join_none lays156 extra156 a' 0 sep w).mono ?_
              rintro e w' ⟨rfl, rfl⟩
              exact ⟨rfl, Below.refl _ _⟩
          · cases h
        · cases h
      · cases h
    · cases h
theorem extra105 : Builder.Extra Tryd.prog lays105_ren := { sizeBuilder := by kernel_rfl, liesBuilder := by kernel_rfl, t5 := Tryd.underlying5, a5 := Tryd.isAgg5, z5 := Tryd.sizeOf5, v5 := Tryd.zeroValue5, infoByte := by kernel_rfl, cellsByte := by kernel_rfl, sizeByte := by kernel_rfl, neB5 := by decide }
theorem repeat_does : Zfk Tryd.prog 26 ZlV := by
  refine ZjM Tryd.func26 rfl (fun args s v s' h => ?_) fun args s v s' h ho => ?_
  · unfold ZlV at h
    split at h
    · replace h := (Zo h).2
      split at h
      · rename_i s1 hs; injection h with h; injection h with h1 h2; subst h2; exact ZeD hs
      · cases h
    · cases h
  · unfold ZlV at h
    split at h
    · rename_i x n hl
      obtain ⟨hn, h⟩ := Zo h
      split at h
      · rename_i s1 hs
        injection h with h; injection h with h1 h2; subst h1 h2
        obtain ⟨t1, t2, t3⟩ := ZmU hs ho
        refine ⟨t2, t3, rfl, fun ι w args' ha he => ?_⟩
        have hA : args = #[.string x, .int .i64 (.ofNat n)] := by rw [← Array.toArray_toList (xs := args), hl]
        subst hA
        obtain rfl : args' = #[.string x, .int .i64 (.ofNat n)] := Zez ha.1 fun i y z hx1 hy1 => (ha.2 i y z hx1 hy1).eq_of_free (Za5 (p := Zbp) (a := #[.string x, .int .i64 (.ofNat n)]) rfl i y hx1)
        have hn2 := Nat.le_of_ble_eq_true hn
        refine (Any.strings_Repeat lays105 extra105 x n w (by omega) (Nat.le_of_ble_eq_true t1)).mono ?_
        rintro e w' ⟨rfl, hB⟩
        exact ⟨by rw [ZvW], hB⟩
      · cases h
    · cases h
end Ev
end Go.Proofs.YtlbbiflodemagaaDoor
/- A strings.Builder's text. -/
namespace Go.Proofs.YtlbbiflodemagaaDoor
open Go.RowKit Go.Shelf
namespace Ev
set_option linter.unusedVariables false
section
variable {P : Program}
theorem ZjN (w : World) : ∀ (l : List Int) (a : Addr) (acc : ByteArray), (∀ j x, l[j]? = some x → w.cell? (a.add j) = some (.int .u8 x)) → (loadBytes a acc l.length).run P w = .ok (l.foldl (fun r n => r.push (UInt8.ofNat n.toNat)) acc) w
 | [], a, acc, _ => rfl
 | x :: l, a, acc, h => by
  have h0 : w.cell? a = some (.int .u8 x) := by
   have := h 0 x rfl
   simpa [Addr.add] using this
  have ih := ZjN w l (a.add 1) (acc.push (UInt8.ofNat x.toNat)) (fun j y hy => by
   have := h (j + 1) y (by simpa using hy)
   have e : (a.add 1).add j = a.add (j + 1) := by
    unfold Addr.add
    by_cases hj : j = 0
    ·subst hj; simp
    ·simp [hj]; omega
   rw [e]; exact this)
  simp only [List.length_cons, loadBytes, Sem.run_bind, run_load, h0, Result.andThen]
  exact ih
theorem Zmh (w : World) (pt it ty e : TypeId) (hp : P.underlying pt = some (.pointer e)) (hc : P.cellsOf e = 1) (g cells : Nat) (hsh : w.shape? g = some (e, cells)) (l : List Int) (h0 : l ≠ []) (hn : l.length ≤ cells) (h63 : l.length ≤ 9223372036854775807)
  (hcell : ∀ j x, l[j]? = some x → w.cell? ((⟨g, 0, none⟩ : Addr).add j) = some (.int .u8 x)) :
  (Builtin.unsafeString_ #[pt, it] ty #[.pointer (some ⟨g, 0, none⟩), .int .i64 l.length]).run P w = .ok (.string (Za l)) (w.freeze ⟨g, 0, none⟩ l.length) := by
 have hl : l.length ≠ 0 := by simpa using h0
 have hlb := ZjN (P := P) w l ⟨g, 0, none⟩ .empty hcell
 have hlies := Lib.liesAt_bytes (P := P) hc (cells / P.cellsOf e) l.length (by rw [hc]; simpa using hn)
 have h63' : ¬ (9223372036854775807 : Int) < (l.length : Int) := by omega
 have hneg : ¬ (l.length : Int) < 0 := by omega
 have hmax : IntKind.i64.max = 9223372036854775807 := rfl
 rw [show Builtin.unsafeString_ #[pt, it] ty #[.pointer (some ⟨g, 0, none⟩), .int .i64 l.length] = asInt (.int .i64 l.length) >>= _ from rfl]
 simp [asInt, asIntOf, hmax, h63', hneg, hl, variablesAt, hsh, elemOf, run_underlying hp, hlies, hlb, Za]
end
set_option maxHeartbeats 1000000 in
set_option maxRecDepth 100000 in
theorem ZuW {tb : TypeId} {b g n cap : Nat} {cur : Array Value} {l : List Int} {w : World} {C : Array Value} {fr fr2 : Nat × Nat} (hb : w.heap[b]? = some (.cells C tb fr)) (hC : C[1]? = some (.slice (some ⟨g, 0, none⟩) n cap)) (hg : w.heap[g]? = some (.cells cur 5 fr2)) (hn : l.length = n) (h0 : l ≠ []) (hc : cap ≠ 0) (h63 : l.length ≤ 9223372036854775807) (hl : ∀ (j : Nat) (x : Int), l[j]? = some x → cur[j]? = some (Value.int .u8 x)) :
  Calls Tryd.prog 23 #[.pointer (some ⟨b, 0, none⟩)] w fun e w' => e = .returned (.string (Za l)) ∧ w' = w.drew.freeze ⟨g, 0, none⟩ l.length := by
 subst hn
 have hsz : l.length ≤ cur.size := by
  rcases Nat.lt_or_ge cur.size l.length with h | h
  ·have := hl cur.size l[cur.size] (List.getElem?_eq_getElem h)
   simp at this
  ·exact h
 have c1 : w.drew.cell? ⟨b, 1, none⟩ = some (.slice (some ⟨g, 0, none⟩) l.length cap) := by
  have : w.drew.heap[b]? = some (.cells C tb fr) := hb
  rw [Lib.cell_of_heap this]; exact hC
 have hSD : (Builtin.unsafeSliceData_ #[40] 79 #[.slice (some ⟨g, 0, none⟩) l.length cap]).run Tryd.prog w.drew = .ok (.pointer (some ⟨g, 0, none⟩)) w.drew :=
  Lib.run_unsafeSliceData_row _ _ _ _ _ _ hc
 have hUS : (Builtin.unsafeString_ #[79, 3] 9 #[.pointer (some ⟨g, 0, none⟩), .int .i64 l.length]).run Tryd.prog w.drew = .ok (.string (Za l)) (w.drew.freeze ⟨g, 0, none⟩ l.length) := by
  refine Zmh w.drew 79 3 9 5 Tryd.underlying79 (by kernel_rfl) g cur.size (by have hg' : w.drew.heap[g]? = some (.cells cur 5 fr2) := hg; simp [World.shape?, hg']) l h0 hsz h63 ?_
  intro j x hx
  have h1 := hl j x hx
  have h2 : w.drew.heap[g]? = some (.cells cur 5 fr2) := hg
  rw [Addr.add_lit, Lib.cell_of_heap h2, Nat.zero_add]; exact h1
 have mixed : Tryd.prog.follows .mixedOrders = true := by kernel_rfl
 go_enter Tryd.func23, Tryd.ntmps23
 go_wp2
 go_region_o
 all_goals (go_wp2; go_ret; exact ⟨rfl, rfl⟩)
theorem ZuX {tb : TypeId} {b : Nat} {C : Array Value} {fr : Nat × Nat} {w : World} (hb : w.heap[b]? = some (.cells C tb fr)) (hC : C[1]? = some (.slice none 0 0)) :
  Calls Tryd.prog 23 #[.pointer (some ⟨b, 0, none⟩)] w fun e w' => e = .returned (.string ByteArray.empty) ∧ w' = w.drew := by
 have c1 : w.drew.cell? ⟨b, 1, none⟩ = some (.slice none 0 0) := by
  have : w.drew.heap[b]? = some (.cells C tb fr) := hb
  rw [Lib.cell_of_heap this]; exact hC
 have hSD : (Builtin.unsafeSliceData_ #[40] 79 #[.slice none 0 0]).run Tryd.prog w.drew = .ok (.pointer none) w.drew := rfl
 have hUS : (Builtin.unsafeString_ #[79, 3] 9 #[.pointer none, .int .i64 0]).run Tryd.prog w.drew = .ok (.string .empty) w.drew := Lib.run_unsafeString_none w.drew _ _ _ none
 have mixed : Tryd.prog.follows .mixedOrders = true := by kernel_rfl
 go_enter Tryd.func23, Tryd.ntmps23
 go_wp2
 go_region_o
 all_goals (go_wp2; go_ret; exact ⟨rfl, rfl⟩)
theorem Step.gone {P : Program} {ι : Ren} {h : AH} {w w' : World} (e : Emb P ι h w) {k0 : Nat} {b : Nat × Nat} (hl : isC (h k0) = true) (hb : ι k0 = some b) (hO : ∀ i, i ≠ b.1 → w'.heap[i]? = w.heap[i]?) (hs : w'.heap.size = w.heap.size) (ho : w'.os = w.os) (ht : w'.tape = w.tape) (hp : w'.output = w.output) :
  Step P ι h w ι (upd h k0 none) w' := by
 have ne : ∀ k o, upd h k0 none k = some o → k ≠ k0 ∧ h k = some o := fun k o hk => by
  have h1 := (Zla (h := h) (k0 := k0) (k := k) (by rw [hk]; rfl)).1
  rw [Zl h1] at hk
  exact ⟨h1, hk⟩
 have far_ : ∀ k c, sol (h k) → k ≠ k0 → ι k = some c → c.1 ≠ b.1 := fun k c h1 h2 h3 h4 => h2 (e.inj k0 k b c hl h1 hb h3 h4.symm).symm
 refine ⟨fun _ _ h => h, ⟨fun k c t q hk => ?_, fun k O hk => ?_, fun k k' b1 b2 h1 h2 => e.inj k k' b1 b2 (Zet h1).2 (ZgZ h2).2, fun k b hk => by rw [hs]; exact e.lt k b hk, e.marks (fun _ _ h => h) (fun i _ hno => hO i fun e1 => hno k0 b hl hb e1.symm) (fun _ _ _ _ h => h) (fun k d hk hd => .inr ⟨k, d, (Zet hk).2, hd, rfl⟩), e.tb⟩,
  ho, ht, hp, by rw [hs]; exact Nat.le_refl _, fun i _ hno => hO i fun e1 => hno k0 b hl hb e1.symm, fun k b h1 h2 => (by rw [h1] at h2; cases h2), fun k h1 _ => (ZgZ h1).2, fun k h1 _ => (Zet h1).2⟩
 ·obtain ⟨h1, h2⟩ := ne k _ hk
  obtain ⟨b1, q1, hz | ⟨q0, C1, q2, q3, q4⟩⟩ := e.obj k c t q h2
  ·exact ⟨b1, q1, .inl hz⟩
  ·exact ⟨b1, q1, .inr ⟨q0, C1, q2.on (hO _ (far_ k b1 (by rw [h2]; exact ZeK q0) h1 q1)), q3, q4⟩⟩
 ·obtain ⟨h1, h2⟩ := ne k _ hk
  obtain ⟨b1, q1, q2⟩ := e.ro k O h2
  exact ⟨b1, q1, q2.on (hO _ (far_ k b1 (by rw [h2]; rfl) h1 q1))⟩
noncomputable section
def St.kill (s : St) (k : Nat) : St := ⟨s.h.set k none, s.n, k :: s.wr, s.orc, s.ob⟩
def ZpN (args : Array Value) (s : St) : Out :=
 match args.toList with
 | [.pointer (some ⟨k, 0, none⟩)] => match s.h.get k with
  | some (.cells (_ :: q :: _) _) => match q with
   | .slice none 0 0 => some (.string ByteArray.empty, s)
   | .slice (some ⟨j, 0, none⟩) n c => match s.h.get j with
    | some (.cells cs t') => bif Nat.beq t' 5 && !Nat.beq j k then match s.nextW with
     | (some (.bs ns), s1) => some (.string (Za ns), (s1.kill j).told (dP (Z8 n cs = some (ns.map (Value.int .u8)) ∧ 0 < n ∧ n ≤ c ∧ n ≤ 1000000000)))
     | (some _, _) => none
     | (none, s1) => match Z8 n cs with
      | some l => match Zim l with
       | some ns => bif Nat.blt 0 n && Nat.ble n c && Nat.ble n 1000000000 then some (.string (Za ns), s1.kill j) else none
       | none => none
      | none => none
     else none
    | _ => none
   | _ => none
  | _ => none
 | _ => none
end
theorem Zsk {s : St} {k : Nat} : Up s (s.kill k) := ⟨Nat.le_refl _, List.suffix_refl _, [k], rfl, fun j hj _ => by
 show (s.h.set k none).get j = _
 rw [Tr.get_set, Zl (by simpa using hj)]⟩
theorem Zsl {tb : TypeId} {ι : Ren} {s : St} {w : World} {k j n c : Nat} {x : Value} {r cs : List Value} {ns : List Int} {s' : St} (he : Emb Tryd.prog ι s.h.get w) (hk : s.h.get k = some (.cells (x :: .slice (some ⟨j, 0, none⟩) n c :: r) tb)) (hj : s.h.get j = some (.cells cs 5)) (ht : Z8 n cs = some (ns.map (Value.int .u8))) (h0 : 0 < n) (hc : n ≤ c) (hn : n ≤ 1000000000) {args' : Array Value} (ha : VRs ι #[.pointer (some ⟨k, 0, none⟩)] args') (e1 : s'.h = s.h.set j none) (e2 : s'.n = s.n) :
  Calls Tryd.prog 23 args' w (ZlN Tryd.prog ι s w (.string (Za ns)) s') := by
 obtain ⟨b, C, q1, q2, q3, _⟩ := he.objF k _ _ hk
 obtain ⟨g, D, r1, r2, r3, _⟩ := he.objF j _ _ hj
 obtain ⟨fr1, q2, _⟩ := q2
 obtain ⟨fr2, r2, _⟩ := r2
 obtain ⟨t1, t2⟩ := Zdg ht
 have hC1 : ∃ y, C[1]? = some y ∧ VR ι (.slice (some ⟨j, 0, none⟩) n c) y := by
  have hl := q3.1
  simp only [List.length_cons] at hl
  exact ⟨C[1]'(by omega), Array.getElem?_eq_getElem (by omega), q3.2 1 _ _ rfl (Array.getElem?_eq_getElem (by omega))⟩
 obtain ⟨y, hy, hv⟩ := hC1
 have hne : ns.length = n := by
  have := congrArg List.length t1
  simp at this; omega
 have hcell : ∀ (i : Nat) (z : Int), ns[i]? = some z → D[i]? = some (Value.int .u8 z) := fun i z hz => by
  have hi : i < n := by have := (List.getElem?_eq_some_iff.1 hz).1; omega
  have h1 : cs[i]? = some (.int .u8 z) := by
   have h2 : (cs.take n)[i]? = some (.int .u8 z) := by rw [← t1, List.getElem?_map, hz]; rfl
   rwa [List.getElem?_take_of_lt hi] at h2
  have hil := (List.getElem?_eq_some_iff.1 h1).1
  have hD : D[i]? = some (D[i]'(by have := r3.1; omega)) := Array.getElem?_eq_getElem _
  rw [hD, (r3.2 i _ _ h1 hD).int_inv]
 have hA : args' = #[.pointer (some ⟨b.1, 0, none⟩)] := by
  obtain ⟨l⟩ := args'
  match l, ha with
  | [z], ha =>
   have := ha.2 0 _ z rfl rfl
   cases this with
   | atom h => exact (Bool.false_ne_true h).elim
   | ptr h => rw [q1] at h; injection h with h; subst h; rfl
  | [], ha => exact absurd ha.1 (by simp)
  | _ :: _ :: _, ha => exact absurd ha.1 (by simp)
 subst hA
 cases hv with
 | atom h => exact (Bool.false_ne_true h).elim
 | slice0 _ => omega
 | slice hb2 hn2 hc2 hq =>
  rename_i b2 c'
  rw [r1] at hb2; injection hb2 with hb2; subst hb2
  refine (ZuW (l := ns) q2 hy r2 hne (fun e => by subst e; simp at hne; omega) (by omega) (by omega) hcell).mono ?_
  rintro e w' ⟨rfl, rfl⟩
  refine ⟨_, ι, rfl, ?_, by rw [e2]; exact Dom.refl, .atom rfl⟩
  rw [e1, Tr.get_set]
  have hns : ns.length ≠ 0 := by omega
  refine Step.gone he (by rw [hj]; rfl) r1 (fun i hi => ?_) ?_ ?_ ?_ ?_
  ·unfold World.freeze
   rw [if_neg hns]
   show (w.heap.modify g.1 _)[i]? = _
   rw [Array.getElem?_modify, if_neg (fun e => hi e.symm)]
  ·unfold World.freeze
   rw [if_neg hns]
   show (w.heap.modify g.1 _).size = _
   rw [Array.size_modify]
  all_goals (unfold World.freeze; rw [if_neg hns]; rfl)
theorem Zuc : Zfk Tryd.prog 23 ZpN := by
 refine ⟨fun args s v s' h => ?_, fun args s v s' h ho ι w args' ha he hF => .inl ⟨⟨_, _, Tryd.func23, rfl⟩, ?_⟩⟩
 ·unfold ZpN at h
  split at h
  ·split at h
   ·split at h
    ·injection h with h; injection h with h1 h2; subst h2; exact Up.refl _
    ·split at h
     ·replace h := (Zo h).2
      split at h
      ·rename_i hw; injection h with h; injection h with h1 h2; subst h2; exact ((ZR hw).trans Zsk).trans (Zam _)
      ·cases h
      ·rename_i hw
       split at h
       ·split at h
        ·replace h := (Zo h).2
         injection h with h; injection h with h1 h2; subst h2; exact (ZR hw).trans Zsk
        ·cases h
       ·cases h
     ·cases h
    ·cases h
   ·cases h
  ·cases h
 ·unfold ZpN at h
  split at h
  ·rename_i k hl
   have hA : args = #[.pointer (some ⟨k, 0, none⟩)] := by rw [← Array.toArray_toList (xs := args), hl]
   subst hA
   split at h
   ·rename_i x q r t hk
    split at h
    ·injection h with h; injection h with h1 h2; subst h1 h2
     obtain ⟨b, C, q1, q2, q3, _⟩ := he.objF k _ _ hk
     obtain ⟨fr1, q2, _⟩ := q2
     have hC1 : C[1]? = some (.slice none 0 0) := by
      have hl := q3.1
      simp only [List.length_cons] at hl
      have h2 : C[1]? = some (C[1]'(by omega)) := Array.getElem?_eq_getElem (by omega)
      rw [h2, (q3.2 1 _ _ rfl h2).eq_of_atom rfl]
     have hA : args' = #[.pointer (some ⟨b.1, 0, none⟩)] := by
      obtain ⟨l⟩ := args'
      match l, ha with
      | [z], ha =>
       have := ha.2 0 _ z rfl rfl
       cases this with
       | atom h => exact (Bool.false_ne_true h).elim
       | ptr h => rw [q1] at h; injection h with h; subst h; rfl
      | [], ha => exact absurd ha.1 (by simp)
      | _ :: _ :: _, ha => exact absurd ha.1 (by simp)
     subst hA
     refine (ZuX q2 hC1).mono ?_
     rintro e w' ⟨rfl, rfl⟩
     exact ⟨_, ι, rfl, Step.still he rfl rfl rfl rfl, Dom.refl, .atom rfl⟩
    ·rename_i j n c
     split at h
     ·rename_i cs t' hj
      replace h := Zo h; obtain ⟨hb2, h⟩ := h
      simp only [Bool.and_eq_true] at hb2
      obtain rfl := Nat.eq_of_beq_eq_true hb2.1
      split at h
      ·rename_i ns s1 hw
       injection h with h; injection h with h1 h2; subst h1 h2
       obtain ⟨w1, w2, _⟩ := ZY hw
       have hq := Zad.1 (ho _ (List.mem_cons_self ..))
       exact Zsl he hk hj hq.1 hq.2.1 hq.2.2.1 hq.2.2.2 ha (by show s1.h.set j none = _; rw [w1]) (by show s1.n = _; rw [w2])
      ·cases h
      ·rename_i s1 hw
       obtain ⟨w1, w2, _⟩ := ZY hw
       split at h
       ·rename_i l htk
        split at h
        ·rename_i ns hns
         replace h := Zo h; obtain ⟨hg, h⟩ := h
         simp only [Bool.and_eq_true] at hg
         injection h with h; injection h with h1 h2; subst h1 h2
         have hbs := ZiA hns
         exact Zsl he hk hj (by rw [htk, hbs]) (Nat.le_of_ble_eq_true hg.1.1) (Nat.le_of_ble_eq_true hg.1.2) (Nat.le_of_ble_eq_true hg.2) ha (by show s1.h.set j none = _; rw [w1]) (by show s1.n = _; rw [w2])
        ·cases h
       ·cases h
     ·cases h
    ·cases h
   ·cases h
  ·cases h
end Ev
end Go.Proofs.YtlbbiflodemagaaDoor
/- Strings cut at a byte: lists of their bytes, and what the library's functions do of them. -/
namespace Go.Proofs
open Go.Shelf Go.RowKit Go.Lib
section
variable {P : Program} {ρ : Ren}
set_option maxHeartbeats 2000000 in
set_option maxRecDepth 100000 in
theorem ZvX (L : Lays.n220 P ρ) (s : ByteArray) (c : UInt8) (w : World) (hs : s.size < 4294967281) :
  Calls P (ρ.f 220) #[.string s, .string ⟨#[c]⟩] w fun e w' => e = .returned (.tuple #[.string ⟨(Lib.cut s.data.toList [c]).1.toArray⟩, .string ⟨(Lib.cut s.data.toList [c]).2.1.toArray⟩, .bool (Lib.cut s.data.toList [c]).2.2]) ∧ ∃ n, w' = w.drewN n := by
 have hone : Lib.indexB s ⟨#[c]⟩ = Lib.indexByte s.data.toList c := Lib.index_one _ _
 rcases Lib.indexB_cases s ⟨#[c]⟩ with hix | ⟨i, hix, hroom⟩
 ·obtain ⟨e1, e2, e3⟩ := Lib.cutB_miss s ⟨#[c]⟩ hix
  rw [show (⟨#[c]⟩ : ByteArray).data.toList = [c] from rfl] at e1 e2 e3
  rw [e1, e2, e3]
  have hix' : Lib.indexByte s.data.toList c = -1 := hone ▸ hix
  have t3 := L.t3; have t4 := L.t4; have t9 := L.t9
  have a3 : ∀ w, (isAgg (ρ.t 3)).run P w = .ok false w := run_isAgg_plain L.t3 rfl; have a4 : ∀ w, (isAgg (ρ.t 4)).run P w = .ok false w := run_isAgg_plain L.t4 rfl; have a9 : ∀ w, (isAgg (ρ.t 9)).run P w = .ok false w := run_isAgg_plain L.t9 rfl
  have e219 : ∀ args w, (callFunc (ρ.f 219) args).run P w = .ok (.enter (ρ.f 219) args) w := enters_of L.f219 (by kernel_rfl) rfl
  have mixed := L.mixed; have z3 := L.z3; have v3 := L.v3; have z4 := L.z4; have v4 := L.v4; have z9 := L.z9; have v9 := L.v9
  go_enter L.f220, Body.n220_ntmps ρ
  go_wp2_with (go_at_fn (ρ.f 219); refine (Any.stringslite_Index_one { L with } _ _ _).mono ?_; rintro e w' ⟨rfl, rfl⟩; rw [hix'])
  go_ret3
  exact ⟨rfl, 0, rfl⟩
 ·obtain ⟨e1, e2, e3⟩ := Lib.cutB_hit s ⟨#[c]⟩ i hix
  rw [show (⟨#[c]⟩ : ByteArray).data.toList = [c] from rfl] at e1 e2 e3
  rw [e1, e2, e3]
  have hix' : Lib.indexByte s.data.toList c = i := hone ▸ hix
  have hz : (⟨#[c]⟩ : ByteArray).size = 1 := rfl
  rw [hz] at hroom ⊢
  have c1 : (0 : Int) ≤ ↑i := by omega
  have c2 : (↑i : Int) ≤ ↑s.size := by omega
  have c3 : (0 : Int) ≤ ↑i + 1 := by omega
  have c4 : (↑i + 1 : Int) ≤ ↑s.size := by omega
  have t3 := L.t3; have t4 := L.t4; have t9 := L.t9
  have a3 : ∀ w, (isAgg (ρ.t 3)).run P w = .ok false w := run_isAgg_plain L.t3 rfl; have a4 : ∀ w, (isAgg (ρ.t 4)).run P w = .ok false w := run_isAgg_plain L.t4 rfl; have a9 : ∀ w, (isAgg (ρ.t 9)).run P w = .ok false w := run_isAgg_plain L.t9 rfl
  have e219 : ∀ args w, (callFunc (ρ.f 219) args).run P w = .ok (.enter (ρ.f 219) args) w := enters_of L.f219 (by kernel_rfl) rfl
  have mixed := L.mixed; have z3 := L.z3; have v3 := L.v3; have z4 := L.z4; have v4 := L.v4; have z9 := L.z9; have v9 := L.v9
  go_enter L.f220, Body.n220_ntmps ρ
  go_wp2_with (go_at_fn (ρ.f 219); refine (Any.stringslite_Index_one { L with } _ _ _).mono ?_; rintro e w' ⟨rfl, rfl⟩; rw [hix'])
  go_region_o
  go_wp2
  go_ret3
  exact ⟨rfl, 1, rfl⟩
set_option maxHeartbeats 1000000 in
theorem Zud (L : Lays.n145 P ρ) (s : ByteArray) (c : UInt8) (w : World) (hs : s.size < 4294967281) :
  Calls P (ρ.f 145) #[.string s, .string ⟨#[c]⟩] w fun e w' => e = .returned (.tuple #[.string ⟨(Lib.cut s.data.toList [c]).1.toArray⟩, .string ⟨(Lib.cut s.data.toList [c]).2.1.toArray⟩, .bool (Lib.cut s.data.toList [c]).2.2]) ∧ ∃ n, w' = w.drewN n := by
 have t4 := L.t4; have t9 := L.t9; have t59 := L.t59
 have a4 : ∀ w, (isAgg (ρ.t 4)).run P w = .ok false w := run_isAgg_plain L.t4 rfl; have a9 : ∀ w, (isAgg (ρ.t 9)).run P w = .ok false w := run_isAgg_plain L.t9 rfl; have a59 : ∀ w, (isAgg (ρ.t 59)).run P w = .ok false w := run_isAgg_plain L.t59 rfl
 have e220 : ∀ args w, (callFunc (ρ.f 220) args).run P w = .ok (.enter (ρ.f 220) args) w := enters_of L.f220 (by kernel_rfl) rfl
 have mixed := L.mixed; have z4 := L.z4; have v4 := L.v4; have z9 := L.z9; have v9 := L.v9; have z59 := L.z59; have v59 := L.v59
 go_enter L.f145, Body.n145_ntmps ρ
 go_wp2_with (go_at_fn (ρ.f 220); refine (ZvX { L with } _ _ _ hs).mono ?_; rintro e w' ⟨rfl, n, rfl⟩)
 go_ret3
 exact ⟨rfl, n, rfl⟩
set_option maxHeartbeats 1000000 in
theorem ZuY (L : Lays.n143 P ρ) (s : ByteArray) (c : UInt8) (w : World) :
  Calls P (ρ.f 143) #[.string s, .string ⟨#[c]⟩] w fun e w' => e = .returned (.int .i64 (Lib.indexB s ⟨#[c]⟩)) ∧ w' = w := by
 have hone : Lib.indexB s ⟨#[c]⟩ = Lib.indexByte s.data.toList c := Lib.index_one _ _
 rw [hone]
 have t3 := L.t3; have t9 := L.t9
 have a3 : ∀ w, (isAgg (ρ.t 3)).run P w = .ok false w := run_isAgg_plain L.t3 rfl; have a9 : ∀ w, (isAgg (ρ.t 9)).run P w = .ok false w := run_isAgg_plain L.t9 rfl
 have e219 : ∀ args w, (callFunc (ρ.f 219) args).run P w = .ok (.enter (ρ.f 219) args) w := enters_of L.f219 (by kernel_rfl) rfl
 have mixed := L.mixed; have z3 := L.z3; have v3 := L.v3; have z9 := L.z9; have v9 := L.v9
 go_enter L.f143, Body.n143_ntmps ρ
 go_wp2_with (go_at_fn (ρ.f 219); refine (Any.stringslite_Index_one { L with } _ _ _).mono ?_; rintro e w' ⟨rfl, rfl⟩)
 go_ret
 exact ⟨rfl, rfl⟩
theorem ZuZ (L : Lays.n138 P ρ) (s : ByteArray) (c : UInt8) (w : World) :
  Calls P (ρ.f 138) #[.string s, .string ⟨#[c]⟩] w fun e w' => e = .returned (.int .i64 (Lib.countB s ⟨#[c]⟩)) ∧ w' = w := by
 refine (Any.strings_Count_one L s c w).mono fun e w' ⟨he, hw⟩ => ⟨?_, hw⟩
 rw [he]
 show _ = Ending.returned (Value.int .i64 ((Lib.count s.data.toList [c] : Nat) : Int))
 rw [Lib.count_one]
 rfl
set_option maxHeartbeats 1000000 in
theorem Zva (L : Lays.n146 P ρ) (hi9 : (P.info? (ρ.t 9)).map (fun i => (i.zero, i.size, i.bytes)) = some (some (.string ByteArray.empty), 1, 16)) (s : ByteArray) (b : UInt8) (w : World) (hs : s.size < 4294967281) :
  Calls P (ρ.f 146) #[.string s, .string ⟨#[b]⟩] w fun e w' =>
   e = .returned (.slice (some ⟨w.heap.size, 0, none⟩) (Lib.countB s ⟨#[b]⟩ + 1) (Lib.countB s ⟨#[b]⟩ + 1)) ∧ w' = w.alloc (.cells ((Lib.splitB ⟨#[b]⟩ 0 (Lib.countB s ⟨#[b]⟩) s).map Value.string).toArray (ρ.t 9)) := by
 have h1 : 1 ≤ (⟨#[b]⟩ : ByteArray).size := Nat.le_refl _
 have hle := Lib.countB_le ⟨#[b]⟩ h1 s.size s (Nat.le_refl _)
 have hlen := Lib.splitB_all ⟨#[b]⟩ h1 0 _ s rfl
 have c := Any.strings_genSplit_core { L with } hi9 s ⟨#[b]⟩ 0 (-1) (Lib.countB s ⟨#[b]⟩ + 1) w hs h1 (Nat.zero_le _)
  (fun x cc _ => ZuY { L with } x b _) (ZuZ { L with } s b w) (by decide) (by decide) (by rw [if_pos (by decide)]; omega)
 rw [Nat.add_sub_cancel, hlen] at c
 have e2 : Lib.cellsOf (Lib.splitB ⟨#[b]⟩ 0 (Lib.countB s ⟨#[b]⟩) s) (Lib.countB s ⟨#[b]⟩ + 1) = ((Lib.splitB ⟨#[b]⟩ 0 (Lib.countB s ⟨#[b]⟩) s).map Value.string).toArray := by rw [← hlen]; exact Lib.cellsOf_full _
 rw [e2] at c
 have t3 := L.t3; have t9 := L.t9; have t31 := L.t31
 have a3 := L.a3; have a9 := L.a9; have a31 := L.a31
 have z3 := L.z3; have v3 := L.v3; have z9 := L.z9; have v9 := L.v9; have z31 := L.z31; have v31 := L.v31
 have e221 : ∀ args w, (callFunc (ρ.f 221) args).run P w = .ok (.enter (ρ.f 221) args) w := enters_of L.f221 (by kernel_rfl) rfl
 go_enter L.f146, Body.n146_ntmps ρ
 go_wp2_with (go_at_fn (ρ.f 221); refine c.mono ?_; rintro e w' ⟨rfl, hw⟩; rw [hw])
 go_ret
 exact ⟨rfl, rfl⟩
end
def YtlbbiflodemagaaDoor.Ev.lays145_ren : Go.Shelf.Ren := ⟨fun | 145 => 58 | 220 => 66 | 219 => 69 | 217 => 75 | 225 => 76 | 224 => 77 | 267 => 78 | 266 => 85 | 314 => 86 | n => n, fun | 9 => 9 | 4 => 4 | 59 => 114 | 3 => 3 | 5 => 5 | 46 => 81 | 146 => 93 | 51 => 92 | n => n, fun | 1 => 1 | n => n⟩
theorem YtlbbiflodemagaaDoor.Ev.lays145 : Go.Proofs.Lays.n145 Tryd.prog YtlbbiflodemagaaDoor.Ev.lays145_ren := {
  mixed := by kernel_rfl
  f145 := Tryd.func58.trans (congrArg some (by kernel_rfl))
  f217 := Tryd.func75.trans (congrArg some (by kernel_rfl))
  f219 := Tryd.func69.trans (congrArg some (by kernel_rfl))
  f220 := Tryd.func66.trans (congrArg some (by kernel_rfl))
  f224 := Tryd.func77.trans (congrArg some (by kernel_rfl))
  f225 := Tryd.func76.trans (congrArg some (by kernel_rfl))
  f266 := Tryd.func85.trans (congrArg some (by kernel_rfl))
  f267 := Tryd.func78.trans (congrArg some (by kernel_rfl))
  f314 := Tryd.func86.trans (congrArg some (by kernel_rfl))
  t3 := Tryd.underlying3
  a3 := Tryd.isAgg3
  z3 := Tryd.sizeOf3
  v3 := Tryd.zeroValue3
  t4 := Tryd.underlying4
  a4 := Tryd.isAgg4
  z4 := Tryd.sizeOf4
  v4 := Tryd.zeroValue4
  t5 := Tryd.underlying5
  a5 := Tryd.isAgg5
  z5 := Tryd.sizeOf5
  v5 := Tryd.zeroValue5
  t9 := Tryd.underlying9
  a9 := Tryd.isAgg9
  z9 := Tryd.sizeOf9
  v9 := Tryd.zeroValue9
  t46 := Tryd.underlying81
  a46 := Tryd.isAgg81
  z46 := Tryd.sizeOf81
  v46 := Tryd.zeroValue81
  t51 := Tryd.underlying92
  a51 := Tryd.isAgg92
  z51 := Tryd.sizeOf92
  v51 := Tryd.zeroValue92
  t59 := Tryd.underlying114
  a59 := Tryd.isAgg114
  z59 := Tryd.sizeOf114
  v59 := Tryd.zeroValue114
  t146 := Tryd.underlying93
  a146 := Tryd.isAgg93
  z146 := Tryd.sizeOf93
  v146 := Tryd.zeroValue93
  g1 := by kernel_rfl }
def YtlbbiflodemagaaDoor.Ev.lays146_ren : Go.Shelf.Ren := ⟨fun | 146 => 60 | 221 => 67 | 268 => 70 | 138 => 71 | 143 => 72 | 195 => 79 | 197 => 80 | 218 => 81 | 219 => 69 | 260 => 87 | 217 => 75 | 225 => 76 | 224 => 77 | 267 => 78 | 266 => 85 | 314 => 86 | n => n, fun | 9 => 9 | 31 => 44 | 3 => 3 | 4 => 4 | 0 => 0 | 105 => 134 | 21 => 21 | 5 => 5 | 46 => 81 | 119 => 144 | 139 => 147 | 138 => 146 | 146 => 93 | 51 => 92 | n => n, fun | 1 => 1 | 3 => 4 | 4 => 5 | n => n⟩
theorem YtlbbiflodemagaaDoor.Ev.lays146 : Go.Proofs.Lays.n146 Tryd.prog YtlbbiflodemagaaDoor.Ev.lays146_ren := {
  mixed := by kernel_rfl
  f138 := Tryd.func71.trans (congrArg some (by kernel_rfl))
  f143 := Tryd.func72.trans (congrArg some (by kernel_rfl))
  f146 := Tryd.func60.trans (congrArg some (by kernel_rfl))
  f195 := Tryd.func79.trans (congrArg some (by kernel_rfl))
  f197 := Tryd.func80.trans (congrArg some (by kernel_rfl))
  f217 := Tryd.func75.trans (congrArg some (by kernel_rfl))
  f218 := Tryd.func81.trans (congrArg some (by kernel_rfl))
  f219 := Tryd.func69.trans (congrArg some (by kernel_rfl))
  f221 := Tryd.func67.trans (congrArg some (by kernel_rfl))
  f224 := Tryd.func77.trans (congrArg some (by kernel_rfl))
  f225 := Tryd.func76.trans (congrArg some (by kernel_rfl))
  f260 := Tryd.func87.trans (congrArg some (by kernel_rfl))
  f266 := Tryd.func85.trans (congrArg some (by kernel_rfl))
  f267 := Tryd.func78.trans (congrArg some (by kernel_rfl))
  f268 := Tryd.func70.trans (congrArg some (by kernel_rfl))
  f314 := Tryd.func86.trans (congrArg some (by kernel_rfl))
  t0 := Tryd.underlying0
  a0 := Tryd.isAgg0
  z0 := Tryd.sizeOf0
  v0 := Tryd.zeroValue0
  t3 := Tryd.underlying3
  a3 := Tryd.isAgg3
  z3 := Tryd.sizeOf3
  v3 := Tryd.zeroValue3
  t4 := Tryd.underlying4
  a4 := Tryd.isAgg4
  z4 := Tryd.sizeOf4
  v4 := Tryd.zeroValue4
  t5 := Tryd.underlying5
  a5 := Tryd.isAgg5
  z5 := Tryd.sizeOf5
  v5 := Tryd.zeroValue5
  t9 := Tryd.underlying9
  a9 := Tryd.isAgg9
  z9 := Tryd.sizeOf9
  v9 := Tryd.zeroValue9
  t21 := Tryd.underlying21
  a21 := Tryd.isAgg21
  z21 := Tryd.sizeOf21
  v21 := Tryd.zeroValue21
  t31 := Tryd.underlying44
  a31 := Tryd.isAgg44
  z31 := Tryd.sizeOf44
  v31 := Tryd.zeroValue44
  t46 := Tryd.underlying81
  a46 := Tryd.isAgg81
  z46 := Tryd.sizeOf81
  v46 := Tryd.zeroValue81
  t51 := Tryd.underlying92
  a51 := Tryd.isAgg92
  z51 := Tryd.sizeOf92
  v51 := Tryd.zeroValue92
  t105 := Tryd.underlying134
  a105 := Tryd.isAgg134
  z105 := Tryd.sizeOf134
  v105 := Tryd.zeroValue134
  t119 := Tryd.underlying144
  a119 := Tryd.isAgg144
  z119 := Tryd.sizeOf144
  t138 := Tryd.underlying146
  a138 := Tryd.isAgg146
  z138 := Tryd.sizeOf146
  v138 := Tryd.zeroValue146
  t139 := Tryd.underlying147
  a139 := Tryd.isAgg147
  z139 := Tryd.sizeOf147
  v139 := Tryd.zeroValue147
  t146 := Tryd.underlying93
  a146 := Tryd.isAgg93
  z146 := Tryd.sizeOf93
  v146 := Tryd.zeroValue93
  g1 := by kernel_rfl
  g3 := by kernel_rfl
  g4 := by kernel_rfl }
def YtlbbiflodemagaaDoor.Ev.lays101_ren : Go.Shelf.Ren := ⟨fun | 101 => 73 | 208 => 82 | 206 => 42 | n => n, fun | 9 => 9 | 4 => 4 | 3 => 3 | n => n, fun | n => n⟩
theorem YtlbbiflodemagaaDoor.Ev.lays101 : Go.Proofs.Lays.n101 Tryd.prog YtlbbiflodemagaaDoor.Ev.lays101_ren := {
  mixed := by kernel_rfl
  f101 := Tryd.func73.trans (congrArg some (by kernel_rfl))
  f206 := Tryd.func42.trans (congrArg some (by kernel_rfl))
  f208 := Tryd.func82.trans (congrArg some (by kernel_rfl))
  t3 := Tryd.underlying3
  a3 := Tryd.isAgg3
  z3 := Tryd.sizeOf3
  v3 := Tryd.zeroValue3
  t4 := Tryd.underlying4
  a4 := Tryd.isAgg4
  z4 := Tryd.sizeOf4
  v4 := Tryd.zeroValue4
  t9 := Tryd.underlying9
  a9 := Tryd.isAgg9
  z9 := Tryd.sizeOf9
  v9 := Tryd.zeroValue9 }
def YtlbbiflodemagaaDoor.Ev.laysC172_ren : Go.Shelf.Ren := ⟨fun | 172 => 74 | 244 => 83 | 245 => 84 | 247 => 88 | 279 => 89 | 280 => 90 | 281 => 91 | 282 => 92 | 287 => 93 | 316 => 94 | 171 => 17 | 205 => 95 | 321 => 96 | 322 => 97 | 243 => 28 | 246 => 35 | 283 => 43 | 284 => 44 | 285 => 45 | 286 => 46 | 129 => 54 | 317 => 53 | 318 => 55 | 319 => 56 | 320 => 57 | 337 => 64 | 338 => 65 | n => n, fun | 9 => 9 | 3 => 3 | 75 => 64 | 76 => 65 | 4 => 4 | 5 => 5 | 167 => 138 | 37 => 40 | 0 => 0 | 85 => 139 | 2 => 2 | 168 => 141 | 53 => 95 | 175 => 148 | 46 => 81 | 210 => 151 | 127 => 79 | 145 => 156 | 143 => 154 | 21 => 21 | 171 => 98 | 173 => 101 | 212 => 109 | 51 => 92 | 20 => 20 | 213 => 110 | 232 => 127 | 233 => 128 | 80 => 67 | n => n, fun | 15 => 6 | 16 => 7 | 17 => 0 | 18 => 2 | 19 => 3 | n => n⟩
theorem YtlbbiflodemagaaDoor.Ev.laysC172 : Go.Proofs.LaysC.n172 Tryd.prog YtlbbiflodemagaaDoor.Ev.laysC172_ren := {
  mixed := by kernel_rfl
  f129 := Tryd.func54.trans (congrArg some (by kernel_rfl))
  f171 := Tryd.func17.trans (congrArg some (by kernel_rfl))
  f172 := Tryd.func74.trans (congrArg some (by kernel_rfl))
  f205 := Tryd.func95.trans (congrArg some (by kernel_rfl))
  f243 := Tryd.func28.trans (congrArg some (by kernel_rfl))
  f244 := Tryd.func83.trans (congrArg some (by kernel_rfl))
  f245 := Tryd.func84.trans (congrArg some (by kernel_rfl))
  f246 := Tryd.func35.trans (congrArg some (by kernel_rfl))
  f247 := Tryd.func88.trans (congrArg some (by kernel_rfl))
  f279 := Tryd.func89.trans (congrArg some (by kernel_rfl))
  f280 := Tryd.func90.trans (congrArg some (by kernel_rfl))
  f281 := Tryd.func91.trans (congrArg some (by kernel_rfl))
  f282 := Tryd.func92.trans (congrArg some (by kernel_rfl))
  f283 := Tryd.func43.trans (congrArg some (by kernel_rfl))
  f284 := Tryd.func44.trans (congrArg some (by kernel_rfl))
  f285 := Tryd.func45.trans (congrArg some (by kernel_rfl))
  f286 := Tryd.func46.trans (congrArg some (by kernel_rfl))
  f287 := Tryd.func93.trans (congrArg some (by kernel_rfl))
  f316 := Tryd.func94.trans (congrArg some (by kernel_rfl))
  f317 := Tryd.func53.trans (congrArg some (by kernel_rfl))
  f318 := Tryd.func55.trans (congrArg some (by kernel_rfl))
  f319 := Tryd.func56.trans (congrArg some (by kernel_rfl))
  f320 := Tryd.func57.trans (congrArg some (by kernel_rfl))
  f321 := Tryd.func96.trans (congrArg some (by kernel_rfl))
  f322 := Tryd.func97.trans (congrArg some (by kernel_rfl))
  f337 := Tryd.func64.trans (congrArg some (by kernel_rfl))
  f338 := Tryd.func65.trans (congrArg some (by kernel_rfl))
  t0 := Tryd.underlying0
  a0 := Tryd.isAgg0
  z0 := Tryd.sizeOf0
  v0 := Tryd.zeroValue0
  t2 := Tryd.underlying2
  a2 := Tryd.isAgg2
  z2 := Tryd.sizeOf2
  v2 := Tryd.zeroValue2
  t3 := Tryd.underlying3
  a3 := Tryd.isAgg3
  z3 := Tryd.sizeOf3
  v3 := Tryd.zeroValue3
  t4 := Tryd.underlying4
  a4 := Tryd.isAgg4
  z4 := Tryd.sizeOf4
  v4 := Tryd.zeroValue4
  t5 := Tryd.underlying5
  a5 := Tryd.isAgg5
  z5 := Tryd.sizeOf5
  v5 := Tryd.zeroValue5
  t9 := Tryd.underlying9
  a9 := Tryd.isAgg9
  z9 := Tryd.sizeOf9
  v9 := Tryd.zeroValue9
  t20 := Tryd.underlying20
  a20 := Tryd.isAgg20
  z20 := Tryd.sizeOf20
  v20 := Tryd.zeroValue20
  t21 := Tryd.underlying21
  a21 := Tryd.isAgg21
  z21 := Tryd.sizeOf21
  v21 := Tryd.zeroValue21
  t37 := Tryd.underlying40
  a37 := Tryd.isAgg40
  z37 := Tryd.sizeOf40
  v37 := Tryd.zeroValue40
  t46 := Tryd.underlying81
  a46 := Tryd.isAgg81
  z46 := Tryd.sizeOf81
  v46 := Tryd.zeroValue81
  t51 := Tryd.underlying92
  a51 := Tryd.isAgg92
  z51 := Tryd.sizeOf92
  v51 := Tryd.zeroValue92
  t53 := Tryd.underlying95
  a53 := Tryd.isAgg95
  z53 := Tryd.sizeOf95
  v53 := Tryd.zeroValue95
  t75 := Tryd.underlying64
  a75 := Tryd.isAgg64
  z75 := Tryd.sizeOf64
  v75 := Tryd.zeroValue64
  t76 := Tryd.underlying65
  a76 := Tryd.isAgg65
  z76 := Tryd.sizeOf65
  v76 := Tryd.zeroValue65
  t85 := Tryd.underlying139
  a85 := Tryd.isAgg139
  z85 := Tryd.sizeOf139
  v85 := Tryd.zeroValue139
  t127 := Tryd.underlying79
  a127 := Tryd.isAgg79
  z127 := Tryd.sizeOf79
  v127 := Tryd.zeroValue79
  t143 := Tryd.underlying154
  a143 := Tryd.isAgg154
  z143 := Tryd.sizeOf154
  v143 := Tryd.zeroValue154
  t145 := Tryd.underlying156
  a145 := Tryd.isAgg156
  z145 := Tryd.sizeOf156
  v145 := Tryd.zeroValue156
  t167 := Tryd.underlying138
  a167 := Tryd.isAgg138
  z167 := Tryd.sizeOf138
  v167 := Tryd.zeroValue138
  t168 := Tryd.underlying141
  a168 := Tryd.isAgg141
  z168 := Tryd.sizeOf141
  v168 := Tryd.zeroValue141
  t171 := Tryd.underlying98
  a171 := Tryd.isAgg98
  z171 := Tryd.sizeOf98
  v171 := Tryd.zeroValue98
  t173 := Tryd.underlying101
  a173 := Tryd.isAgg101
  z173 := Tryd.sizeOf101
  v173 := Tryd.zeroValue101
  t175 := Tryd.underlying148
  a175 := Tryd.isAgg148
  z175 := Tryd.sizeOf148
  v175 := Tryd.zeroValue148
  t210 := Tryd.underlying151
  a210 := Tryd.isAgg151
  z210 := Tryd.sizeOf151
  v210 := Tryd.zeroValue151
  t212 := Tryd.underlying109
  a212 := Tryd.isAgg109
  z212 := Tryd.sizeOf109
  v212 := Tryd.zeroValue109
  t213 := Tryd.underlying110
  a213 := Tryd.isAgg110
  z213 := Tryd.sizeOf110
  t232 := Tryd.underlying127
  a232 := Tryd.isAgg127
  z232 := Tryd.sizeOf127
  v232 := Tryd.zeroValue127
  t233 := Tryd.underlying128
  a233 := Tryd.isAgg128
  z233 := Tryd.sizeOf128
  v233 := Tryd.zeroValue128
  g15 := by kernel_rfl
  g16 := by kernel_rfl
  g17 := by kernel_rfl
  g18 := by kernel_rfl
  g19 := by kernel_rfl
  t80 := Tryd.underlying67
  a80 := Tryd.isAgg67
  z80 := Tryd.sizeOf67
  v80 := Tryd.zeroValue67
  i0 := by kernel_rfl
  i2 := by kernel_rfl
  i3 := by kernel_rfl
  i4 := by kernel_rfl
  i5 := by kernel_rfl
  i9 := by kernel_rfl
  i20 := by kernel_rfl
  i21 := by kernel_rfl
  i37 := by kernel_rfl
  i46 := by kernel_rfl
  i51 := by kernel_rfl
  i53 := by kernel_rfl
  i75 := by kernel_rfl
  i76 := by kernel_rfl
  i80 := by kernel_rfl
  i85 := by kernel_rfl
  i127 := by kernel_rfl
  i143 := by kernel_rfl
  i145 := by kernel_rfl
  i167 := by kernel_rfl
  i168 := by kernel_rfl
  i171 := by kernel_rfl
  i173 := by kernel_rfl
  i175 := by kernel_rfl
  i210 := by kernel_rfl
  i212 := by kernel_rfl
  i232 := by kernel_rfl
  i233 := by kernel_rfl
  m15 := by kernel_rfl
  m16 := by kernel_rfl
  m17 := by kernel_rfl
  m18 := by kernel_rfl
  m19 := by kernel_rfl
  c0 := by kernel_rfl
  c2 := by kernel_rfl
  c3 := by kernel_rfl
  c4 := by kernel_rfl
  c5 := by kernel_rfl
  c9 := by kernel_rfl
  c20 := by kernel_rfl
  c21 := by kernel_rfl
  c37 := by kernel_rfl
  c46 := by kernel_rfl
  c51 := by kernel_rfl
  c53 := by kernel_rfl
  c75 := by kernel_rfl
  c76 := by kernel_rfl
  c80 := by kernel_rfl
  c85 := by kernel_rfl
  c127 := by kernel_rfl
  c143 := by kernel_rfl
  c145 := by kernel_rfl
  c167 := by kernel_rfl
  c168 := by kernel_rfl
  c171 := by kernel_rfl
  c173 := by kernel_rfl
  c175 := by kernel_rfl
  c210 := by kernel_rfl
  c212 := by kernel_rfl
  c213 := by kernel_rfl
  c232 := by kernel_rfl
  c233 := by kernel_rfl }
end Go.Proofs
namespace Go.Proofs.YtlbbiflodemagaaDoor
open Go.RowKit
namespace Ev
set_option linter.unusedVariables false
def ZP (l : List Int) : Bool := l.all fun n => decide (0 ≤ n) && decide (n ≤ 255)
theorem Zgw {l : List Int} (h : ZP l = true) {n : Int} (hn : n ∈ l) : 0 ≤ n ∧ n ≤ 255 := by
 have := List.all_eq_true.1 h n hn
 simpa using this
theorem Ze4 {x : Int} {l : List Int} : ZP (x :: l) = true ↔ (0 ≤ x ∧ x ≤ 255) ∧ ZP l = true := by simp [ZP]
theorem Zue (a b : List Int) : ZP (a ++ b) = (ZP a && ZP b) := by simp [ZP, List.all_append]
def Z4 (c : Int) : List Int → List Int
 | [] => []
 | x :: l => if x = c then [] else x :: Z4 c l
def ZQ (c : Int) : List Int → List Int
 | [] => []
 | x :: l => if x = c then l else ZQ c l
def Zbj (c : Int) : List Int → Bool
 | [] => false
 | x :: l => decide (x = c) || Zbj c l
def ZH (c : Int) : List Int → List (List Int)
 | [] => [[]]
 | x :: l => if x = c then [] :: ZH c l else (x :: (ZH c l).headD []) :: (ZH c l).tail
theorem Zv8 {x : Int} {b : UInt8} (h0 : 0 ≤ x) (h1 : x ≤ 255) : (UInt8.ofNat x.toNat == b) = decide (x = (b.toNat : Int)) := by
 rw [Bool.eq_iff_iff, beq_iff_eq, decide_eq_true_eq]
 constructor
 ·rintro rfl
  rw [UInt8.toNat_ofNat']; omega
 ·intro h
  apply UInt8.toNat.inj
  rw [UInt8.toNat_ofNat']
  have := b.toNat_lt
  omega
theorem Zih {c : Int} : ∀ {M : List Int}, Zbj c M = true → M = Z4 c M ++ c :: ZQ c M
 | [], h => by cases h
 | x :: l, h => by
  unfold Zbj at h
  unfold Z4 ZQ
  by_cases hx : x = c
  ·rw [if_pos hx, if_pos hx, hx]; rfl
  ·rw [if_neg hx, if_neg hx]
   rw [decide_eq_false hx, Bool.false_or] at h
   exact congrArg (x :: ·) (Zih h)
theorem ZjO {b : UInt8} : ∀ {M : List Int}, ZP M = true → Lib.indexByte (u8s M) b = if Zbj b.toNat M then ((Z4 b.toNat M).length : Int) else -1
 | [], _ => rfl
 | x :: l, h => by
  obtain ⟨⟨h0, h1⟩, h2⟩ := Ze4.1 h
  show (if (UInt8.ofNat x.toNat == b) = true then (0 : Int) else if (Lib.indexByte (u8s l) b == -1) = true then -1 else Lib.indexByte (u8s l) b + 1) = _
  rw [Zv8 h0 h1]
  unfold Zbj Z4
  by_cases hx : x = b.toNat
  ·simp [hx]
  ·rw [decide_eq_false hx, if_neg (by simp), Bool.false_or, if_neg hx, ZjO h2]
   cases Zbj (b.toNat : Int) l with
   | false => simp
   | true =>
    simp only [if_true]
    rw [if_neg (by rw [beq_iff_eq]; omega)]
    simp
theorem ZvY {b : UInt8} {M : List Int} (hb : ZP M = true) (h : Zbj b.toNat M = true) : Lib.cut (u8s M) [b] = (u8s (Z4 b.toNat M), u8s (ZQ b.toNat M), true) := by
 have hi := ZjO (b := b) hb
 rw [h, if_pos rfl] at hi
 unfold Lib.cut
 rw [Lib.index_one, hi, if_pos (by omega)]
 have e := Zih h
 have e2 : u8s M = u8s (Z4 b.toNat M) ++ (UInt8.ofNat (b.toNat : Int).toNat :: u8s (ZQ b.toNat M)) := by
  conv => lhs; rw [e]
  rw [ZlT]; rfl
 have hl : (u8s (Z4 b.toNat M)).length = (Z4 b.toNat M).length := by unfold u8s; rw [List.length_map]
 rw [Int.toNat_natCast, e2, ← hl]
 refine Prod.ext ?_ (Prod.ext ?_ rfl)
 ·simp
 ·show List.drop ((u8s (Z4 b.toNat M)).length + 1) _ = _
  rw [List.drop_append]
  simp
theorem ZvZ {b : UInt8} {M : List Int} (hb : ZP M = true) (h : Zbj b.toNat M = false) : Lib.cut (u8s M) [b] = (u8s M, [], false) := by
 have hi := ZjO (b := b) hb
 rw [h] at hi
 unfold Lib.cut
 rw [Lib.index_one, hi]
 rfl
theorem Zhr {c : Int} : ∀ {M : List Int}, ZP M = true → ZP (Z4 c M) = true ∧ ZP (ZQ c M) = true
 | [], _ => ⟨rfl, rfl⟩
 | x :: l, h => by
  obtain ⟨h1, h2⟩ := Ze4.1 h
  obtain ⟨i1, i2⟩ := Zhr (c := c) h2
  unfold Z4 ZQ
  by_cases hx : x = c
  ·rw [if_pos hx, if_pos hx]; exact ⟨rfl, h2⟩
  ·rw [if_neg hx, if_neg hx]; exact ⟨Ze4.2 ⟨h1, i1⟩, i2⟩
theorem ZrF (c x : Int) (l : List Int) : ZH c (x :: l) = if x = c then [] :: ZH c l else (x :: (ZH c l).headD []) :: (ZH c l).tail := rfl
theorem ZnC {c : Int} : ∀ {M : List Int}, Zbj c M = false → ZH c M = [M]
 | [], _ => rfl
 | x :: l, h => by
  unfold Zbj at h
  rw [Bool.or_eq_false_iff] at h
  unfold ZH
  rw [if_neg (of_decide_eq_false h.1), ZnC h.2]
  rfl
theorem ZnD {c : Int} : ∀ {M : List Int}, Zbj c M = true → ZH c M = Z4 c M :: ZH c (ZQ c M)
 | [], h => by cases h
 | x :: l, h => by
  unfold Zbj at h
  rw [ZrF]
  unfold Z4 ZQ
  by_cases hx : x = c
  ·rw [if_pos hx, if_pos hx, if_pos hx]
  ·rw [decide_eq_false hx, Bool.false_or] at h
   rw [if_neg hx, if_neg hx, if_neg hx, ZnD h]
   rfl
theorem Zvb {c : Int} {M : List Int} (h : Zbj c M = true) : (ZQ c M).length < M.length := by
 have := congrArg List.length (Zih h)
 simp only [List.length_append, List.length_cons] at this
 omega
theorem ZbW (l : List Int) : (Za l).data.toList = u8s l := by rw [Zcs]
theorem Zjj (l : List Int) : (Za l).size = l.length := by
 show (Za l).data.size = l.length
 rw [Zcs]; simp [u8s]
theorem Zly {x y : ByteArray} (h : x.data.toList = y.data.toList) : x = y := ByteArray.ext (Array.toList_inj.1 h)
theorem Zuf {b : UInt8} : ∀ (n : Nat) (M : List Int), M.length ≤ n → ZP M = true → Lib.splitB ⟨#[b]⟩ 0 (Lib.countB (Za M) ⟨#[b]⟩) (Za M) = (ZH b.toNat M).map Za ∧ Lib.countB (Za M) ⟨#[b]⟩ + 1 = (ZH b.toNat M).length := by
 have h1 : 1 ≤ (⟨#[b]⟩ : ByteArray).size := Nat.le_refl _
 intro n
 induction n with
 | zero =>
  intro M hM hb
  have : M = [] := List.length_eq_zero_iff.1 (by omega)
  subst this
  have hi : Lib.indexB (Za []) ⟨#[b]⟩ = -1 := by
   show Lib.index (Za []).data.toList [b] = -1
   rw [Lib.index_one, ZbW, ZjO rfl]; rfl
  rw [Lib.countB_miss _ _ hi]
  exact ⟨rfl, rfl⟩
 | succ n ih =>
  intro M hM hb
  have hx : Lib.indexB (Za M) ⟨#[b]⟩ = if Zbj b.toNat M then ((Z4 b.toNat M).length : Int) else -1 := by
   show Lib.index (Za M).data.toList [b] = _
   rw [Lib.index_one, ZbW, ZjO hb]
  cases hh : Zbj b.toNat M with
  | false =>
   rw [hh] at hx
   rw [Lib.countB_miss _ _ hx, ZnC hh]
   exact ⟨rfl, rfl⟩
  | true =>
   rw [hh, if_pos rfl] at hx
   have e := Zih hh
   have hl := Zvb hh
   have d : (Za M).data.toList = u8s (Z4 b.toNat M) ++ (UInt8.ofNat (b.toNat : Int).toNat :: u8s (ZQ b.toNat M)) := by
    rw [ZbW]
    conv => lhs; rw [e]
    rw [ZlT]; rfl
   have hbl : (u8s (Z4 b.toNat M)).length = (Z4 b.toNat M).length := by unfold u8s; rw [List.length_map]
   have q1 : (Za M).extract 0 ((Z4 b.toNat M).length + 0) = Za (Z4 b.toNat M) := by
    apply Zly
    rw [Nat.add_zero, Lib.extract_from_zero, d, ZbW, ← hbl]
    simp
   have q2 : (Za M).extract ((Z4 b.toNat M).length + (⟨#[b]⟩ : ByteArray).size) (Za M).size = Za (ZQ b.toNat M) := by
    apply Zly
    rw [Lib.extract_to_end, d, ZbW, ← hbl]
    show List.drop ((u8s (Z4 b.toNat M)).length + 1) _ = _
    rw [List.drop_append]
    simp
   obtain ⟨i1, i2⟩ := ih (ZQ b.toNat M) (by omega) (Zhr hb).2
   rw [Lib.countB_hit _ _ _ h1 hx, Nat.add_comm 1, Lib.splitB_hit _ _ _ _ _ hx, q1, q2, ZnD hh, List.map_cons, List.length_cons, i1, ← i2]
   exact ⟨rfl, rfl⟩
def ZlW (x : ByteArray) : List Int := x.data.toList.map fun u => (u.toNat : Int)
theorem Ztb (x : ByteArray) : ZP (ZlW x) = true := by
 unfold ZP ZlW
 rw [List.all_eq_true]
 intro n hn
 obtain ⟨u, _, rfl⟩ := List.mem_map.1 hn
 have := u.toNat_lt
 simp only [Bool.and_eq_true, decide_eq_true_eq]
 omega
theorem Zug (x : ByteArray) : x = Za (ZlW x) := by
 apply Zly
 rw [ZbW]
 unfold u8s ZlW
 rw [List.map_map]
 have : ∀ l : List UInt8, l.map ((fun n : Int => UInt8.ofNat n.toNat) ∘ fun u : UInt8 => (u.toNat : Int)) = l := fun l => by
  induction l with
  | nil => rfl
  | cons a l ih => rw [List.map_cons, ih]; simp
 rw [this]
def Zjy : Nat → List Int → Nat
 | acc, [] => acc
 | acc, x :: l => Zjy (acc * 10 + (x - 48).toNat) l
def ZK : List Int → Int
 | [] => 0
 | x :: l => if x = 45 then -(Zjy 0 l : Int) else (Zjy 0 (x :: l) : Int)
def Zbw (M : List Int) : Bool := decide (M = Ze (ZK M)) && (decide (-10000000000000 < ZK M) && decide (ZK M < 10000000000000))
noncomputable section
def Ztc (y : ByteArray) : Option UInt8 := match y.data.toList with | [c] => some c | _ => none
def ZnE (x : ByteArray) (s : St) : Option (List Int × St) :=
 match s.nextW with
 | (some (.bs M), s1) => some (M, s1.told (dP (x = Za M ∧ ZP M = true ∧ M.length ≤ 1000000)))
 | (some _, _) => none
 | (none, s1) => bif Nat.ble (ZlW x).length 1000000 then some (ZlW x, s1) else none
def Ztd (args : Array Value) (s : St) : Out :=
 match args.toList with
 | [.string x, .string y] => match Ztc y with
  | some b => match ZnE x s with
   | some (M, s1) => match s1.tst (Zbj (b.toNat : Int) M) with
    | (true, s2) => some (.tuple #[.string (Za (Z4 (b.toNat : Int) M)), .string (Za (ZQ (b.toNat : Int) M)), .bool true], s2)
    | (false, s2) => some (.tuple #[.string (Za M), .string ByteArray.empty, .bool false], s2)
   | none => none
  | none => none
 | _ => none
def ZnF (args : Array Value) (s : St) : Out :=
 match args.toList with
 | [.string x, .string y] => match Ztc y with
  | some b => match ZnE x s with
   | some (M, s1) => some (.slice (some ⟨s1.n, 0, none⟩) (ZH (b.toNat : Int) M).length (ZH (b.toNat : Int) M).length, s1.add ((ZH (b.toNat : Int) M).flatMap fun l => Z6 [.s (Za l)]) 9)
   | none => none
  | none => none
 | _ => none
def Zte (args : Array Value) (s : St) : Out :=
 match args.toList with
 | [.string x] => match ZnE x s with
  | some (M, s1) => match s1.tst (Zbw M) with
   | (true, s2) => some (.tuple #[.int .i64 (ZK M), .bool true], s2)
   | (false, s2) => some (.tuple #[.int .i64 0, .bool false], s2)
  | none => none
 | _ => none
end
theorem ZdH {x : ByteArray} {s s1 : St} {M : List Int} (h : ZnE x s = some (M, s1)) : Up s s1 ∧ s1.h = s.h ∧ s1.n = s.n ∧ ((∀ p ∈ s1.ob, p.1 = p.2) → x = Za M ∧ ZP M = true ∧ M.length ≤ 1000000) := by
 unfold ZnE at h
 split at h
 ·rename_i M' s2 hw
  injection h with h; injection h with h1 h2; subst h1 h2
  obtain ⟨e1, e2, e3⟩ := ZY hw
  exact ⟨(ZR hw).trans (Zam _), e1, e2, fun ho => Zad.1 (ho _ List.mem_cons_self)⟩
 ·cases h
 ·rename_i s2 hw
  obtain ⟨hl, h⟩ := Zo h
  injection h with h; injection h with h1 h2; subst h1 h2
  obtain ⟨e1, e2, e3⟩ := ZY hw
  exact ⟨ZR hw, e1, e2, fun _ => ⟨Zug x, Ztb x, Nat.le_of_ble_eq_true hl⟩⟩
theorem Zgx {s s1 : St} {t b : Bool} (h : s.tst t = (b, s1)) : Up s s1 ∧ s1.h = s.h ∧ s1.n = s.n ∧ ((∀ p ∈ s1.ob, p.1 = p.2) → t = b) ∧ s.ob <:+ s1.ob := by
 have hu := ZeD h
 unfold St.tst at h
 split at h
 ·injection h with h1 h2; subst h1 h2; exact ⟨hu, rfl, rfl, fun _ => rfl, List.suffix_refl _⟩
 ·injection h with h1 h2; subst h1 h2; exact ⟨hu, rfl, rfl, fun _ => rfl, List.suffix_refl _⟩
 ·injection h with h1 h2; subst h1 h2; exact ⟨hu, rfl, rfl, fun ho => ho (t, _) List.mem_cons_self, List.suffix_cons _ _⟩
theorem ZnG {a b : List (Bool × Bool)} (h : a <:+ b) (ho : ∀ p ∈ b, p.1 = p.2) : ∀ p ∈ a, p.1 = p.2 := fun p hp => ho p (h.subset hp)
theorem ZnH {w w' : World} (h : ∃ n, w' = w.drewN n) : Below w.heap.size w w' := by
 obtain ⟨n, rfl⟩ := h
 exact ⟨rfl, rfl, rfl, Nat.le_refl _, fun j hj => rfl⟩
theorem Zpj {y : ByteArray} {b : UInt8} (h : Ztc y = some b) : y = ⟨#[b]⟩ := by
 unfold Ztc at h
 split at h
 ·rename_i c hc
  injection h with h; subst h
  exact Zly hc
 ·cases h
theorem cut_does : Zfk Tryd.prog 58 Ztd := by
  refine ZjM Tryd.func58 rfl (fun args s v s' h => ?_) fun args s v s' h ho => ?_
  · unfold Ztd at h
    split at h
    · split at h
      · split at h
        · rename_i M s1 h1
          split at h
          · rename_i s2 h2; injection h with h; injection h with q1 q2; subst q2; exact (ZdH h1).1.trans (Zgx h2).1
          · rename_i s2 h2; injection h with h; injection h with q1 q2; subst q2; exact (ZdH h1).1.trans (Zgx h2).1
        · cases h
      · cases h
    · cases h
  · unfold Ztd at h
    split at h
    · rename_i x y hl
      have hA : args = #[.string x, .string y] := by rw [← Array.toArray_toList (xs := args), hl]
      subst hA
      split at h
      · rename_i b hb
        obtain rfl := Zpj hb
        have hargs : ∀ (ι : Ren) (args' : Array Value), VRs ι #[.string x, .string ⟨#[b]⟩] args' → args' = #[.string x, .string ⟨#[b]⟩] := fun ι args' ha => Zez ha.1 fun i u z hx1 hy1 => (ha.2 i u z hx1 hy1).eq_of_free (Za5 (p := Zbp) (a := #[.string x, .string ⟨#[b]⟩]) rfl i u hx1)
        split at h
        · rename_i M s1 h1
          obtain ⟨_, e1, e2, e3⟩ := ZdH h1
          split at h
          · rename_i s2 h2
            obtain ⟨_, f1, f2, f3, f4⟩ := Zgx h2
            injection h with h; injection h with q1 q2; subst q1 q2
            obtain ⟨rfl, hM, hlM⟩ := e3 (ZnG f4 ho)
            refine ⟨f1.trans e1, f2.trans e2, rfl, fun ι w args' ha he => ?_⟩
            obtain rfl := hargs ι args' ha
            refine (Zud lays145 (Za M) b w (by rw [Zjj]; omega)).mono ?_
            rintro e w' ⟨rfl, hw⟩
            rw [ZbW, ZvY hM (f3 ho)]
            exact ⟨by simp only [Zcs], ZnH hw⟩
          · rename_i s2 h2
            obtain ⟨_, f1, f2, f3, f4⟩ := Zgx h2
            injection h with h; injection h with q1 q2; subst q1 q2
            obtain ⟨rfl, hM, hlM⟩ := e3 (ZnG f4 ho)
            refine ⟨f1.trans e1, f2.trans e2, rfl, fun ι w args' ha he => ?_⟩
            obtain rfl := hargs ι args' ha
            refine (Zud lays145 (Za M) b w (by rw [Zjj]; omega)).mono ?_
            rintro e w' ⟨rfl, hw⟩
            rw [ZbW, ZvZ hM (f3 ho)]
            exact ⟨by simp only [Zcs]; rfl, ZnH hw⟩
        · cases h
      · cases h
    · cases h
theorem split_does : Zfk Tryd.prog 60 ZnF := by
  refine ⟨fun args s v s' h => ?_, fun args s v s' h ho ι w args' ha he hF => .inl ⟨⟨_, _, Tryd.func60, rfl⟩, ?_⟩⟩
  · unfold ZnF at h
    split at h
    · split at h
      · split at h
        · rename_i M s1 h1
          injection h with h; injection h with q1 q2; subst q2; exact (ZdH h1).1.trans up_add
        · cases h
      · cases h
    · cases h
  · unfold ZnF at h
    split at h
    · rename_i x y hl
      have hA : args = #[.string x, .string y] := by rw [← Array.toArray_toList (xs := args), hl]
      subst hA
      split at h
      · rename_i b hb
        obtain rfl := Zpj hb
        obtain rfl : args' = #[.string x, .string ⟨#[b]⟩] := Zez ha.1 fun i u z hx1 hy1 => (ha.2 i u z hx1 hy1).eq_of_free (Za5 (p := Zbp) (a := #[.string x, .string ⟨#[b]⟩]) rfl i u hx1)
        split at h
        · rename_i M s1 h1
          obtain ⟨_, e1, e2, e3⟩ := ZdH h1
          injection h with h; injection h with q1 q2; subst q1 q2
          obtain ⟨rfl, hM, hlM⟩ := e3 ho
          refine (Zva lays146 (by kernel_rfl) (Za M) b w (by rw [Zjj]; omega)).mono ?_
          rintro e w' ⟨rfl, rfl⟩
          obtain ⟨r1, r2⟩ := Zuf (b := b) M.length M (Nat.le_refl _) hM
          rw [r1, r2]
          have hn : ι s.n = none := hF.2 s.n (Nat.le_refl _) (by show s.n < s1.n + 1; omega)
          have hnf : s.n < 1000000000 := Nat.lt_of_lt_of_le (by show s.n < s1.n + 1; omega) hF.1
          have hcells : ((ZH (b.toNat : Int) M).flatMap fun l => Z6 [.s (Za l)]) = ((ZH (b.toNat : Int) M).map Za).map Value.string := by
            rw [List.map_map]
            generalize ZH (b.toNat : Int) M = W
            induction W with
            | nil => rfl
            | cons a W ih => rw [List.flatMap_cons, ih]; rfl
          have hst := Step.alloc he hnf hn (c := ((ZH (b.toNat : Int) M).map Za).map Value.string) (C := (((ZH (b.toNat : Int) M).map Za).map Value.string).toArray) 9 ⟨by simp, fun i u z hx1 hy1 => by
            rw [List.getElem?_toArray, hx1] at hy1; injection hy1 with hy1; subst hy1
            obtain ⟨q, _, rfl⟩ := List.mem_map.1 (List.mem_of_getElem? hx1)
            exact .atom rfl⟩ (ZH (b.toNat : Int) M).length (fun i hi => by
              rw [show Tryd.prog.info? 9 = _ from rfl] at hi
              have h1 : i.size = 1 := by
                have : (Tryd.prog.info? 9).map (·.size) = some 1 := by kernel_rfl
                rw [hi] at this; simpa using this
              rw [h1]; simp)
          have hh : (s1.add ((ZH (b.toNat : Int) M).flatMap fun l => Z6 [.s (Za l)]) 9).h.get = upd s.h.get s.n (some (.cells (((ZH (b.toNat : Int) M).map Za).map Value.string) 9)) := by
            show (s1.h.set s1.n _).get = _
            rw [Tr.get_set, e1, e2, hcells]
          refine ⟨_, upd ι s.n (some (w.heap.size, (ZH (b.toNat : Int) M).length)), rfl, by rw [hh]; exact hst, fun k hk => ?_, ?_⟩
          · by_cases hk0 : k = s.n
            · exact .inr (.inl ⟨by omega, by show k < s1.n + 1; omega⟩)
            · rw [Zl hk0] at hk; exact .inl hk
          · rw [e2]
            exact .slice (b := (w.heap.size, (ZH (b.toNat : Int) M).length)) Zx (Nat.le_refl _) (Nat.le_refl _) fun _ => .inl (Nat.le_refl _)
        · cases h
      · cases h
    · cases h
end Ev
end Go.Proofs.YtlbbiflodemagaaDoor
/- Numbers. -/
namespace Go.Proofs.YtlbbiflodemagaaDoor
open Go.RowKit
namespace Ev
set_option linter.unusedVariables false
theorem TabW.below {w w' : World} (h : TabW w) (hb : Below w.heap.size w w') : TabW w' := fun x hx => by
 obtain ⟨C, t, fr, h1, h2⟩ := h x hx
 exact ⟨C, t, fr, (hb.block _ (Array.getElem?_eq_some_iff.1 h1).1).trans h1, h2⟩
theorem Zvc (a b : List Int) : ∀ acc, Zjy acc (a ++ b) = Zjy (Zjy acc a) b := by
 induction a with
 | nil => intro acc; rfl
 | cons x a ih => intro acc; exact ih _
theorem ZrG (a b : List UInt8) : ∀ acc, Lib.decFrom acc (a ++ b) = (Lib.decFrom acc a).bind fun m => Lib.decFrom m b := by
 induction a with
 | nil => intro acc; rfl
 | cons x a ih =>
  intro acc
  show (match Lib.digitVal x with | some d => Lib.decFrom (acc * 10 + d) (a ++ b) | none => none) = Option.bind (match Lib.digitVal x with | some d => Lib.decFrom (acc * 10 + d) a | none => none) _
  cases Lib.digitVal x with
  | none => rfl
  | some d => exact ih _
theorem Zpk (d : Nat) (hd : d < 10) (acc : Nat) : Lib.decFrom acc (u8s [((48 + d : Nat) : Int)]) = some (acc * 10 + d) := by
 have h : Lib.digitVal (UInt8.ofNat (48 + d)) = some d := by
  unfold Lib.digitVal
  have : (UInt8.ofNat (48 + d)).toNat = 48 + d := by rw [UInt8.toNat_ofNat']; omega
  rw [this, if_pos (by omega)]
  congr 1; omega
 show (match Lib.digitVal (UInt8.ofNat ((48 + d : Nat) : Int).toNat) with | some d => Lib.decFrom (acc * 10 + d) [] | none => none) = _
 rw [Int.toNat_natCast, h]
 rfl
def Zq7 (u : Nat) (l : List Int) : Prop := u < 10 ^ l.length ∧ 0 < l.length ∧ (l.length = 1 ∨ 10 ^ (l.length - 1) ≤ u) ∧ (∀ x ∈ l, 48 ≤ x ∧ x ≤ 57) ∧ (∀ a, Zjy a l = a * 10 ^ l.length + u) ∧ ∀ a, Lib.decFrom a (u8s l) = some (a * 10 ^ l.length + u)
theorem Zir : ∀ (f u : Nat), 0 < f → u < 10 ^ f → Zq7 u (ZeO f u)
 | 0, u, h, _ => by omega
 | f + 1, u, _, hu => by
  unfold ZeO
  by_cases h10 : u < 10
  ·rw [if_pos h10]
   refine ⟨by simpa using h10, by simp, .inl rfl, fun x hx => ?_, fun a => ?_, fun a => ?_⟩
   ·obtain rfl := List.mem_singleton.1 hx; omega
   ·show a * 10 + (((48 + u : Nat) : Int) - 48).toNat = _
    simp; omega
   ·rw [Zpk u h10 a]; simp
  ·rw [if_neg h10]
   have hf : 0 < f := by
    rcases Nat.eq_zero_or_pos f with rfl | h
    ·simp at hu; omega
    ·exact h
   obtain ⟨i1, i2, i3, i4, i5, i6⟩ := Zir f (u / 10) hf (by rw [Nat.pow_succ] at hu; exact Nat.div_lt_of_lt_mul (by omega))
   generalize ZeO f (u / 10) = l at *
   have hlen : (l ++ [((48 + u % 10 : Nat) : Int)]).length = l.length + 1 := by simp
   refine ⟨?_, by rw [hlen]; omega, .inr ?_, fun x hx => ?_, fun a => ?_, fun a => ?_⟩
   ·rw [hlen, Nat.pow_succ]; omega
   ·rw [hlen, Nat.add_sub_cancel]
    obtain ⟨k, hk⟩ : ∃ k, l.length = k + 1 := ⟨l.length - 1, by omega⟩
    rcases i3 with h1 | h1
    ·rw [h1]; omega
    ·rw [hk] at h1 ⊢
     rw [Nat.add_sub_cancel] at h1
     rw [Nat.pow_succ]; omega
   ·rcases List.mem_append.1 hx with h | h
    ·exact i4 x h
    ·obtain rfl := List.mem_singleton.1 h; omega
   ·rw [Zvc, i5, hlen]
    show (a * 10 ^ l.length + u / 10) * 10 + (((48 + u % 10 : Nat) : Int) - 48).toNat = _
    have : (((48 + u % 10 : Nat) : Int) - 48).toNat = u % 10 := by omega
    rw [this, Nat.pow_succ, ← Nat.mul_assoc, Nat.add_mul]
    omega
   ·rw [ZlT, ZrG, i6, hlen]
    show Lib.decFrom _ (u8s [((48 + u % 10 : Nat) : Int)]) = _
    rw [Zpk _ (by omega), Nat.pow_succ, ← Nat.mul_assoc, Nat.add_mul]
    congr 1
    omega
theorem Zjk {u : Nat} (h : u < 10 ^ 20) : Zq7 u (ZeO 20 u) := Zir 20 u (by decide) h
theorem ZhA {u : Nat} {l : List Int} (h : Zq7 u l) (k : Nat) (hk : 0 < k) : l.length ≤ k ↔ u < 10 ^ k := by
 obtain ⟨h1, h2, h3, _⟩ := h
 constructor
 ·intro hl
  exact Nat.lt_of_lt_of_le h1 (Nat.pow_le_pow_right (by decide) hl)
 ·intro hu
  rcases h3 with h3 | h3
  ·omega
  ·rcases Nat.lt_or_ge k l.length with hl | hl
   ·have := Nat.pow_le_pow_right (n := 10) (by decide) (show k ≤ l.length - 1 by omega)
    omega
   ·exact hl
theorem Zkz {u : Nat} {l : List Int} (h : Zq7 u l) : ∃ x r, l = x :: r ∧ 48 ≤ x ∧ x ≤ 57 := by
 cases l with
 | nil => have := h.2.1; simp at this
 | cons x r => exact ⟨x, r, rfl, h.2.2.2.1 x List.mem_cons_self⟩
theorem ZmV {n : Int} (h0 : -9223372036854775808 ≤ n) (h1 : n ≤ 9223372036854775807) : ZK (Ze n) = n := by
 unfold Ze
 by_cases hn : n < 0
 ·rw [if_pos hn]
  have hd := Zjk (u := n.natAbs) (by omega)
  show (if (45 : Int) = 45 then -(Zjy 0 (ZeO 20 n.natAbs) : Int) else (Zjy 0 (45 :: ZeO 20 n.natAbs) : Int)) = n
  rw [if_pos rfl, hd.2.2.2.2.1 0]
  omega
 ·rw [if_neg hn]
  have hd := Zjk (u := n.toNat) (by omega)
  obtain ⟨x, r, e, hx⟩ := Zkz hd
  have h5 := hd.2.2.2.2.1 0
  rw [e] at h5 ⊢
  show (if x = 45 then _ else (Zjy 0 (x :: r) : Int)) = n
  rw [if_neg (by omega), h5]
  omega
theorem Zpl {u : Nat} {l : List Int} (h : Zq7 u l) : ZP l = true := by
 unfold ZP
 rw [List.all_eq_true]
 intro x hx
 have := h.2.2.2.1 x hx
 simp only [Bool.and_eq_true, decide_eq_true_eq]
 omega
theorem ZnI (n : Int) (h0 : -9223372036854775808 ≤ n) (h1 : n ≤ 9223372036854775807) : ZP (Ze n) = true := by
 unfold Ze
 by_cases hn : n < 0
 ·rw [if_pos hn]; exact Ze4.2 ⟨by omega, Zpl (Zjk (by omega))⟩
 ·rw [if_neg hn]; exact Zpl (Zjk (by omega))
theorem Zsm : ∀ {a b : List Int}, ZP a = true → ZP b = true → u8s a = u8s b → a = b
 | [], [], _, _, _ => rfl
 | [], _ :: _, _, _, h => by simp [u8s] at h
 | _ :: _, [], _, _, h => by simp [u8s] at h
 | x :: a, y :: b, h1, h2, h => by
  obtain ⟨⟨q0, q1⟩, q2⟩ := Ze4.1 h1
  obtain ⟨⟨r0, r1⟩, r2⟩ := Ze4.1 h2
  simp only [u8s, List.map_cons, List.cons.injEq] at h
  have e := congrArg UInt8.toNat h.1
  rw [UInt8.toNat_ofNat', UInt8.toNat_ofNat'] at e
  have : x = y := by omega
  rw [this, Zsm q2 r2 h.2]
theorem Zwa {n : Int} (h0 : -9223372036854775808 ≤ n) (h1 : n ≤ 9223372036854775807) : u8s (Ze n) = Lib.itoa n := by
 have := congrArg (fun x : ByteArray => x.data.toList) (Zov h0 h1)
 simpa [ZbW] using this
def ZjP : List Int → List Int
 | [] => []
 | x :: l => if x = 45 then l else x :: l
theorem Zm8 (n : Int) (h0 : -9223372036854775808 ≤ n) (h1 : n ≤ 9223372036854775807) : ZjP (Ze n) = ZeO 20 n.natAbs := by
 unfold Ze
 by_cases hn : n < 0
 ·rw [if_pos hn]; rfl
 ·rw [if_neg hn]
  have e : n.toNat = n.natAbs := by omega
  obtain ⟨x, r, e2, hx⟩ := Zkz (Zjk (u := n.toNat) (by omega))
  rw [e2]
  show (if x = 45 then r else x :: r) = _
  rw [if_neg (by omega), ← e2, e]
theorem Zuh {n : Int} (h0 : -10000000000000 < n) (h1 : n < 10000000000000) : Lib.atoiAll (u8s (Ze n)) = .ok n := by
 have hd := Zjk (u := n.natAbs) (by omega)
 have hl := (ZhA hd 13 (by decide)).2 (by omega)
 have hu : ∀ l : List Int, (u8s l).length = l.length := fun l => List.length_map ..
 unfold Ze
 by_cases hn : n < 0
 ·rw [if_pos hn, Lib.atoiAll_short _ (by rw [hu]; simp; omega)]
  have h6 := hd.2.2.2.2.2 0
  have hne : (u8s (ZeO 20 n.natAbs)).isEmpty = false := by
   obtain ⟨x, r, e2, _⟩ := Zkz hd
   rw [e2]; rfl
  have : Lib.atoi (u8s (45 :: ZeO 20 n.natAbs)) = (Lib.decNat (u8s (ZeO 20 n.natAbs))).map fun (m : Nat) => -(m : Int) := rfl
  rw [this]
  unfold Lib.decNat
  rw [hne, h6]
  show Lib.NumEnd.ok (-((0 * _ + n.natAbs : Nat) : Int)) = _
  congr 1; omega
 ·have e : n.toNat = n.natAbs := by omega
  rw [if_neg hn, e, Lib.atoiAll_short _ (by rw [hu]; omega)]
  have h6 := hd.2.2.2.2.2 0
  obtain ⟨x, r, e2, hx⟩ := Zkz hd
  rw [e2] at h6 ⊢
  have hb : (UInt8.ofNat x.toNat).toNat = x.toNat := by rw [UInt8.toNat_ofNat']; omega
  have n45 : (UInt8.ofNat x.toNat == 45) = false := beq_eq_false_iff_ne.2 fun h => by have := congrArg UInt8.toNat h; rw [hb] at this; have h45 : (45 : UInt8).toNat = 45 := rfl; omega
  have n43 : (UInt8.ofNat x.toNat == 43) = false := beq_eq_false_iff_ne.2 fun h => by have := congrArg UInt8.toNat h; rw [hb] at this; have h43 : (43 : UInt8).toNat = 43 := rfl; omega
  have : Lib.atoi (u8s (x :: r)) = (Lib.decNat (u8s (x :: r))).map fun (m : Nat) => (m : Int) := by
   show (if (UInt8.ofNat x.toNat == 45) = true then _ else if (UInt8.ofNat x.toNat == 43) = true then _ else _) = _
   rw [n45, n43]; rfl
  rw [this]
  unfold Lib.decNat
  show Lib.NumEnd.ofOption (Option.map _ (if (u8s (x :: r)).isEmpty = true then none else _)) = _
  rw [if_neg (by simp [u8s]), h6]
  show Lib.NumEnd.ok (((0 * _ + n.natAbs : Nat) : Int)) = _
  congr 1; omega
theorem Zjl {M : List Int} : Zbw M = true ↔ ∃ n : Int, -10000000000000 < n ∧ n < 10000000000000 ∧ M = Ze n := by
 unfold Zbw
 simp only [Bool.and_eq_true, decide_eq_true_eq]
 constructor
 ·rintro ⟨h1, h2, h3⟩; exact ⟨_, h2, h3, h1⟩
 ·rintro ⟨n, h1, h2, rfl⟩
  rw [ZmV (by omega) (by omega)]
  exact ⟨rfl, h1, h2⟩
theorem trim_neg {M : List Int} (hb : ZP M = true) : Lib.trimPrefix (u8s M) [45] = u8s (match M with | [] => [] | x :: l => if x = 45 then l else x :: l) := by
  cases M with
  | nil => rfl
  | cons x l =>
    obtain ⟨⟨h0, h1⟩, h2⟩ := Ze4.1 hb
    have h := Zv8 (b := 45) h0 h1
    have e : Lib.trimPrefix (u8s (x :: l)) [45] = if (UInt8.ofNat x.toNat == 45) = true then u8s l else u8s (x :: l) := by
      unfold Lib.trimPrefix Lib.hasPrefix
      show (if ([45].isPrefixOf (UInt8.ofNat x.toNat :: u8s l)) = true then _ else _) = _
      have : ([45] : List UInt8).isPrefixOf (UInt8.ofNat x.toNat :: u8s l) = (UInt8.ofNat x.toNat == 45) := by
        show ((45 : UInt8) == UInt8.ofNat x.toNat && true) = _
        rw [Bool.and_true, BEq.comm]
      rw [this]; rfl
    rw [e, h]
    by_cases hx : x = 45
    · rw [if_pos (by rw [decide_eq_true_eq]; exact hx)]; simp only [hx, if_true]
    · rw [if_neg (by rw [decide_eq_true_eq]; exact hx)]; simp only [hx, if_false]
theorem bytesWorld_below' (w : World) (t : TypeId) (x : _) : Below w.heap.size w (Lib.bytesWorld w t x) := Lib.bytesWorld_below _ _ _
theorem below_atoi {w w' : World} {t : TypeId} (h : w' = w ∨ ∃ x, w' = Lib.bytesWorld w t x) : Below w.heap.size w w' := by
  rcases h with rfl | ⟨x, rfl⟩
  · exact Below.refl _ _
  · exact Lib.bytesWorld_below _ _ _
theorem tabErr {w : World} (h : TabW w) : ∃ ev, w.cell? ⟨6, 0, none⟩ = some ev ∧ (ev = .nilIface ∨ ∃ te pe, ev = .iface te pe) := by
  obtain ⟨C, t, fr, hw, y, hy, hC⟩ := h (6, []) (by simp [tabs])
  exact ⟨y, by rw [Lib.cell_of_heap hw]; exact hy, hC⟩
theorem number_bad (x : ByteArray) (w : World) (h : (Lib.trimPrefix x.data.toList [45]).length < 1 ∨ 13 < (Lib.trimPrefix x.data.toList [45]).length) : Calls Tryd.prog 68 #[.string x] w fun e w' => e = .returned (.tuple #[.int .i64 0, .bool false]) ∧ Below w.heap.size w w' := by
  have hsz : (⟨(Lib.trimPrefix x.data.toList [45]).toArray⟩ : ByteArray).size = (Lib.trimPrefix x.data.toList [45]).length := by simp [ByteArray.size]
  generalize hd : Lib.trimPrefix x.data.toList [45] = d at *
  go_enter Tryd.func68, Tryd.ntmps68
  go_wp2_with fail
  refine (Any.strings_TrimPrefix lays101 _ _ _).mono ?_
  rintro e w1 ⟨rfl, rfl⟩
  rw [show (⟨#[45]⟩ : ByteArray).data.toList = [45] from rfl, hd]
  go_wp2_with fail
  all_goals (first | (go_ret; exact ⟨rfl, Below.refl _ _⟩) | (go_ret2; exact ⟨rfl, Below.refl _ _⟩) | (go_ret3; exact ⟨rfl, Below.refl _ _⟩))
theorem number_syn (x : ByteArray) (w : World) (ht : TabW w) (h0 : 1 ≤ (Lib.trimPrefix x.data.toList [45]).length) (h1 : (Lib.trimPrefix x.data.toList [45]).length ≤ 13) (hx : x.size ≤ 100) (hs1 : ∀ n, Lib.atoiAll x.data.toList ≠ .ok n) (hs2 : Lib.atoiAll x.data.toList ≠ .range) : Calls Tryd.prog 68 #[.string x] w fun e w' => e = .returned (.tuple #[.int .i64 0, .bool false]) ∧ Below w.heap.size w w' := by
  have hsz : (⟨(Lib.trimPrefix x.data.toList [45]).toArray⟩ : ByteArray).size = (Lib.trimPrefix x.data.toList [45]).length := by simp [ByteArray.size]
  obtain ⟨ev, hv, hev⟩ := tabErr ht
  generalize hd : Lib.trimPrefix x.data.toList [45] = d at *
  have h0' : ¬ ((d.length : Int) < 1) := by omega
  have h1' : ¬ (13 < (d.length : Int)) := by omega
  go_enter Tryd.func68, Tryd.ntmps68
  go_wp2_with fail
  refine (Any.strings_TrimPrefix lays101 _ _ _).mono ?_
  rintro e w1 ⟨rfl, rfl⟩
  rw [show (⟨#[45]⟩ : ByteArray).data.toList = [45] from rfl, hd]
  go_wp2_with fail
  all_goals first | (exfalso; omega) | skip
  all_goals (refine (Any.strconv_Atoi_syntax laysC172 x (by omega) (by cases hq : Lib.atoiAll x.data.toList with | ok n => exact absurd hq (hs1 n) | range => exact absurd hq hs2 | _ => rfl) ev _ hv hev).mono ?_)
  all_goals (rintro e w2 ⟨N, rfl, q1, q2, q3⟩)
  all_goals (go_wp2_with fail)
  all_goals (first | (go_ret; exact ⟨rfl, q3⟩) | (go_ret2; exact ⟨rfl, q3⟩) | (go_ret3; exact ⟨rfl, q3⟩))
theorem number_ok (x : ByteArray) (w : World) (ht : TabW w) (h0 : 1 ≤ (Lib.trimPrefix x.data.toList [45]).length) (h1 : (Lib.trimPrefix x.data.toList [45]).length ≤ 13) (hx : x.size ≤ 100) (n : Int) (hs : Lib.atoiAll x.data.toList = .ok n) (he : (⟨(Lib.itoa n).toArray⟩ : ByteArray) = x) : Calls Tryd.prog 68 #[.string x] w fun e w' => e = .returned (.tuple #[.int .i64 n, .bool true]) ∧ Below w.heap.size w w' := by
  have hsz : (⟨(Lib.trimPrefix x.data.toList [45]).toArray⟩ : ByteArray).size = (Lib.trimPrefix x.data.toList [45]).length := by simp [ByteArray.size]
  obtain ⟨b0, b1⟩ := Lib.atoiAll_bounds hs
  generalize hd : Lib.trimPrefix x.data.toList [45] = d at *
  have h0' : ¬ ((d.length : Int) < 1) := by omega
  have h1' : ¬ (13 < (d.length : Int)) := by omega
  have hq : ((⟨(Lib.itoa n).toArray⟩ : ByteArray).toList == x.toList) = true := by rw [he]; exact beq_self_eq_true _
  go_enter Tryd.func68, Tryd.ntmps68
  go_wp2_with fail
  refine (Any.strings_TrimPrefix lays101 _ _ _).mono ?_
  rintro e w1 ⟨rfl, rfl⟩
  rw [show (⟨#[45]⟩ : ByteArray).data.toList = [45] from rfl, hd]
  go_wp2_with fail
  all_goals first | (exfalso; omega) | skip
  all_goals (refine (Any.strconv_Atoi_ok laysC172 x (by omega) n hs _).mono ?_)
  all_goals (rintro e w2 ⟨rfl, q3⟩; have q3 := below_atoi q3)
  all_goals (go_wp2_with fail)
  all_goals (refine (Any.strconv_Itoa lays171 n b0 b1 _ (tabItoa (ht.below q3))).mono ?_; rintro e w3 ⟨rfl, q4⟩; have q4 := Zky q4; have q5 := q3.trans (q4.mono q3.size))
  all_goals (go_wp2_with fail)
  all_goals (first | (go_ret; exact ⟨rfl, q5⟩) | (go_ret2; exact ⟨rfl, q5⟩) | (go_ret3; exact ⟨rfl, q5⟩))
theorem number_no (x : ByteArray) (w : World) (ht : TabW w) (h0 : 1 ≤ (Lib.trimPrefix x.data.toList [45]).length) (h1 : (Lib.trimPrefix x.data.toList [45]).length ≤ 13) (hx : x.size ≤ 100) (n : Int) (hs : Lib.atoiAll x.data.toList = .ok n) (he : (⟨(Lib.itoa n).toArray⟩ : ByteArray) ≠ x) : Calls Tryd.prog 68 #[.string x] w fun e w' => e = .returned (.tuple #[.int .i64 0, .bool false]) ∧ Below w.heap.size w w' := by
  have hsz : (⟨(Lib.trimPrefix x.data.toList [45]).toArray⟩ : ByteArray).size = (Lib.trimPrefix x.data.toList [45]).length := by simp [ByteArray.size]
  obtain ⟨b0, b1⟩ := Lib.atoiAll_bounds hs
  generalize hd : Lib.trimPrefix x.data.toList [45] = d at *
  have h0' : ¬ ((d.length : Int) < 1) := by omega
  have h1' : ¬ (13 < (d.length : Int)) := by omega
  have hq : (Lib.itoa n == x.toList) = false := beq_eq_false_iff_ne.2 fun h => he (Zly (by rw [← Lib.toList_data x, ← h]))
  go_enter Tryd.func68, Tryd.ntmps68
  go_wp2_with fail
  refine (Any.strings_TrimPrefix lays101 _ _ _).mono ?_
  rintro e w1 ⟨rfl, rfl⟩
  rw [show (⟨#[45]⟩ : ByteArray).data.toList = [45] from rfl, hd]
  go_wp2_with fail
  all_goals first | (exfalso; omega) | skip
  all_goals (refine (Any.strconv_Atoi_ok laysC172 x (by omega) n hs _).mono ?_)
  all_goals (rintro e w2 ⟨rfl, q3⟩; have q3 := below_atoi q3)
  all_goals (go_wp2_with fail)
  all_goals (refine (Any.strconv_Itoa lays171 n b0 b1 _ (tabItoa (ht.below q3))).mono ?_; rintro e w3 ⟨rfl, q4⟩; have q4 := Zky q4; have q5 := q3.trans (q4.mono q3.size))
  all_goals (go_wp2_with fail)
  all_goals (first | (go_ret; exact ⟨rfl, q5⟩) | (go_ret2; exact ⟨rfl, q5⟩) | (go_ret3; exact ⟨rfl, q5⟩))
theorem trim_un {M : List Int} (hb : ZP M = true) : Lib.trimPrefix (u8s M) [45] = u8s (ZjP M) := by
  rw [trim_neg hb]
  cases M <;> rfl
theorem num_run {M : List Int} (hb : ZP M = true) (hl : M.length ≤ 1000000) (w : World) (ht : TabW w) : Calls Tryd.prog 68 #[.string (Za M)] w fun e w' => e = .returned (if Zbw M = true then .tuple #[.int .i64 (ZK M), .bool true] else .tuple #[.int .i64 0, .bool false]) ∧ Below w.heap.size w w' := by
  have hu : ∀ l : List Int, (u8s l).length = l.length := fun l => List.length_map ..
  have htr : (Lib.trimPrefix (Za M).data.toList [45]).length = (ZjP M).length := by rw [ZbW, trim_un hb, hu]
  have hun : M.length ≤ (ZjP M).length + 1 := by
    cases M with
    | nil => simp
    | cons x l =>
      show l.length + 1 ≤ (if x = 45 then l else x :: l).length + 1
      split <;> simp
  by_cases hbad : (ZjP M).length < 1 ∨ 13 < (ZjP M).length
  · have hno : ¬ Zbw M = true := fun h => by
      obtain ⟨n, n1, n2, rfl⟩ := Zjl.1 h
      have hd := Zjk (u := n.natAbs) (by omega)
      rw [Zm8 n (by omega) (by omega)] at hbad
      have := (ZhA hd 13 (by decide)).2 (by omega)
      have := hd.2.1
      omega
    rw [if_neg hno]
    exact number_bad _ w (by rw [htr]; exact hbad)
  · have hsz : (Za M).size ≤ 100 := by rw [Zjj]; omega
    have g0 : 1 ≤ (Lib.trimPrefix (Za M).data.toList [45]).length := by rw [htr]; omega
    have g1 : (Lib.trimPrefix (Za M).data.toList [45]).length ≤ 13 := by rw [htr]; omega
    by_cases hnum : Zbw M = true
    · rw [if_pos hnum]
      obtain ⟨n, n1, n2, rfl⟩ := Zjl.1 hnum
      rw [ZmV (by omega) (by omega)]
      exact number_ok _ w ht g0 g1 hsz n (by rw [ZbW]; exact Zuh n1 n2) (Zov (by omega) (by omega)).symm
    · rw [if_neg hnum]
      rcases ha : Lib.atoiAll (Za M).data.toList with n | _ | _
      ·
        refine number_no _ w ht g0 g1 hsz n ha fun he => hnum ?_
        obtain ⟨b0, b1⟩ := Lib.atoiAll_bounds ha
        have e1 : u8s M = u8s (Ze n) := by
          have := congrArg (fun x : ByteArray => x.data.toList) he
          rw [ZbW] at this
          rw [Zwa b0 b1]
          exact this.symm
        have e2 := Zsm hb (ZnI n b0 b1) e1
        subst e2
        have hd := Zjk (u := n.natAbs) (by omega)
        rw [Zm8 n b0 b1] at hbad
        have := (ZhA hd 13 (by decide)).1 (by omega)
        exact Zjl.2 ⟨n, by omega, by omega, rfl⟩
      · exact number_syn _ w ht g0 g1 hsz (fun n e => by rw [ha] at e; cases e) (fun e => by rw [ha] at e; cases e)
      ·
        rw [Lib.atoiAll_short _ (by rw [ZbW, hu]; omega)] at ha
        cases hq : Lib.atoi (Za M).data.toList <;> rw [hq] at ha <;> cases ha
theorem num_does : Zfk Tryd.prog 68 Zte := by
  refine ZjM Tryd.func68 rfl (fun args s v s' h => ?_) fun args s v s' h ho => ?_
  · unfold Zte at h
    split at h
    · split at h
      · rename_i M s1 h1
        split at h
        · rename_i s2 h2; injection h with h; injection h with q1 q2; subst q2; exact (ZdH h1).1.trans (Zgx h2).1
        · rename_i s2 h2; injection h with h; injection h with q1 q2; subst q2; exact (ZdH h1).1.trans (Zgx h2).1
      · cases h
    · cases h
  · unfold Zte at h
    split at h
    · rename_i x hl
      have hA : args = #[.string x] := by rw [← Array.toArray_toList (xs := args), hl]
      subst hA
      have hargs : ∀ (ι : Ren) (args' : Array Value), VRs ι #[.string x] args' → args' = #[.string x] := fun ι args' ha => Zez ha.1 fun i u z hx1 hy1 => (ha.2 i u z hx1 hy1).eq_of_free (Za5 (p := Zbp) (a := #[.string x]) rfl i u hx1)
      split at h
      · rename_i M s1 h1
        obtain ⟨_, e1, e2, e3⟩ := ZdH h1
        split at h
        · rename_i s2 h2
          obtain ⟨_, f1, f2, f3, f4⟩ := Zgx h2
          injection h with h; injection h with q1 q2; subst q1 q2
          obtain ⟨rfl, hM, hlM⟩ := e3 (ZnG f4 ho)
          refine ⟨f1.trans e1, f2.trans e2, rfl, fun ι w args' ha he => ?_⟩
          obtain rfl := hargs ι args' ha
          have := num_run hM hlM w he.tabw
          rw [if_pos (f3 ho)] at this
          exact this
        · rename_i s2 h2
          obtain ⟨_, f1, f2, f3, f4⟩ := Zgx h2
          injection h with h; injection h with q1 q2; subst q1 q2
          obtain ⟨rfl, hM, hlM⟩ := e3 (ZnG f4 ho)
          refine ⟨f1.trans e1, f2.trans e2, rfl, fun ι w args' ha he => ?_⟩
          obtain rfl := hargs ι args' ha
          have := num_run hM hlM w he.tabw
          rw [if_neg (by rw [f3 ho]; simp)] at this
          exact this
      · cases h
    · cases h
end Ev
end Go.Proofs.YtlbbiflodemagaaDoor
/- The runner over this program. -/
namespace Go.Proofs.YtlbbiflodemagaaDoor
open Go.RowKit
namespace Ev

def Ztf : FuncId → Option Ext := fun f =>
   none

theorem noGo : (Tryd.prog.funcs.toList.all fun fn => !(fn.name == "runtime.NumGoroutine")) = true := by kernel_rfl
theorem mixed : Tryd.prog.follows .mixedOrders = true := by kernel_rfl
def Zq8 (sp : FuncId → Option (List Value → Option Value)) (hp : FuncId → Option (Array Value → St → Out)) : FuncId → Option Ext := fun f => match Ztf f with
  | some e => some e
  | none => match sp f with
    | some g => some (.fn g)
    | none => match hp f with
      | some g => some (.hp g)
      | none => none
def ZnJ (sp : FuncId → Option (List Value → Option Value)) : Prop := ∀ (f : Nat) (g : List Value → Option Value), sp f = some g → (∃ (fn : Func) (c : Code), Tryd.prog.funcs[f]? = some fn ∧ fn.body = some c) ∧
  ∀ (args : Array Value) (v : Value), Z7 Zbp args.toList = true → g args.toList = some v → ∀ w, TabW w → Calls Tryd.prog f args w fun e w' => e = .returned v ∧ Below w.heap.size w w'
def Zq9 (hp : FuncId → Option (Array Value → St → Out)) : Prop := ∀ (f : Nat) (g : Array Value → St → Out), hp f = some g → Zfk Tryd.prog f g
theorem ZjQ {f : Nat} {e : Ext} (he : Ztf f = some e) : (∀ (kk : IntKind) (c : Nat), e = .at kk c → ∃ fn : Func, Tryd.prog.funcs[f]? = some fn ∧ fn.body.isNone = true ∧ Extern.findNext fn = none ∧
    (c = 0 ∧ Extern.find fn = some (Extern.Atomic.loadT (.int kk)) ∨ c = 1 ∧ Extern.find fn = some Extern.Atomic.storeT ∨
     c = 2 ∧ Extern.find fn = some (Extern.Atomic.update (Op.intArith .add) kk true) ∨ c = 3 ∧ Extern.find fn = some (Extern.Atomic.casT (.int kk)))) ∧
    (∀ n : Nat, e = .mark n → ∃ fn : Func, Tryd.prog.funcs[f]? = some fn ∧ fn.body.isNone = true ∧ Extern.findNext fn = none ∧
    (n = 0 ∧ (∃ m : Mark, Extern.find fn = some (fun _ => do mark m; pure Extern.Race.none_)) ∨ n = 1 ∧ ∃ m : Addr → Mark, Extern.find fn = some (Extern.Race.marked m))) ∧ (∀ g, e ≠ .fn g) ∧ (∀ g, e ≠ .hp g) ∧ (∀ S, e ≠ .tc S) := by
  unfold Ztf at he
  cases he
theorem ZgA {sp : FuncId → Option (List Value → Option Value)} {hp : FuncId → Option (Array Value → St → Out)} {f : Nat} {e : Ext} (h : Zq8 sp hp f = some e) : Ztf f = some e ∨ (∃ g, sp f = some g ∧ e = .fn g) ∨ ∃ g, hp f = some g ∧ e = .hp g := by
  unfold Zq8 at h
  split at h
  · rename_i e' he'
    injection h with h; subst h
    exact .inl he'
  · split at h
    · rename_i g hg
      injection h with h; subst h
      exact .inr (.inl ⟨g, hg, rfl⟩)
    · split at h
      · rename_i g hg
        injection h with h; subst h
        exact .inr (.inr ⟨g, hg, rfl⟩)
      · cases h
theorem fitH {sp : FuncId → Option (List Value → Option Value)} {hp : FuncId → Option (Array Value → St → Out)} (hsp : ZnJ sp) (hhp : Zq9 hp) : Fit Tryd.prog (Zq8 sp hp) := by
  refine ⟨mixed, fun f fn hf => ?_, fun f g hg => ?_, fun f g hg => ?_, fun f S hS => ?_, fun f n hn => ?_, fun f kk e he => ?_⟩
  · have := List.all_eq_true.1 noGo fn (by
      obtain ⟨h, rfl⟩ := Array.getElem?_eq_some_iff.1 hf
      simp)
    simpa using this
  · rcases ZgA hg with h | ⟨g', h, hx⟩ | ⟨g', h, hx⟩
    · exact ((ZjQ h).2.2.1 g rfl).elim
    · injection hx with hx; subst hx; exact hsp f g h
    · cases hx
  · rcases ZgA hg with h | ⟨g', h, hx⟩ | ⟨g', h, hx⟩
    · exact ((ZjQ h).2.2.2.1 g rfl).elim
    · cases hx
    · injection hx with hx; subst hx; exact hhp f g h
  · rcases ZgA hS with h | ⟨g', h, hx⟩ | ⟨g', h, hx⟩
    · exact ((ZjQ h).2.2.2.2 S rfl).elim
    · cases hx
    · cases hx
  · rcases ZgA hn with h | ⟨g', h, hx⟩ | ⟨g', h, hx⟩
    · exact (ZjQ h).2.1 n rfl
    · cases hx
    · cases hx
  · rcases ZgA he with h | ⟨g', h, hx⟩ | ⟨g', h, hx⟩
    · exact (ZjQ h).1 kk e rfl
    · cases hx
    · cases hx
def Ztg : FuncId → Option (List Value → Option Value) := fun _ => none
theorem Zox : ZnJ Ztg := fun f g h => by cases h
theorem ZgB {β : Type} {b : Bool} {x e : β} {y : Option β} (h : (bif b then some x else y) = some e) : (b = true ∧ x = e) ∨ y = some e := by
  cases b with
  | true => injection h with h; exact .inl ⟨rfl, h⟩
  | false => exact .inr h
noncomputable def hp0 : FuncId → Option (Array Value → St → Out) := fun f =>
  bif Nat.beq f 39 then some ZnA else
  bif Nat.beq f 85 then some (Zlx Tryd.prog Extern.BytealgIndexByte.indexByte) else
  bif Nat.beq f 81 then some (Zlx Tryd.prog Extern.BytealgCount.count) else
  bif Nat.beq f 17 then some ZpL else
  bif Nat.beq f 19 then some ZpM else
  bif Nat.beq f 26 then some ZlV else
  bif Nat.beq f 23 then some ZpN else
  bif Nat.beq f 58 then some Ztd else
  bif Nat.beq f 60 then some ZnF else
  bif Nat.beq f 68 then some Zte else
   none
theorem Zui : Zq9 hp0 := by
  intro f g h
  unfold hp0 at h
  rcases ZgB h with ⟨hb, rfl⟩ | h
  · obtain rfl := Nat.eq_of_beq_eq_true hb; exact Zua Tryd.func39 (by kernel_rfl) (by kernel_rfl) (by kernel_rfl) (by kernel_rfl)
  rcases ZgB h with ⟨hb, rfl⟩ | h
  · obtain rfl := Nat.eq_of_beq_eq_true hb; exact Zpg Tryd.func85 (by kernel_rfl) (by kernel_rfl) (by kernel_rfl) (by kernel_rfl)
  rcases ZgB h with ⟨hb, rfl⟩ | h
  · obtain rfl := Nat.eq_of_beq_eq_true hb; exact Zpg Tryd.func81 (by kernel_rfl) (by kernel_rfl) (by kernel_rfl) (by kernel_rfl)
  rcases ZgB h with ⟨hb, rfl⟩ | h
  · obtain rfl := Nat.eq_of_beq_eq_true hb; exact itoa_does
  rcases ZgB h with ⟨hb, rfl⟩ | h
  · obtain rfl := Nat.eq_of_beq_eq_true hb; exact join_does
  rcases ZgB h with ⟨hb, rfl⟩ | h
  · obtain rfl := Nat.eq_of_beq_eq_true hb; exact repeat_does
  rcases ZgB h with ⟨hb, rfl⟩ | h
  · obtain rfl := Nat.eq_of_beq_eq_true hb; exact Zuc
  rcases ZgB h with ⟨hb, rfl⟩ | h
  · obtain rfl := Nat.eq_of_beq_eq_true hb; exact cut_does
  rcases ZgB h with ⟨hb, rfl⟩ | h
  · obtain rfl := Nat.eq_of_beq_eq_true hb; exact split_does
  rcases ZgB h with ⟨hb, rfl⟩ | h
  · obtain rfl := Nat.eq_of_beq_eq_true hb; exact num_does
  cases h
noncomputable def Zth : FuncId → Option Ext := Zq8 Ztg hp0
theorem Zvd : Fit Tryd.prog Zth := fitH Zox Zui
noncomputable def hp1 : FuncId → Option (Array Value → St → Out) := fun f =>
  bif Nat.beq f 30 then some (Ziq Tryd.prog Zth 20000 30) else
   hp0 f
theorem Zw1 : Zq9 hp1 := by
  intro f g h
  unfold hp1 at h
  rcases ZgB h with ⟨hb, rfl⟩ | h
  · obtain rfl := Nat.eq_of_beq_eq_true hb; exact Zkx Zvd Tryd.func30 rfl
  exact Zui f g h
noncomputable def ZqA (sp : FuncId → Option (List Value → Option Value)) : FuncId → Option Ext := Zq8 sp hp1
theorem Zti {sp : FuncId → Option (List Value → Option Value)} (hsp : ZnJ sp) : Fit Tryd.prog (ZqA sp) := fitH hsp Zw1
noncomputable def ext : FuncId → Option Ext := ZqA Ztg
theorem fit : Fit Tryd.prog ext := Zti Zox
def Zlz (e : FuncId → Option Ext) (tc : FuncId → Bool) : FuncId → Option Ext := fun f => bif tc f then some (.tc (ZB Tryd.prog f)) else e f
theorem ZqB {e : FuncId → Option Ext} {tc : FuncId → Bool} (F : Fit Tryd.prog e) (hb : ∀ f, tc f = true → ∃ (fn : Func) (c : Code), Tryd.prog.funcs[f]? = some fn ∧ fn.body = some c) : Fit Tryd.prog (Zlz e tc) := by
  have cs : ∀ {f : Nat} {x : Ext}, Zlz e tc f = some x → (tc f = true ∧ x = .tc (ZB Tryd.prog f)) ∨ e f = some x := fun {f x} h => by
    unfold Zlz at h
    cases ht : tc f with
    | true => rw [ht] at h; injection h with h; exact .inl ⟨rfl, h.symm⟩
    | false => rw [ht] at h; exact .inr h
  refine ⟨F.mixed, F.go, fun f g hg => ?_, fun f g hg => ?_, fun f S hS => ?_, fun f n hn => ?_, fun f kk x hx => ?_⟩
  · rcases cs hg with ⟨_, h⟩ | h
    · cases h
    · exact F.fn f g h
  · rcases cs hg with ⟨_, h⟩ | h
    · cases h
    · exact F.hp f g h
  · rcases cs hS with ⟨ht, h⟩ | h
    · injection h with h; subst h; exact ⟨hb f ht, fun _ _ _ _ _ _ h => h⟩
    · exact F.tc f S h
  · rcases cs hn with ⟨_, h⟩ | h
    · cases h
    · exact F.mark f n h
  · rcases cs hx with ⟨_, h⟩ | h
    · cases h
    · exact F.ext f kk x h
def out (r : Out) : Option Value := match r with
  | some (v, s) => match s.ob with
    | [] => bif Zbp v && Nat.ble s.n 1000000000 then some v else none
    | _ => none
  | none => none
end Ev
end Go.Proofs.YtlbbiflodemagaaDoor
/- Arguments that hold no address: which cells they have. -/
namespace Go.Proofs.YtlbbiflodemagaaDoor
open Go.ChangeShapes Go.WideShapes Go.ChangeAt Go.RowKit
namespace Ev
section
variable {P : Program} {w : World} {r : Reach} {base : Nat}
theorem ZqC {t : TypeId} {ts : List TypeId} {v : Value} (hu : (match P.underlying t with | some (.struct _) | some (.array _ _) => true | _ => false) = true) (hts : P.cellTypes P.depth t = some ts) (hn : P.cellsOf t = ts.length) (h : Value.okWide P w r base t v) :
  ∃ cs : List Value, v = .agg cs.toArray ∧ cs.length = ts.length ∧ ∀ (i : Nat) u c, ts[i]? = some u → cs[i]? = some c → Cell.okWide P w r base u c := by
 unfold Value.okWide at h
 have key : (∃ cs, v = .agg cs ∧ cs.size = P.cellsOf t ∧ Row.okWide P w r base t cs) → ∃ cs : List Value, v = .agg cs.toArray ∧ cs.length = ts.length ∧ ∀ (i : Nat) u c, ts[i]? = some u → cs[i]? = some c → Cell.okWide P w r base u c := by
  rintro ⟨cs, rfl, hs, ts', h1, _, h3⟩
  rw [hts] at h1
  injection h1 with h1
  subst h1
  refine ⟨cs.toList, by simp, by simpa [hn] using hs, fun i u c hi hc => ?_⟩
  obtain ⟨u', hu', hok⟩ := h3 i c (by simpa using hc)
  have hlt : i < ts.length := (List.getElem?_eq_some_iff.1 hi).1
  rw [Nat.mod_eq_of_lt hlt, hi] at hu'
  injection hu' with hu'
  subst hu'
  exact hok
 split at h
 ·exact key h
 ·exact key h
 ·rename_i h1 h2
  exfalso
  revert hu
  cases hd : P.underlying t with
  | none => simp
  | some d => cases d <;> simp_all
def Zv9 : Nat → List (Nat × Bool) → List (Option Bool)
 | _, [] => []
 | n, (i, b) :: l => List.replicate (i - n) none ++ (some b :: Zv9 (i + 1) l)
def ZvA : Nat → List (Nat × Int) → List (Option Int)
 | _, [] => []
 | n, (i, b) :: l => List.replicate (i - n) none ++ (some b :: ZvA (i + 1) l)
def ZpO {α : Type} : Nat → List (Nat × α) → List (Option α)
 | _, [] => []
 | n, (i, b) :: l => List.replicate (i - n) none ++ (some b :: ZpO (i + 1) l)
def Zr (b : List (Nat × Bool)) (v : List (Nat × Int)) (x : List (Nat × Nat)) (l : List (Nat × List Cell)) (w : List (Nat × ZaG)) : Orc := ⟨Zv9 0 b, ZvA 0 v, ZpO 0 x, ZpO 0 l, ZpO 0 w⟩
theorem ZL : ∀ p ∈ ([] : List (Bool × Bool)), p.1 = p.2 := by simp
theorem Zc {a b : Bool} {l : List (Bool × Bool)} (h : a = b) (hl : ∀ q ∈ l, q.1 = q.2) : ∀ q ∈ (a, b) :: l, q.1 = q.2 := by
 intro q hq
 rcases List.mem_cons.1 hq with rfl | hq
 ·exact h
 ·exact hl q hq
theorem Zw2 {x : Int} (h : -9223372036854775808 ≤ x ∧ x < 9223372036854775808) : IntKind.i64.wrap x = x := by
 rw [IntKind.wrap_i64]
 omega
theorem ZfX {b : Int} (h : 0 ≤ b) : b = Int.ofNat b.toNat := (Int.toNat_of_nonneg h).symm
theorem Zuj {n m : Nat} (h : n < m) : Nat.blt n m = true := Nat.ble_eq_true_of_le h
end
end Ev
end Go.Proofs.YtlbbiflodemagaaDoor
/- How runs of functions with loops are written: what is looked at of a stop, and rows of numbers. -/
namespace Go.Proofs.YtlbbiflodemagaaDoor
open Go.RowKit
namespace Ev
/-! ### Where a loop stands -/
def ZeE : List Nat → Code → List ZbE → Code × List ZbE
  | [], .loop a, K => (a, K)
  | 0 :: p, .seq a b, K => ZeE p a (.seq b :: K)
  | 1 :: p, .seq _ b, K => ZeE p b K
  | 2 :: p, .scope a, K => ZeE p a (.scp :: K)
  | 3 :: p, .block i a, K => ZeE p a (.blk i :: K)
  | 4 :: p, .cond _ a _, K => ZeE p a K
  | 5 :: p, .cond _ _ b, K => ZeE p b K
  | (n + 6) :: p, .loop a, K => ZeE p a (.rnd n :: K)
  | _, _, K => (.skip, K)
def Zhs (fn : Func) : Code := match fn.body with | some c => c | none => .skip
noncomputable section
def Zax (live : List Nat) (r : Option Stop) : Option (Value × List (Option AObj) × List (Bool × Bool)) :=
  match r with
  | some (.fin u s) => bif Nat.ble s.n 1000000000 then some (u, live.map s.h.get, s.ob) else none
  | _ => none
end
theorem Zm9 {live : List Nat} {r : Option Stop} {u : Value} {bl : List (Option AObj)} {ob : List (Bool × Bool)} (h : Zax live r = some (u, bl, ob)) : ∃ s, r = some (.fin u s) ∧ live.map s.h.get = bl ∧ s.ob = ob ∧ s.n ≤ far := by
  unfold Zax at h
  split at h
  · rename_i u' s
    obtain ⟨hn, h⟩ := Zo h
    injection h with h
    simp only [Prod.mk.injEq] at h
    obtain ⟨rfl, rfl, rfl⟩ := h
    exact ⟨s, rfl, rfl, rfl, Nat.le_of_ble_eq_true hn⟩
  · cases h
def Zhg (ρ : Nat → Nat) : AObj → AObj → Prop
  | .ro O, .ro O' => O = O'
  | .ro O true, .ro O' true => O = O'
  | .cells c t, .cells c' t' => t = t' ∧ (∃ r, c.map (Za6 ρ 1) = c' ++ r) ∧ Z7 (Zas 1) c = true
  | .cells c t true, .cells c' t' true => t = t' ∧ c.map (Za6 ρ 1) = c' ∧ Z7 (Zas 1) c = true
  | _, _ => False
def Zct (ρ : Nat → Nat) : List (Option AObj) → List (Option AObj) → Prop
  | _, [] => True
  | some o :: bl, some p :: l => Zhg ρ o p ∧ Zct ρ bl l
  | _ :: bl, none :: l => Zct ρ bl l
  | _, _ => False
def Zhh (ρ : Nat → Nat) : List (Option Value) → List (Nat × Value) → Prop
  | _, [] => True
  | some u :: tv, x :: l => (x.2 = Za6 ρ 3 u ∧ Zas 3 u = true) ∧ Zhh ρ tv l
  | _, _ => False
theorem Zfo {ρ : Nat → Nat} {h : AH} : ∀ {live : List Nat} {l : List (Option AObj)}, Zct ρ (live.map h) l → ∀ j o, lkO l j = some o → ∃ k, live[j]? = some k ∧ match o with
      | .ro O m => h k = some (.ro O m)
      | .cells c t q => ∃ c' r, h k = some (.cells c' t q) ∧ c'.map (Za6 ρ 1) = c ++ r ∧ (q = true → r = []) ∧ Z7 (Zas 1) c' = true
  | live, [], _, j, o, hj => by simp [lkO] at hj
  | [], x :: l, hb, j, o, hj => by cases x <;> exact hb.elim
  | k :: live, none :: l, hb, j, o, hj => by
    have hb' : Zct ρ (live.map h) l := by
      simp only [List.map_cons] at hb
      cases hk : h k <;> rw [hk] at hb <;> exact hb
    cases j with
    | zero => simp [lkO] at hj
    | succ j => obtain ⟨k', q1, q2⟩ := Zfo hb' j o (by simpa [lkO] using hj); exact ⟨k', by simpa using q1, q2⟩
  | k :: live, some p :: l, hb, j, o, hj => by
    simp only [List.map_cons] at hb
    cases hk : h k with
    | none => rw [hk] at hb; exact hb.elim
    | some o1 =>
      rw [hk] at hb
      cases j with
      | zero =>
        have : p = o := by simpa [lkO] using hj
        subst this
        refine ⟨k, rfl, ?_⟩
        have h1 := hb.1
        cases o1 with
        | cells c1 t1 q1 =>
          cases p with
          | cells c2 t2 q2 =>
            cases q1 <;> cases q2
            · simp only [Zhg] at h1; obtain ⟨rfl, ⟨r, hr⟩, hs⟩ := h1; exact ⟨_, r, hk, hr, (fun e => by cases e), hs⟩
            · exact h1.elim
            · exact h1.elim
            · simp only [Zhg] at h1; obtain ⟨rfl, hr, hs⟩ := h1; exact ⟨_, [], hk, by rw [hr, List.append_nil], fun _ => rfl, hs⟩
          | ro O2 m2 => cases q1 <;> cases m2 <;> exact h1.elim
        | ro O1 m1 =>
          cases p with
          | cells c2 t2 q2 => cases m1 <;> cases q2 <;> exact h1.elim
          | ro O2 m2 =>
            cases m1 <;> cases m2
            · obtain rfl : O1 = O2 := h1; exact hk
            · exact h1.elim
            · exact h1.elim
            · obtain rfl : O1 = O2 := h1; exact hk
      | succ j => obtain ⟨k', q1, q2⟩ := Zfo hb.2 j o (by simpa [lkO] using hj); exact ⟨k', by simpa using q1, q2⟩
theorem ZqD {ρ : Nat → Nat} {T : Tr Value} : ∀ {l : List (Nat × Value)}, Zhh ρ ((l.map (·.1)).map T.get) l → ∀ t v, Za4 t l = some v → v = Za6 ρ 3 ((T.get t).getD undef) ∧ Zas 3 ((T.get t).getD undef) = true
  | [], _, t, v, h => by cases h
  | x :: l, ht, t, v, h => by
    simp only [List.map_cons] at ht
    cases hx : T.get x.1 with
    | none => rw [hx] at ht; exact ht.elim
    | some u =>
      rw [hx] at ht
      unfold Za4 at h
      cases hb : Nat.beq x.1 t with
      | true =>
        rw [hb] at h
        injection h with h
        obtain rfl := Nat.eq_of_beq_eq_true hb
        subst h
        rw [hx]
        exact ht.1
      | false => rw [hb] at h; exact ZqD ht.2 t v h
section
variable {P : Program} {ext : FuncId → Option Ext}
end
/-! ### Rows of numbers -/
theorem wrap_i64 {x : Int} (h : -9223372036854775808 ≤ x ∧ x ≤ 9223372036854775807) : IntKind.i64.wrap x = x := Zw2 (by omega)
theorem Zwb {x : Int} (h : 0 ≤ x ∧ x ≤ 255) : IntKind.u8.wrap x = x := by
  have e : IntKind.u8.wrap x = x % 256 := by simp [IntKind.wrap, IntKind.bits, IntKind.signed]
  rw [e]; omega
theorem ZS {k o o' n n' c c' : Nat} (h1 : o = o') (h2 : n = n') (h3 : c = c') : Value.slice (some ⟨k, o, none⟩) n c = .slice (some ⟨k, o', none⟩) n' c' := by rw [h1, h2, h3]
theorem Zd {α : Type} {a b : α} {l r : List α} (h : a = b) (t : l = r) : a :: l = b :: r := by rw [h, t]
theorem ZaL {l r : List Value} (h : l = r) : Value.tuple l.toArray = .tuple r.toArray := by rw [h]
/-! ### Rows of bools -/
/-! ### Rows of the caller's -/
end Ev
end Go.Proofs.YtlbbiflodemagaaDoor
/- Calls that are told, from what is known of a function. -/
namespace Go.Proofs.YtlbbiflodemagaaDoor
open Go.RowKit
namespace Ev
section
variable {P : Program} {ext : FuncId → Option Ext}
def preL (κ : List Nat) (n : Nat) (pre : List AObj) : List (Nat × AObj) := κ.zip (pre.map (ZhQ (kap κ n)))
def ZvB (κ : List Nat) (n : Nat) (ch : List Nat) (post : List (Option AObj)) : List (Nat × Option AObj) := ch.map fun j => (kap κ n j, (lkO post j).map (ZhQ (kap κ n)))
def ZmW (m : Nat) : List AObj → Prop
 | [] => True
 | o :: l => Zh6 m o = true ∧ ZmW m l
def Zjm (m : Nat) : List (Option AObj) → Prop
 | [] => True
 | some o :: l => Zh6 m o = true ∧ Zjm m l
 | none :: l => Zjm m l
theorem Zpm {m : Nat} : ∀ {l : List AObj}, ZmW m l → ∀ o ∈ l, Zh6 m o = true
 | x :: l, h, o, ho => by
  rcases List.mem_cons.1 ho with rfl | ho
  ·exact h.1
  ·exact Zpm h.2 o ho
theorem Zk0 {m : Nat} : ∀ {l : List (Option AObj)}, Zjm m l → ∀ o, some o ∈ l → Zh6 m o = true
 | some x :: l, h, o, ho => by
  rcases List.mem_cons.1 ho with e | ho
  ·injection e with e; subst e; exact h.1
  ·exact Zk0 h.2 o ho
 | none :: l, h, o, ho => by
  rcases List.mem_cons.1 ho with e | ho
  ·cases e
  ·exact Zk0 (l := l) h o ho
def Ztj (ch : List Nat) : Nat → List AObj → List (Option AObj) → Prop
 | _, _, [] => True
 | j, o :: l, p :: r => (j ∈ ch ∨ p = some o) ∧ Ztj ch (j + 1) l r
 | j, [], _ :: r => j ∈ ch ∧ Ztj ch (j + 1) [] r
theorem Zoy {ch : List Nat} : ∀ {l : List AObj} {r : List (Option AObj)} {j : Nat}, Ztj ch j l r → ∀ i, i < r.length → j + i ∈ ch ∨ (i < l.length ∧ r[i]? = some l[i]?)
 | o :: l, p :: r, j, h, 0, _ => by
  rcases h.1 with h | h
  ·exact .inl h
  ·exact .inr ⟨by simp, by simp [h]⟩
 | o :: l, p :: r, j, h, i + 1, hi => by
  rcases Zoy h.2 i (by simpa using hi) with q | ⟨q1, q2⟩
  ·exact .inl (by rwa [show j + (i + 1) = j + 1 + i by omega])
  ·exact .inr ⟨by simpa using q1, by simpa using q2⟩
 | [], p :: r, j, h, 0, _ => .inl h.1
 | [], p :: r, j, h, i + 1, hi => by
  rcases Zoy h.2 i (by simpa using hi) with q | ⟨q1, q2⟩
  ·exact .inl (by rwa [show j + (i + 1) = j + 1 + i by omega])
  ·simp at q1
theorem ZqE {α : Type} {k : Nat} {x : α} : ∀ {ks : List Nat} {l : List α} {j : Nat}, ks.Nodup → ks[j]? = some k → l[j]? = some x → Za4 k (ks.zip l) = some x
 | a :: ks, b :: l, 0, _, h1, h2 => by
  simp at h1 h2
  subst h1 h2
  simp [Za4]
 | a :: ks, b :: l, j + 1, hn, h1, h2 => by
  have hm : k ∈ ks := List.mem_of_getElem? (by simpa using h1)
  have hne : a ≠ k := fun e => by subst e; exact (List.nodup_cons.1 hn).1 hm
  show Za4 k ((a, b) :: ks.zip l) = _
  unfold Za4
  rw [Zg3 hne]
  exact ZqE (List.nodup_cons.1 hn).2 (by simpa using h1) (by simpa using h2)
 | [], _, j, _, h1, _ => by simp at h1
 | a :: ks, [], j, _, _, h2 => by simp at h2
theorem ZqF {f : Nat → Nat} {g : Nat → Option AObj} (hf : ∀ i j, f i = f j → i = j) (j : Nat) : ∀ ch : List Nat, Za4 (f j) (ch.map fun i => (f i, g i)) = if j ∈ ch then some (g j) else none
 | [] => rfl
 | a :: ch => by
  show Za4 (f j) ((f a, g a) :: ch.map fun i => (f i, g i)) = _
  unfold Za4
  by_cases h : a = j
  ·subst h; rw [Zi6 rfl]; simp
  ·rw [Zg3 (fun e => h (hf _ _ e)), cond_false, ZqF hf j ch]
   simp [show ¬ j = a from fun e => h e.symm]
theorem LSpec.callL {f : FuncId} {A : Array Value} {pre : List AObj} {v : Value} {post : List (Option AObj)} (h : LSpec P f A pre v post) (κ : List Nat) (n : Nat) (ch : List Nat) (hκ : κ.length = pre.length) (hnd : κ.Nodup) (hlt : ∀ k ∈ κ, k < n) (hle : pre.length ≤ post.length) (hch : ∀ j ∈ ch, j < post.length)
  (hA : Z7 (ZaY pre.length 3) A.toList = true) (hpre : ZmW pre.length pre) (hv : (ZaY post.length 3 v || Zcf v) = true) (hpost : Zjm post.length post) (hk : Ztj ch 0 pre post)
  {A' : Array Value} {pre' : List (Nat × AObj)} {v' : Value} {post' : List (Nat × Option AObj)} {dn : Nat} (eA : A' = Zg6 (Za6 (kap κ n) 3) A) (ev : v' = Za6 (kap κ n) 3 v) (edn : pre.length + dn = post.length) (ep : pre' = preL κ n pre) (eq : post' = ZvB κ n ch post) : ZB P f A' pre' v' post' n dn := by
 have kl : ∀ j, j < pre.length → κ[j]? = some (kap κ n j) := fun j hj => Zn8 (by omega)
 have kn : ∀ j, j < pre.length → kap κ n j < n := fun j hj => hlt _ (List.mem_of_getElem? (kl j hj))
 have kg : ∀ j, pre.length ≤ j → kap κ n j = n + (j - pre.length) := fun j hj => by rw [← hκ]; exact ZtX (by omega)
 have kinj : ∀ i j, kap κ n i = kap κ n j → i = j := fun i j hij => by
  rcases Nat.lt_or_ge i pre.length with h1 | h1 <;> rcases Nat.lt_or_ge j pre.length with h2 | h2
  ·have a := kl i h1
   have b := kl j h2
   rw [hij, ← b] at a
   exact (List.getElem?_inj (by omega) hnd).1 a
  ·have := kn i h1; rw [hij, kg j h2] at this; omega
  ·have := kn j h2; rw [← hij, kg i h1] at this; omega
  ·rw [kg i h1, kg j h2] at hij; omega
 have lp : ∀ j o, pre[j]? = some o → Za4 (kap κ n j) pre' = some (ZhQ (kap κ n) o) := fun j o ho => by
  subst ep
  have hj : j < pre.length := (List.getElem?_eq_some_iff.1 ho).1
  exact ZqE hnd (kl j hj) (by rw [List.getElem?_map, ho]; rfl)
 have ip : ∀ k o, Za4 k pre' = some o → ∃ j, j < pre.length ∧ k = kap κ n j := fun k o ho => by
  subst ep
  obtain ⟨j, hj1, hj2⟩ := List.getElem_of_mem (List.of_mem_zip (ZiB ho)).1
  have hj : j < pre.length := by omega
  refine ⟨j, hj, ?_⟩
  have := kl j hj
  rw [List.getElem?_eq_getElem hj1, hj2] at this
  exact Option.some.inj this
 have lq : ∀ j, Za4 (kap κ n j) post' = if j ∈ ch then some ((lkO post j).map (ZhQ (kap κ n))) else none := fun j => by
  subst eq
  exact ZqF (g := fun j => (lkO post j).map (ZhQ (kap κ n))) kinj j ch
 refine h.call κ n hκ hnd hlt hle hA (Zpm hpre) hv (Zk0 hpost) eA ev edn lp ip (fun j hj => ?_) (fun k o ho => ?_)
 ·unfold behind
  rw [lq j]
  rcases Zoy hk j hj with hc | ⟨h1, h2⟩
  ·rw [Nat.zero_add] at hc
   rw [if_pos hc]
  ·by_cases hc : j ∈ ch
   ·rw [if_pos hc]
   ·rw [if_neg hc]
    have ho : pre[j]? = some pre[j] := List.getElem?_eq_getElem h1
    show Za4 (kap κ n j) pre' = _
    rw [lp j _ ho]
    simp [lkO, h2, ho]
 ·unfold behind at ho
  split at ho
  ·rename_i o' hl
   subst eq
   have := ZiB hl
   unfold ZvB at this
   obtain ⟨j, hj, he⟩ := List.mem_map.1 this
   injection he with h1 h2
   exact ⟨j, hch j hj, h1.symm⟩
  ·obtain ⟨j, hj, hk⟩ := ip k o ho
   exact ⟨j, by omega, hk⟩
end
theorem Zk {α β : Type} {a a' : α} {b b' : β} (h : a = a') (k : b = b') : (a, b) = (a', b') := by rw [h, k]
theorem ZaE {α : Type} {a a' : α} (h : a = a') : some a = some a' := by rw [h]
theorem Zhi {l r : List Value} (h : l = r) : l.toArray = r.toArray := by rw [h]
end Ev
end Go.Proofs.YtlbbiflodemagaaDoor
/- Functions of many loops: one behind the other, one in another. -/
namespace Go.Proofs.YtlbbiflodemagaaDoor
open Go.RowKit
namespace Ev
section
variable {P : Program} {ext : FuncId → Option Ext}
variable {fn : Func} {pre : List AObj} {v : Value} {po : List (Option AObj)} {X : Type} {m i : Nat} {L : X → List (Nat × Value)} {H : X → List AObj} {μ : X → Nat} {bd : X → List Nat} {Gb : List Nat → Ren → World → (Nat → Act → World → Prop) → Prop} {x : X} {c : Code} {K : List ZbE} {T0 : Tr Value} {fu : Nat} {orc : Orc} {live : List Nat} {bl : List (Option AObj)} {ob : List (Bool × Bool)}
end
/-! ### A law -/
theorem Zw3 (P : Program) {w : World} (ht : TabW w) : Emb P (ιMk w) (lk []) w := by
 rw [show lk [] = fun _ => none from funext fun k => by simp [lk]]
 exact ZvM P ht
theorem Zve {v : Value} (h : Zbp v = true) : Zcf v = false := by
 cases hz : Zcf v with
 | false => rfl
 | true =>
  unfold Zcf at hz
  split at hz
  ·simp only [Zbp, ZaT, atom] at h
   simp [h] at hz
  ·cases hz
theorem Zuk {P : Program} {f : FuncId} {A : Array Value} {post : List (Option AObj)} {v : Value} (h : LSpec P f A [] v post) {w : World} {args' : Array Value} (ha : VRs (ιMk w) A args') (hv : Zbp v = true) (ht : TabW w := by first | assumption | (intro x hx; cases hx; done)) : Calls P f args' w (Ret v w) := by
 refine (h (ιMk w) w args' (fun k hk => ?_) ha (Zw3 P ht)).mono ?_
 ·cases hq : ιMk w k with
  | none => exact absurd hq hk
  | some q =>
   obtain ⟨b, base, id, rfl, _⟩ := ιMk_inv hq
   exact .inr (Zgv b base id)
 ·rintro e w' (⟨v', ι', rfl, hS, _, hvr⟩ | ⟨ht, _⟩)
  rotate_left
  ·rw [Zve hv] at ht; cases ht
  have := hvr.eq_of_free hv
  subst this
  exact ⟨rfl, hS.os, hS.tape, hS.output, hS.size, fun b hb => hS.frame b hb fun k c hk => by simp [lk, isC] at hk⟩
end Ev
end Go.Proofs.YtlbbiflodemagaaDoor
/- Arguments that are slices of structs of ints, opened, over any program. -/
namespace Go.Proofs.YtlbbiflodemagaaDoor
open Go.ChangeShapes Go.WideShapes Go.ChangeAt Go.RowKit Go.Deep
section
variable {H : Type} {enc : TypeId × Value → H} {P : Program} {w : World}

end
end Go.Proofs.YtlbbiflodemagaaDoor
/- Arguments that are rows of numbers: blocks of the caller's, that are read alone. -/
namespace Go.Proofs.YtlbbiflodemagaaDoor
open Go.ChangeShapes Go.WideShapes Go.ChangeAt Go.RowKit
namespace Ev
section
variable {P : Program} {w : World}
end
end Ev
end Go.Proofs.YtlbbiflodemagaaDoor
