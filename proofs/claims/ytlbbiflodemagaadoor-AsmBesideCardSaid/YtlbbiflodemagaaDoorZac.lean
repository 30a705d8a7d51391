/- Part 3. -/
import Derived.Test.YtlbbiflodemagaaDoorZab
import Derived.Recover
import Derived.WalkSmall
import Derived.Test.YtlbbiflodemagaaDoorRows
import Derived.WalkKit
import Derived.WalkLawsBesides
import Derived.WalkSpells
import Derived.ProofKit
import Derived.OpenShut
import Derived.Outline
import Derived.BigQuiet
import Derived.BigGuardPart
import Derived.Lib.Hide
import Derived.Lib.SmallJoins
import Derived.SizedLaws
import Derived.Deep.Slices
import Derived.Deep.Fields
import Derived.Carry
import Derived.RangeFuncLeaves
import Derived.OrdersIn
import Derived.LoopNIn
import Derived.TacticsIn
import Derived.RangeFuncRecord
import Derived.Laws.Externs
import Derived.Shelf.Strings.OnBuilder
import Derived.Shelf.Strings.Repeat
import Derived.Shelf.Strconv.Itoa3
import Derived.Lib.UnsafeStr
import Derived.RegionTactic
import Derived.Shelf.RegionOpenPlain
import Derived.Shelf.Strings.Cut
import Derived.Shelf.Strings.Split
import Derived.Shelf.Strings.Prefix
import Derived.Shelf.Strconv.AtoiAll
import Derived.Lib.IndexBytes
import Derived.Lib.IndexLaws
set_option linter.unusedSimpArgs false
set_option linter.unusedVariables false
/- Loops by induction: a round by the runner, between rounds the blocks are numbered anew. -/
namespace Go.Proofs.YtlbbiflodemagaaDoor
open Go.RowKit
namespace Ev
def renA (ρ : Nat → Nat) : Value → Value
 | .pointer (some ⟨k, o, none⟩) => .pointer (some ⟨ρ k, o, none⟩)
 | .slice (some ⟨k, o, none⟩) n c => .slice (some ⟨ρ k, o, none⟩) n c
 | .map (some k) => .map (some (ρ k))
 | v => v
def Zhf (f : Value → Value) (a : Array Value) : Array Value := (a.toList.map f).toArray
theorem Zt0 (f : Value → Value) (a : Array Value) : Zhf f a = a.map f := by
 unfold Zhf
 apply Array.ext' 
 simp
def Za5 (ρ : Nat → Nat) : Nat → Value → Value
 | d + 1, .agg cs => .agg (Zhf (Za5 ρ d) cs)
 | d + 1, .tuple cs => .tuple (Zhf (Za5 ρ d) cs)
 | d + 1, .func f a b => .func f (Zhf (Za5 ρ d) a) (Zhf (Za5 ρ d) b)
 | _, v => renA ρ v
def Zau : Nat → Value → Bool
 | d + 1, .agg cs => Z4 (Zau d) cs.toList
 | d + 1, .tuple cs => Z4 (Zau d) cs.toList
 | d + 1, .func _ a b => Z4 (Zau d) a.toList && Z4 (Zau d) b.toList
 | 0, .agg _ => false
 | 0, .tuple _ => false
 | 0, .func _ a b => a.isEmpty && b.isEmpty
 | _, _ => true
section
variable {P : Program} {ext : FuncId → Option Ext}
theorem Zjh {ι : Ren} {f : Value → Value} {a a' : Array Value} (hs : a.size = a'.size) (h : ∀ (i : Nat) x y, a[i]? = some x → a'[i]? = some y → VR ι (f x) y) : (Zhf f a).size = a'.size ∧ ∀ (i : Nat) x y, (Zhf f a)[i]? = some x → a'[i]? = some y → VR ι x y := by
 rw [Zt0]
 refine ⟨by simpa using hs, fun i x y hx hy => ?_⟩
 rw [Array.getElem?_map] at hx
 cases ha : a[i]? with
 | none => rw [ha] at hx; cases hx
 | some z => rw [ha] at hx; injection hx with hx; subst hx; exact h i z y ha hy
theorem Zqu {ρ : Nat → Nat} {v : Value} (h : atom v = true) : renA ρ v = v := by
 cases v with
 | pointer a => cases a with
  | none => rfl
  | some a => simp [atom] at h
 | slice a n c => cases a with
  | none => rfl
  | some a => simp [atom] at h
 | map a => cases a with
  | none => rfl
  | some a => simp [atom] at h
 | _ => rfl
theorem Zim {ρ : Nat → Nat} (d : Nat) {v : Value} (h : atom v = true) : Za5 ρ d v = v := by
 cases d with
 | zero => exact Zqu h
 | succ d =>
  cases v with
  | agg cs => simp [atom] at h
  | tuple cs => simp [atom] at h
  | func f a b =>
   cases f <;> simp [atom] at h
   obtain ⟨h1, h2⟩ := h
   subst h1 h2
   simp [Za5, Zhf]
  | _ => exact Zqu h
theorem ZhJ {ι ι2 : Ren} {ρ : Nat → Nat} (hι : ∀ k b, ι k = some b → ι2 (ρ k) = some b) (hm : ∀ b base id, ρ (Zav b base id) = Zav b base id) : ∀ (d : Nat) (v v' : Value), VR ι v v' → Zau d v = true → VR ι2 (Za5 ρ d v) v'
 | d, v, v', h, hd => by
  cases h with
  | atom h => rw [Zim d h]; exact .atom h
  | glob h => cases d <;> exact .glob h
  | ptr h => cases d <;> exact .ptr (hι _ _ h)
  | map h => cases d <;> exact .map (hι _ _ h)
  | slice h hn hc hq => cases d <;> exact .slice (hι _ _ h) hn hc hq
  | slice0 h =>
   rename_i A _
   obtain ⟨k, o, sp⟩ := A
   cases sp <;> cases d <;> exact .slice0 h
  | mptr h =>
   have h' := hι _ _ h
   rw [hm] at h'
   cases d <;> exact .mptr h'
  | mslice h hn hc =>
   have h' := hι _ _ h
   rw [hm] at h'
   cases d <;> exact .mslice h' hn hc
  | func hs ht h1 h2 =>
   cases d with
   | zero =>
    simp only [Zau, Bool.and_eq_true, Array.isEmpty_iff] at hd
    obtain ⟨rfl, rfl⟩ := hd
    exact .func hs ht (fun i x y hx => by simp at hx) (fun i x y hx => by simp at hx)
   | succ d =>
    simp only [Zau, Bool.and_eq_true] at hd
    obtain ⟨q1, q2⟩ := Zjh (f := Za5 ρ d) hs fun i x y hx hy => ZhJ hι hm d x y (h1 i x y hx hy) (ZaF hd.1 i x hx)
    obtain ⟨q3, q4⟩ := Zjh (f := Za5 ρ d) ht fun i x y hx hy => ZhJ hι hm d x y (h2 i x y hx hy) (ZaF hd.2 i x hx)
    exact .func q1 q3 q2 q4
  | agg hs h1 =>
   cases d with
   | zero => simp [Zau] at hd
   | succ d =>
    simp only [Zau] at hd
    obtain ⟨q1, q2⟩ := Zjh (f := Za5 ρ d) hs fun i x y hx hy => ZhJ hι hm d x y (h1 i x y hx hy) (ZaF hd i x hx)
    exact .agg q1 q2
  | tuple hs h1 =>
   cases d with
   | zero => simp [Zau] at hd
   | succ d =>
    simp only [Zau] at hd
    obtain ⟨q1, q2⟩ := Zjh (f := Za5 ρ d) hs fun i x y hx hy => ZhJ hι hm d x y (h1 i x y hx hy) (ZaF hd i x hx)
    exact .tuple q1 q2
theorem Zur {ι ι2 : Ren} {ρ : Nat → Nat} (hι : ∀ k b, ι k = some b → ι2 (ρ k) = some b) (hm : ∀ b base id, ρ (Zav b base id) = Zav b base id) {v v' : Value} (h : VR ι v v') : ∃ u, VR ι2 u v' := by
 have arr : ∀ {a a' : Array Value}, a.size = a'.size → (∀ (i : Nat) x y, a[i]? = some x → a'[i]? = some y → ∃ u, VR ι2 u y) → ∃ c : Array Value, c.size = a'.size ∧ ∀ (i : Nat) x y, c[i]? = some x → a'[i]? = some y → VR ι2 x y := fun {a a'} hs hx => by
  have each : ∀ i : Fin a'.size, ∃ u, VR ι2 u a'[i] := fun i => hx i a[i] a'[i] (Array.getElem?_eq_getElem (by omega)) (Array.getElem?_eq_getElem i.2)
  refine ⟨Array.ofFn fun i => (each i).choose, by simp, fun i x y h1 h2 => ?_⟩
  obtain ⟨hlt, rfl⟩ := Array.getElem?_eq_some_iff.1 h2
  rw [Array.getElem?_ofFn, dif_pos hlt] at h1
  injection h1 with h1
  subst h1
  exact (each ⟨i, hlt⟩).choose_spec
 induction h with
 | atom h => exact ⟨_, .atom h⟩
 | glob h => exact ⟨_, .glob (g := 0) h⟩
 | ptr h => exact ⟨_, .ptr (hι _ _ h)⟩
 | map h => exact ⟨_, .map (hι _ _ h)⟩
 | slice h hn hc hq => exact ⟨_, .slice (hι _ _ h) hn hc hq⟩
 | slice0 h => exact ⟨_, .slice0 (A := ⟨0, 0, none⟩) h⟩
 | mptr h =>
  have h' := hι _ _ h
  rw [hm] at h'
  exact ⟨_, .mptr (z := 0) h'⟩
 | mslice h hn hc =>
  have h' := hι _ _ h
  rw [hm] at h'
  exact ⟨_, .mslice (z := 0) h' hn hc⟩
 | func hs ht h1 h2 ih1 ih2 =>
  obtain ⟨c, q1, q2⟩ := arr hs ih1
  obtain ⟨d, q3, q4⟩ := arr ht ih2
  exact ⟨_, .func q1 q3 q2 q4⟩
 | agg hs h1 ih =>
  obtain ⟨c, q1, q2⟩ := arr hs ih
  exact ⟨_, .agg q1 q2⟩
 | tuple hs h1 ih =>
  obtain ⟨c, q1, q2⟩ := arr hs ih
  exact ⟨_, .tuple q1 q2⟩
noncomputable def Zrb : Nat → Nat → (Nat → Option Value) → (Nat → Value) → Tr Value → Tr Value
 | 0, _, _, _, T => T
 | n + 1, t, L, gv, T => Zrb n (t + 1) L gv (T.set t (some (match L t with | some v => v | none => gv t)))
noncomputable def tmps (nt : Nat) (L : Nat → Option Value) (gv : Nat → Value) : Tr Value := Zrb nt 0 L gv .nil
theorem Zqv (L : Nat → Option Value) (gv : Nat → Value) : ∀ (n t : Nat) (T : Tr Value) (k : Nat), (Zrb n t L gv T).get k = if t ≤ k ∧ k < t + n then some (match L k with | some v => v | none => gv k) else T.get k
 | 0, t, T, k => by rw [if_neg (by omega)]; rfl
 | n + 1, t, T, k => by
  show (Zrb n (t + 1) L gv _).get k = _
  rw [Zqv L gv n (t + 1), Tr.get_set]
  by_cases hk : k = t
  ·subst hk
   rw [if_neg (by omega), Zw, if_pos (by omega)]
  ·rw [Zm hk]
   by_cases h : t + 1 ≤ k ∧ k < t + 1 + n
   ·rw [if_pos h, if_pos (by omega)]
   ·rw [if_neg h, if_neg (by omega)]
theorem ZrL (nt : Nat) (L : Nat → Option Value) (gv : Nat → Value) (k : Nat) : (tmps nt L gv).get k = if k < nt then some (match L k with | some v => v | none => gv k) else none := by
 unfold tmps
 rw [Zqv]
 by_cases h : k < nt
 ·rw [if_pos (by omega), if_pos h]
 ·rw [if_neg (by omega), if_neg h]; rfl
def At (P : Program) (nt : Nat) (T : Tr Value) (h : AH) (m M : Nat) (ι0 : Ren) (h0 : AH) (w0 : World) (a : Act) (w : World) : Prop :=
 ∃ ι, TR ι nt [] T a ∧ Step P ι0 h0 w0 ι h w ∧ ∀ k, m ≤ k → k < M → ι k = none
def Zf9 (k : Nat) : Prop := 1000000000 ≤ k ∧ k % 2 = 0
theorem Zp0 (b base id : Nat) : Zf9 (Zav b base id) := ZhA b base id
def rho (live : List Nat) (M : Nat) (k : Nat) : Nat := if M ≤ k ∧ k % 2 = 0 then k else if k ∈ live then live.idxOf k else if k < M then M + 2 * k + 1 else k + 2 * M
def sig (live : List Nat) (M : Nat) (j : Nat) : Option Nat :=
 if j < live.length then live[j]?
 else if M ≤ j then
  (if j % 2 = 0 then some j else if j < 3 * M then (if (j - M - 1) / 2 ∉ live then some ((j - M - 1) / 2) else none) else if j - 2 * M ∉ live then some (j - 2 * M) else none)
 else none
theorem ZwQ {live : List Nat} {M : Nat} (hM : live.length ≤ M) (h2 : M % 2 = 0) (hl : ∀ k ∈ live, k < M) (k : Nat) : sig live M (rho live M k) = some k := by
 unfold rho
 split
 ·rename_i h
  unfold sig
  rw [if_neg (by omega), if_pos h.1, if_pos h.2]
 ·rename_i h
  split
  ·rename_i hk
   have hlt := List.idxOf_lt_length_of_mem hk
   unfold sig
   rw [if_pos hlt, List.getElem?_eq_getElem hlt]
   simp
  ·rename_i hk
   split
   ·rename_i hkM
    unfold sig
    have e : (M + 2 * k + 1 - M - 1) / 2 = k := by omega
    rw [if_neg (by omega), if_pos (by omega), if_neg (by omega), if_pos (by omega), e, if_pos hk]
   ·rename_i hkM
    unfold sig
    have e : k + 2 * M - 2 * M = k := by omega
    rw [if_neg (by omega), if_pos (by omega), if_neg (by omega), if_neg (by omega), e, if_pos hk]
theorem ZmP {live : List Nat} {M : Nat} (hn : live.Nodup) (h2 : M % 2 = 0) (hl : ∀ k ∈ live, k < M) {j k : Nat} (h : sig live M j = some k) : rho live M k = j := by
 unfold sig at h
 split at h
 ·rename_i hlt
  rw [List.getElem?_eq_getElem hlt] at h
  injection h with h
  subst h
  have hm : live[j] ∈ live := List.getElem_mem hlt
  have := hl _ hm
  unfold rho
  rw [if_neg (by omega), if_pos hm]
  exact hn.idxOf_getElem j hlt
 ·split at h
  ·split at h
   ·injection h with h
    subst h
    unfold rho
    rw [if_pos ⟨by assumption, by assumption⟩]
   ·split at h
    ·split at h
     ·rename_i hc
      injection h with h
      subst h
      unfold rho
      rw [if_neg (by omega), if_neg hc, if_pos (by omega)]
      omega
     ·cases h
    ·split at h
     ·rename_i hc
      injection h with h
      subst h
      unfold rho
      rw [if_neg (by omega), if_neg hc, if_neg (by omega)]
      omega
     ·cases h
  ·cases h
theorem FzC.ren {ι ι2 : Ren} {ρ : Nat → Nat} (hι : ∀ k b, ι k = some b → ι2 (ρ k) = some b) (hm : ∀ b base id, ρ (Zav b base id) = Zav b base id) {w : World} {b base id : Nat} (h : FzC ι w b base id) : FzC ι2 w b base id := by
 obtain ⟨c, C, t, fr, h1, h2, h3, h4, h5⟩ := h
 refine ⟨c, C, t, fr, h1, h2, h3, fun i x y hx hy => ?_, h5⟩
 have hv := h4 i x y hx hy
 unfold ZF at hx
 rw [List.getElem?_map] at hx
 cases hb : c[i]? with
 | none => rw [hb] at hx; cases hx
 | some z =>
  rw [hb] at hx
  injection hx with hx
  subst hx
  have := ZhJ hι hm 0 _ _ hv (by cases z <;> rfl)
  have e : Za5 ρ 0 (Zdu z) = Zdu z := by cases z <;> rfl
  rwa [e] at this
theorem ZwR {c c' r : List Value} {f : Value → Value} {q : Bool} (hcr : c'.map f = c ++ r) (hq : q = true → r = []) (h : q = true) : c'.isEmpty = c.isEmpty := by
 rw [hq h, List.append_nil] at hcr
 subst hcr
 cases c' <;> rfl
theorem Zt1 {c c' r : List Value} {f : Value → Value} {t : TypeId} {q : Bool} (hcr : c'.map f = c ++ r) (hq : q = true → r = []) (h : isC (some (.cells c t q)) = true) : isC (some (.cells c' t q)) = true := by
 cases q with
 | false => rfl
 | true =>
  have e := ZwR hcr hq rfl
  show (!c'.isEmpty) = true
  rw [e]; exact h
theorem ZwS {c c' r : List Value} {f : Value → Value} {t : TypeId} {q : Bool} (hcr : c'.map f = c ++ r) (hq : q = true → r = []) (h : sol (some (.cells c t q)) = true) : sol (some (.cells c' t q)) = true := Zt1 (t := t) hcr hq h
theorem ZrM {nt : Nat} {ι0 ι : Ren} {h0 h : AH} {w0 w : World} {T : Tr Value} {a : Act} (hT : TR ι nt [] T a) (hS : Step P ι0 h0 w0 ι h w)
  (live : List Nat) (m M : Nat) (hM : M = 1000000000) (hll : ∀ k ∈ live, k < M) (hlen : live.length = m) (hmM : m ≤ M) (hn : live.Nodup) (h3 : ∀ k, ι0 k ≠ none → live[k]? = some k ∨ Zf9 k)
  (L : Nat → Option Value) (hL : ∀ t v, t < nt → L t = some v → v = Za5 (rho live M) 3 ((T.get t).getD undef) ∧ Zau 3 ((T.get t).getD undef) = true)
  (g : AH) (hg : ∀ j o, g j = some o → ∃ k, live[j]? = some k ∧ match o with
   | .ro O m => h k = some (.ro O m)
   | .cells c t q => ∃ c' r, h k = some (.cells c' t q) ∧ c'.map (Za5 (rho live M) 1) = c ++ r ∧ (q = true → r = []) ∧ Z4 (Zau 1) c' = true) :
  ∃ gv ι', TR ι' nt [] (tmps nt L gv) a ∧ Step P ι0 h0 w0 ι' g w ∧ (∀ k, m ≤ k → k < M → ι' k = none) ∧ (∀ j b, ι' j = some b → ∃ k, ι k = some b) ∧ ∀ j k, live[j]? = some k → ι' j = ι k := by
 have h2M : M % 2 = 0 := by omega
 have s1 := fun k => ZwQ (live := live) (M := M) (by omega) h2M hll k
 have rm : ∀ b base id, rho live M (Zav b base id) = Zav b base id := fun b base id => by
  have := ZhA b base id
  unfold rho
  rw [if_pos ⟨by omega, this.2⟩]
 have hι : ∀ k b, ι k = some b → (fun j => (sig live M j).bind ι) (rho live M k) = some b := fun k b hk => by
  simp only [s1 k, Option.bind_some, hk]
 have hlive : ∀ j k, live[j]? = some k → sig live M j = some k := fun j k hk => by
  have hlt := (List.getElem?_eq_some_iff.1 hk).1
  unfold sig
  rw [if_pos hlt]
  exact hk
 have back : ∀ j b, (sig live M j).bind ι = some b → ∃ k, sig live M j = some k ∧ ι k = some b := fun j b hj => by
  cases hs : sig live M j with
  | none => rw [hs] at hj; cases hj
  | some k => rw [hs] at hj; exact ⟨k, rfl, hj⟩
 have sm : ∀ k, Zf9 k → sig live M k = some k := fun k hk => by
  unfold Zf9 at hk
  unfold sig
  rw [if_neg (by omega), if_pos (by omega), if_pos hk.2]
 have old : ∀ k, ι0 k ≠ none → sig live M k = some k := fun k hk => (h3 k hk).elim (hlive k k) (sm k)
 have gC : ∀ j, isC (g j) = true → ∃ k, sig live M j = some k ∧ isC (h k) = true := fun j hj => by
  cases hx : g j with
  | none => rw [hx] at hj; cases hj
  | some o =>
   obtain ⟨k, hk, ho⟩ := hg j o hx
   cases o with
   | ro O m1 => rw [hx] at hj; exact ⟨k, hlive j k hk, by rw [show h k = some (.ro O m1) from ho]; exact hj⟩
   | cells c t q => obtain ⟨c', r, hc, hcr, hq, _⟩ := ho; exact ⟨k, hlive j k hk, by rw [hc]; rw [hx] at hj; exact Zt1 hcr hq hj⟩
 have gS : ∀ j, sol (g j) → ∃ k, sig live M j = some k ∧ sol (h k) := fun j hj => by
  cases hx : g j with
  | none => rw [hx] at hj; cases hj
  | some o =>
   obtain ⟨k, hk, ho⟩ := hg j o hx
   cases o with
   | ro O m1 => exact ⟨k, hlive j k hk, by rw [show h k = some (.ro O m1) from ho]; rfl⟩
   | cells c t q => obtain ⟨c', r, hc, hcr, hq, _⟩ := ho; exact ⟨k, hlive j k hk, by rw [hc]; rw [hx] at hj; exact ZwS hcr hq hj⟩
 have garb : ∀ t, ∃ u, VR (fun j => (sig live M j).bind ι) u (a.tmps.getD t undef) := fun t => Zur hι rm (hT.2.2 t)
 refine ⟨fun t => (garb t).choose, fun j => (sig live M j).bind ι, ⟨hT.1, hT.2.1, fun t => ?_⟩, ⟨fun k b hk => ?_, ⟨fun j c t q hj => ?_, fun j O hj => ?_, fun j j' b b' h1 h2 h4 h5 h6 => ?_, fun j b hj => ?_, fun b base id q hq => ?_, fun x hx => (hS.emb.tb x hx).imp fun q hq => by
  show (sig live M (Zav x.1 0 (code x.2))).bind ι = some q
  rw [sm _ (Zp0 x.1 0 (code x.2))]; exact hq⟩, hS.os, hS.tape, hS.output, hS.size, hS.frame, fun j b h1 h2 => ?_, fun j h1 h2 => ?_, fun j h1 h2 => ?_⟩, fun j h1 h2 => ?_, fun j b hj => (back j b hj).imp fun k h => h.2, fun j k hk => by
  show (sig live M j).bind ι = ι k
  rw [hlive j k hk]; rfl⟩
 ·rw [ZrL]
  by_cases ht : t < nt
  ·rw [if_pos ht]
   cases hl : L t with
   | none => exact (garb t).choose_spec
   | some v =>
    obtain ⟨e, hd⟩ := hL t v ht hl
    subst e
    exact ZhJ hι rm 3 _ _ (hT.2.2 t) hd
  ·rw [if_neg ht]
   have : a.tmps.getD t undef = undef := by
    have := hT.1
    simp [Array.getD, show ¬ t < a.tmps.size by omega]
   rw [this]
   exact VR.undef'
 ·show (sig live M k).bind ι = some b
  rw [old k (by rw [hk]; simp)]
  exact hS.ext k b hk
 ·obtain ⟨k, hk, c', r, hc, hcr, hq, hd⟩ := hg j _ hj
  obtain ⟨b, hb, ⟨z1, z2, z3⟩ | ⟨z1, C, hB, hC, hQ⟩⟩ := hS.emb.obj k c' t q hc
  ·refine ⟨b, by show (sig live M j).bind ι = some b; rw [hlive j k hk]; exact hb, .inl ⟨z1, ?_, z3⟩⟩
   subst z2
   have := congrArg List.length hcr
   simp at this
   exact List.eq_nil_of_length_eq_zero (by omega)
  have hqc : isC (some (.cells c t q)) = true := by
   cases q with
   | false => rfl
   | true =>
    rw [hq rfl, List.append_nil] at hcr
    cases c' with
    | nil => cases z1
    | cons x c' => rw [← hcr]; rfl
  have hle : c.length ≤ c'.length := by
   have := congrArg List.length hcr
   simp at this
   omega
  refine ⟨b, by show (sig live M j).bind ι = some b; rw [hlive j k hk]; exact hb, .inr ⟨hqc, C, hB, ⟨Nat.le_trans hle hC.1, fun i x y hx hy => ?_⟩, hQ⟩⟩
  have hx' : (c'.map (Za5 (rho live M) 1))[i]? = some x := by
   rw [hcr, List.getElem?_append_left (List.getElem?_eq_some_iff.1 hx).1]
   exact hx
  rw [List.getElem?_map] at hx'
  cases hz : c'[i]? with
  | none => rw [hz] at hx'; cases hx'
  | some z =>
   rw [hz] at hx'
   injection hx' with hx'
   subst hx'
   exact ZhJ hι rm 1 z y (hC.2 i z y hz hy) (Zat hd z (List.mem_of_getElem? hz))
 ·obtain ⟨k, hk, hr⟩ := hg j _ hj
  obtain ⟨b, hb, hB⟩ := hS.emb.ro k O hr
  exact ⟨b, by show (sig live M j).bind ι = some b; rw [hlive j k hk]; exact hb, hB⟩
 ·obtain ⟨k, q1, q2⟩ := gC j h1
  obtain ⟨k', q3, q4⟩ := gS j' h2
  obtain ⟨_, e1, e2⟩ := back j b h4
  rw [q1] at e1; injection e1 with e1; subst e1
  obtain ⟨_, e3, e4⟩ := back j' b' h5
  rw [q3] at e3; injection e3 with e3; subst e3
  have := hS.emb.inj k k' b b' q2 q4 e2 e4 h6
  subst this
  rw [← ZmP hn h2M hll q1, ← ZmP hn h2M hll q3]
 ·obtain ⟨k, _, e2⟩ := back j b hj
  exact hS.emb.lt k b e2
 ·obtain ⟨k, e1, e2⟩ := back _ q hq
  rw [sm _ (Zp0 b base id)] at e1; injection e1 with e1; subst e1
  obtain ⟨m1, m2, m3⟩ := hS.emb.mks b base id q e2
  refine ⟨m1, ⟨m2.1.ren hι rm, fun o c hc => by
   have := hι _ _ (m2.2 o c hc)
   rw [rm] at this
   exact this⟩, fun k d hk hd => ?_⟩
  obtain ⟨k', q1, q2⟩ := gC k hk
  obtain ⟨k2, e3, e4⟩ := back k d hd
  rw [q1] at e3; injection e3 with e3; subst e3
  exact m3 k' d q2 e4
 ·obtain ⟨k, e1, e2⟩ := back j b h2
  refine hS.new k b ?_ e2
  cases hk : ι0 k with
  | none => rfl
  | some c =>
   have := ZmP hn h2M hll (old k (by rw [hk]; simp))
   have e3 := ZmP hn h2M hll e1
   rw [this] at e3
   subst e3
   rw [h1] at hk; cases hk
 ·obtain ⟨k, e1, e2⟩ := gS j h1
  rw [old j h2] at e1; injection e1 with e1; subst e1
  exact hS.alive j e2 h2
 ·obtain ⟨k, e1, e2⟩ := gC j h1
  rw [old j h2] at e1; injection e1 with e1; subst e1
  exact hS.kind j e2 h2
 ·show (sig live M j).bind ι = none
  unfold sig
  rw [if_neg (by omega), if_neg (by omega)]
  rfl
theorem ZwT {nt : Nat} {ι0 ι : Ren} {h0 h : AH} {w0 w : World} {T : Tr Value} {a : Act} (hT : TR ι nt [] T a) (hS : Step P ι0 h0 w0 ι h w)
  (live : List Nat) (m M : Nat) (hM : M = 1000000000) (hll : ∀ k ∈ live, k < M) (hlen : live.length = m) (hmM : m ≤ M) (hn : live.Nodup) (h3 : ∀ k, ι0 k ≠ none → live[k]? = some k ∨ Zf9 k)
  (L : Nat → Option Value) (hL : ∀ t v, t < nt → L t = some v → v = Za5 (rho live M) 3 ((T.get t).getD undef) ∧ Zau 3 ((T.get t).getD undef) = true)
  (g : AH) (hg : ∀ j o, g j = some o → ∃ k, live[j]? = some k ∧ match o with
   | .ro O m => h k = some (.ro O m)
   | .cells c t q => ∃ c' r, h k = some (.cells c' t q) ∧ c'.map (Za5 (rho live M) 1) = c ++ r ∧ (q = true → r = []) ∧ Z4 (Zau 1) c' = true) :
  ∃ gv, At P nt (tmps nt L gv) g m M ι0 h0 w0 a w := by
 obtain ⟨gv, ι', a1, a2, a3, _⟩ := ZrM hT hS live m M hM hll hlen hmM hn h3 L hL g hg
 exact ⟨gv, ι', a1, a2, a3⟩
theorem Zw5 (F : Fit P ext) {fu nt : Nat} {c : Code} {T T' : Tr Value} {s s' : St} {e : Ex} (h : Zal P ext nt fu c T s = some (e, T', s')) (ho : ∀ p ∈ s'.ob, p.1 = p.2) {ι : Ren} {D : List Deferred} {a : Act} {w : World} (hT : TR ι nt D T a) (he : Emb P ι s.h.get w) (hf : Fresh ι s.n s'.n) :
  c.wp P (ZeU P ι s w nt D e T' s') a w := (Zcz F fu).1 nt c T s e T' s' h ho ι D a w hT he hf
end
end Ev
end Go.Proofs.YtlbbiflodemagaaDoor
/- Functions with loops: a run stands ahead of a loop, at a round's end, or at the function's end. -/
namespace Go.Proofs.YtlbbiflodemagaaDoor
open Go.RowKit
namespace Ev
inductive ZaS where
 | seq (b : Code)
 | blk (id : Nat)
 | scp
 | rnd (i : Nat)
inductive Stop where
 | fin (v : Value) (s : St)
 | head (a : Code) (K : List ZaS) (T : Tr Value) (s : St)
 | next (i : Nat) (T : Tr Value) (s : St)
noncomputable section
def Stop.s : Stop → St
 | .fin _ s => s
 | .head _ _ _ s => s
 | .next _ _ s => s
def Zus (P : Program) (fn : Func) (T : Tr Value) (s : St) : Option Value :=
 match ZaW P T s fn.results.toList with
 | some [v] => some v
 | some vs => some (.tuple vs.toArray)
 | none => none
def Zut (s : St) : Option Value → Option Stop
 | some v => some (.fin v s)
 | none => none
def Zw6 (P : Program) (fn : Func) (e : Ex) (T : Tr Value) (s : St) : Option Stop :=
 match e with
 | .exit _ => none
 | .normal => Zut s (Zus P fn T s)
 | .ret => Zut s (Zus P fn T s)
mutual
def ZgG (P : Program) (ext : FuncId → Option Ext) (fn : Func) (nt : Nat) : Nat → Code → List ZaS → Tr Value → St → Option Stop
 | 0, _, _, _, _ => none
 | fu + 1, c, K, T, s => match c with
  | .seq a b => ZgG P ext fn nt fu a (.seq b :: K) T s
  | .scope a => ZgG P ext fn nt fu a (.scp :: K) T s
  | .block id a => ZgG P ext fn nt fu a (.blk id :: K) T s
  | .cond x a b => match opnd T x with
   | .bool t => match t with
    | true => ZgG P ext fn nt fu a K T s
    | false => ZgG P ext fn nt fu b K T s
   | _ => none
  | .loop a => some (.head a K T s)
  | c => match Zal P ext nt fu c T s with
   | some (e, T', s') => ZdF P ext fn nt fu K e T' s'
   | none => none
termination_by structural fu _ _ _ _ => fu
def ZdF (P : Program) (ext : FuncId → Option Ext) (fn : Func) (nt : Nat) : Nat → List ZaS → Ex → Tr Value → St → Option Stop
 | 0, _, _, _, _ => none
 | fu + 1, K, e, T, s => match K with
  | [] => Zw6 P fn e T s
  | .seq b :: K => match e with
   | .normal => ZgG P ext fn nt fu b K T s
   | .exit i => ZdF P ext fn nt fu K (.exit i) T s
   | .ret => ZdF P ext fn nt fu K .ret T s
  | .blk id :: K => match e with
   | .exit i => bif Nat.beq i id then ZdF P ext fn nt fu K .normal T s else ZdF P ext fn nt fu K (.exit i) T s
   | .normal => ZdF P ext fn nt fu K .normal T s
   | .ret => ZdF P ext fn nt fu K .ret T s
  | .scp :: K => ZdF P ext fn nt fu K e T s
  | .rnd i :: K => match e with
   | .normal => some (.next i T s)
   | .exit j => ZdF P ext fn nt fu K (.exit j) T s
   | .ret => ZdF P ext fn nt fu K .ret T s
termination_by structural fu _ _ _ _ => fu
end
end
section
variable {P : Program} {ext : FuncId → Option Ext}
theorem Zt2 {s : St} {o : Option Value} {st : Stop} (h : Zut s o = some st) : ∃ v, st = .fin v s ∧ o = some v := by
 cases o with
 | none => cases h
 | some v => injection h with h; exact ⟨v, h.symm, rfl⟩
theorem Zt3 {fn : Func} {e : Ex} {T : Tr Value} {s : St} {st : Stop} (h : Zw6 P fn e T s = some st) : ∃ v, st = .fin v s ∧ (match e with | .exit _ => False | _ => True) ∧ (match ZaW P T s fn.results.toList with | some [v] => some v | some vs => some (.tuple vs.toArray) | none => none) = some v := by
 cases e with
 | exit i => cases h
 | normal => obtain ⟨v, h1, h2⟩ := Zt2 h; exact ⟨v, h1, trivial, h2⟩
 | ret => obtain ⟨v, h1, h2⟩ := Zt2 h; exact ⟨v, h1, trivial, h2⟩
theorem up_to (F : Fit P ext) {fn : Func} {nt : Nat} : ∀ fu : Nat, (∀ c K T s st, ZgG P ext fn nt fu c K T s = some st → Up s st.s) ∧ (∀ K e T s st, ZdF P ext fn nt fu K e T s = some st → Up s st.s) := by
 intro fu
 induction fu with
 | zero => exact ⟨fun _ _ _ _ _ h => by simp [ZgG] at h, fun _ _ _ _ _ h => by simp [ZdF] at h⟩
 | succ fu ih =>
  obtain ⟨ihT, ihB⟩ := ih
  have other : ∀ c K T s st, (match Zal P ext nt fu c T s with | some (e, T', s') => ZdF P ext fn nt fu K e T' s' | none => none) = some st → Up s st.s := fun c K T s st h => by
   split at h
   ·exact ((Zbf (P := P) (ext := ext) (fun f g hg => (F.hp f g hg).up) fu).1 _ _ _ _ _ _ _ (by assumption)).trans (ihB _ _ _ _ _ h)
   ·cases h
  refine ⟨fun c K T s st h => ?_, fun K e T s st h => ?_⟩
  ·cases c <;> simp only [ZgG] at h
   case seq a b => exact ihT _ _ _ _ _ h
   case scope a => exact ihT _ _ _ _ _ h
   case block id a => exact ihT _ _ _ _ _ h
   case cond x a b =>
    split at h
    ·split at h
     ·exact ihT _ _ _ _ _ h
     ·exact ihT _ _ _ _ _ h
    ·cases h
   case loop a => injection h with h; subst h; exact Up.refl _
   all_goals exact other _ _ _ _ _ h
  ·cases K with
   | nil => simp only [ZdF] at h; obtain ⟨v, rfl, _⟩ := Zt3 h; exact Up.refl _
   | cons k K =>
    cases k <;> simp only [ZdF] at h
    ·cases e <;> simp only at h
     ·exact ihT _ _ _ _ _ h
     ·exact ihB _ _ _ _ _ h
     ·exact ihB _ _ _ _ _ h
    ·cases e <;> simp only at h
     ·exact ihB _ _ _ _ _ h
     ·rename_i id i
      cases hb : Nat.beq i id <;> rw [hb] at h <;> exact ihB _ _ _ _ _ h
     ·exact ihB _ _ _ _ _ h
    ·exact ihB _ _ _ _ _ h
    ·cases e <;> simp only at h
     ·injection h with h; subst h; exact Up.refl _
     ·exact ihB _ _ _ _ _ h
     ·exact ihB _ _ _ _ _ h
def post (P : Program) (fn : Func) (R : Ending → World → Prop) (Nx : Nat → Act → World → Prop) : List ZaS → Exit → Act → World → Prop
 | [] => bodyPost P fn R
 | .seq b :: K => Exit.then (b.wp P (post P fn R Nx K)) (post P fn R Nx K)
 | .blk id :: K => Exit.inBlock id (post P fn R Nx K)
 | .scp :: K => Exit.noGoto (post P fn R Nx K)
 | .rnd i :: K => Exit.then (Nx i) (post P fn R Nx K)
def Zrc (P : Program) (fn : Func) (R : Ending → World → Prop) (Nx : Nat → Act → World → Prop) (nt : Nat) (ι : Ren) (a : Act) (w : World) : Stop → Prop
 | .fin v _ => ∀ v', VR ι v v' → R (.returned v') w
 | .head b K T _ => TR ι nt [] T a → (Code.loop b).wp P (post P fn R Nx K) a w
 | .next i T _ => TR ι nt [] T a → Nx i a w
theorem Zwe (F : Fit P ext) {fn : Func} {nt : Nat} {R : Ending → World → Prop} {Nx : Nat → Act → World → Prop} : ∀ fu : Nat,
  (∀ c K T s st, ZgG P ext fn nt fu c K T s = some st → (∀ p ∈ st.s.ob, p.1 = p.2) → ∀ ι a w, TR ι nt [] T a → Emb P ι s.h.get w → Fresh ι s.n st.s.n →
   (∀ ι' a' w', Step P ι s.h.get w ι' st.s.h.get w' → Dom ι ι' s.n st.s.n → Zrc P fn R Nx nt ι' a' w' st) → c.wp P (post P fn R Nx K) a w) ∧
  (∀ K e T s st, ZdF P ext fn nt fu K e T s = some st → (∀ p ∈ st.s.ob, p.1 = p.2) → ∀ ι a w, TR ι nt [] T a → Emb P ι s.h.get w → Fresh ι s.n st.s.n →
   (∀ ι' a' w', Step P ι s.h.get w ι' st.s.h.get w' → Dom ι ι' s.n st.s.n → Zrc P fn R Nx nt ι' a' w' st) → post P fn R Nx K e.out a w) := by
 intro fu
 induction fu with
 | zero => exact ⟨fun _ _ _ _ _ h => by simp [ZgG] at h, fun _ _ _ _ _ h => by simp [ZdF] at h⟩
 | succ fu ih =>
  obtain ⟨ihT, ihB⟩ := ih
  have other : ∀ c K T s st, (match Zal P ext nt fu c T s with | some (e, T', s') => ZdF P ext fn nt fu K e T' s' | none => none) = some st → (∀ p ∈ st.s.ob, p.1 = p.2) → ∀ ι a w, TR ι nt [] T a → Emb P ι s.h.get w → Fresh ι s.n st.s.n →
   (∀ ι' a' w', Step P ι s.h.get w ι' st.s.h.get w' → Dom ι ι' s.n st.s.n → Zrc P fn R Nx nt ι' a' w' st) → c.wp P (post P fn R Nx K) a w := fun c K T s st h ho ι a w hT he hf hQ => by
   split at h
   ·rename_i e T1 s1 h1
    have u1 := (Zbf (P := P) (ext := ext) (fun f g hg => (F.hp f g hg).up) fu).1 _ _ _ _ _ _ _ h1
    have u2 := (up_to F (fn := fn) (nt := nt) fu).2 _ _ _ _ _ h
    refine wp_mono (Zw5 F h1 (Zai u2.ob ho) hT he (hf.mono (Nat.le_refl _) u2.n)) ?_
    rintro ex a1 w1 ⟨rfl, ι1, g1, g2, g3⟩
    exact ihB K e T1 s1 st h ho ι1 a1 w1 g3 g1.emb (hf.after g2 u1.n) fun ι' a' w' k1 k2 => hQ ι' a' w' (g1.trans k1) (g2.trans k2 u1.n u2.n)
   ·cases h
  refine ⟨fun c K T s st h ho ι a w hT he hf hQ => ?_, fun K e T s st h ho ι a w hT he hf hQ => ?_⟩
  ·have h0 := h
   cases c <;> simp only [ZgG] at h
   case seq x y => exact wp_seq (ihT x (.seq y :: K) T s st h ho ι a w hT he hf hQ)
   case scope x => exact wp_scope_straight (ihT x (.scp :: K) T s st h ho ι a w hT he hf hQ)
   case block id x => exact wp_block (ihT x (.blk id :: K) T s st h ho ι a w hT he hf hQ)
   case cond x y z =>
    split at h
    ·rename_i t ht
     have hx : a.eval x = .bool t := Zdv ((ht ▸ hT.opnd x : VR ι (.bool t) (Zbj a x)).bool_inv)
     split at h
     ·exact wp_cond_true hx (ihT y K T s st h ho ι a w hT he hf hQ)
     ·exact wp_cond_false hx (ihT z K T s st h ho ι a w hT he hf hQ)
    ·cases h
   case loop x =>
    injection h with h
    subst h
    exact hQ ι a w (Step.refl he) Dom.refl hT
   all_goals exact other _ K T s st h ho ι a w hT he hf hQ
  ·cases K with
   | nil =>
    simp only [ZdF] at h
    obtain ⟨v, rfl, hne, hr⟩ := Zt3 h
    obtain ⟨v', hrun, hv⟩ := Zcp hT he hr
    have := hQ ι a w (Step.refl he) Dom.refl v' hv
    cases e with
    | normal => exact ⟨hT.2.1, v', hrun, this⟩
    | ret => exact ⟨hT.2.1, v', hrun, this⟩
    | exit i => exact hne.elim
   | cons k K =>
    cases k with
    | seq b =>
     simp only [ZdF] at h
     cases e with
     | normal => exact ihT b K T s st h ho ι a w hT he hf hQ
     | exit i => exact ihB K (.exit i) T s st h ho ι a w hT he hf hQ
     | ret => exact ihB K .ret T s st h ho ι a w hT he hf hQ
    | blk id =>
     simp only [ZdF] at h
     cases e with
     | normal => exact ihB K .normal T s st h ho ι a w hT he hf hQ
     | ret => exact ihB K .ret T s st h ho ι a w hT he hf hQ
     | exit i =>
      simp only at h
      show if i = id then _ else _
      cases hb : Nat.beq i id with
      | true =>
       rw [hb] at h
       rw [if_pos (Nat.eq_of_beq_eq_true hb)]
       exact ihB K .normal T s st h ho ι a w hT he hf hQ
      | false =>
       rw [hb] at h
       rw [if_neg (fun e => by rw [Zhd e] at hb; cases hb)]
       exact ihB K (.exit i) T s st h ho ι a w hT he hf hQ
    | scp =>
     simp only [ZdF] at h
     have := ihB K e T s st h ho ι a w hT he hf hQ
     cases e <;> exact this
    | rnd i =>
     simp only [ZdF] at h
     cases e with
     | normal =>
      injection h with h
      subst h
      exact hQ ι a w (Step.refl he) Dom.refl hT
     | exit j => exact ihB K (.exit j) T s st h ho ι a w hT he hf hQ
     | ret => exact ihB K .ret T s st h ho ι a w hT he hf hQ
def Into (nt m : Nat) (L : Nat → Option Value) (H : Tr AObj) (T : Tr Value) (s : St) (live : List Nat) : Prop :=
 live.length = m ∧ live.Nodup ∧
  (∀ t v, t < nt → L t = some v → v = Za5 (rho live far) 3 ((T.get t).getD undef) ∧ Zau 3 ((T.get t).getD undef) = true) ∧
  ∀ j o, H.get j = some o → ∃ k, live[j]? = some k ∧ match o with
   | .ro O m => s.h.get k = some (.ro O m)
   | .cells c t q => ∃ c' r, s.h.get k = some (.cells c' t q) ∧ c'.map (Za5 (rho live far) 1) = c ++ r ∧ (q = true → r = []) ∧ Z4 (Zau 1) c' = true
def ZdM (n : Nat) (live : List Nat) : Bool := (live.take n == List.range n) && Z4 (fun k => Nat.blt k 1000000000) live
theorem Zo8 {n : Nat} {live : List Nat} (h : ZdM n live = true) {k : Nat} (hk : k < n) : live[k]? = some k := by
 unfold ZdM at h
 rw [Bool.and_eq_true] at h
 have h := beq_iff_eq.1 h.1
 have : (live.take n)[k]? = some k := by rw [h]; simp [hk]
 rwa [List.getElem?_take_of_lt hk] at this
theorem ZnP {n : Nat} {live : List Nat} (h : ZdM n live = true) : ∀ k ∈ live, k < far := fun k hk => by
 unfold ZdM at h
 rw [Bool.and_eq_true] at h
 have := Zat h.2 k hk
 rw [Nat.blt_eq] at this
 exact this
end
end Ev
end Go.Proofs.YtlbbiflodemagaaDoor
/- Functions that panic, and such as recover what is thrown. -/
namespace Go.Proofs.YtlbbiflodemagaaDoor
open Go.RowKit
namespace Ev
noncomputable section
def Zp1 (P : Program) (ρ : Operand → Value) (o : Oper) (l : List Oper) : Option (Tmp × Value) :=
  match o.op with
  | .makeInterface _ x => match o.dst with
    | some d => match l with
      | o2 :: _ => match o2.op with
        | .panic y => match y with
          | .tmp d' => match o2.guard with
            | none => bif Nat.beq d' d && Zbv (ρ x) then match ZhB P (execOp (fun _ => ρ x) o) with
              | some (.value (.iface t u)) => some (d, .iface t u)
              | _ => none
              else none
            | _ => none
          | _ => none
        | _ => none
      | [] => none
    | none => none
  | _ => none
def Zhg (P : Program) (ext : FuncId → Option Ext) (nt : Nat) (call : FuncId → Array Value → St → Option (Value × St)) (fu : Nat) (ops : Array Oper) : List Oper → Tr Value → St → Option (Value × Tr Value × St)
  | [], _, _ => none
  | o :: l, T, s =>
    bif ZdL nt o.dst && Z4 Zew o.op.operands.toList then
      match ZdS ops T o s with
      | some (true, s1) => match Zp1 P (opnd T) o l with
        | some (d, v) => some (v, T.set d (some (.chan (some 0))), s1)
        | none => match Zf6 P ext fu (opnd T) o s1 with
          | some (v, s') => Zhg P ext nt call fu ops l (Zcr T o.dst v) s'
          | none => match Zk4 o with
            | some c => match callee (opnd T) c with
              | some (f, args) => match call f args s1 with
                | some (v, s') => some (v, T, s')
                | none => none
              | none => none
            | none => none
      | some (false, s1) => Zhg P ext nt call fu ops l (Zcr T o.dst undef) s1
      | none => none
    else none
def ZaX (P : Program) (ext : FuncId → Option Ext) (nt : Nat) (call : FuncId → Array Value → St → Option (Value × St)) : Nat → Code → Tr Value → St → Option (Value × Tr Value × St)
  | 0, _, _, _ => none
  | fu + 1, c, T, s => match c with
    | .seq a b => match Zal P ext nt fu a T s with
      | some (.normal, T', s') => ZaX P ext nt call fu b T' s'
      | some _ => none
      | none => ZaX P ext nt call fu a T s
    | .cond x a b => match opnd T x with
      | .bool t => match t with
        | true => ZaX P ext nt call fu a T s
        | false => ZaX P ext nt call fu b T s
      | _ => none
    | .block _ a => ZaX P ext nt call fu a T s
    | .loop a => match Zal P ext nt fu a T s with
      | some (.normal, T', s') => ZaX P ext nt call fu (.loop a) T' s'
      | some _ => none
      | none => ZaX P ext nt call fu a T s
    | .region _ ops draw => match draw with
      | true => none
      | false => Zhg P ext nt call fu ops ops.toList T s
    | _ => none
def Zd8 (P : Program) (ext : FuncId → Option Ext) : Nat → FuncId → Array Value → St → Option (Value × St)
  | 0, _, _, _ => none
  | fu + 1, f, args, s => match ext f with
   | some (.tc S) => match s.nextW with
    | (some (.call pre v post dn), s1) => match Zcs v with
      | true => Zln S args pre v post dn s1
      | false => none
    | _ => none
   | _ => match P.funcs[f]? with
    | some fn => match fn.body with
      | some c => bif Nat.ble args.size fn.ntmps then match ZaX P ext fn.ntmps (Zd8 P ext fu) fu c (ZcO 0 args.toList .nil) s with
        | some (v, _, s') => some (v, s')
        | none => none
        else none
      | none => none
    | none => none
end
section
variable {P : Program} {ext : FuncId → Option Ext}
def PostX (P : Program) (ι : Ren) (s : St) (w : World) (v : Value) (s' : St) (e : Ending) (w' : World) : Prop :=
  ∃ ι', e = .panicked (Ze0 v) ∧ Step P ι s.h.get w ι' s'.h.get w' ∧ Dom ι ι' s.n s'.n
def ZrN (P : Program) (ι : Ren) (s : St) (w : World) (nt : Nat) (D : List Deferred) (v : Value) (T' : Tr Value) (s' : St) (ex : Exit) (a' : Act) (w' : World) : Prop :=
  ∃ ι', ex = .panic (Ze0 v) ∧ Step P ι s.h.get w ι' s'.h.get w' ∧ Dom ι ι' s.n s'.n ∧ TR ι' nt D T' a'
structure Zlu (P : Program) (call : FuncId → Array Value → St → Option (Value × St)) : Prop where
  up : ∀ f args s v s', call f args s = some (v, s') → Up s s'
  body : ∀ f args s v s', call f args s = some (v, s') → ∃ (fn : Func) (c : Code), P.funcs[f]? = some fn ∧ fn.body = some c
  does : ∀ f args s v s', call f args s = some (v, s') → (∀ p ∈ s'.ob, p.1 = p.2) → ∀ ι w args', VRs ι args args' → Emb P ι s.h.get w → Fresh ι s.n s'.n → Calls P f args' w (PostX P ι s w v s')
theorem Ztc {ι : Ren} {nt : Nat} {D : List Deferred} {T : Tr Value} {a : Act} {w : World} {ops : Array Oper} {o : Oper} {l : List Oper} {d : Tmp} {v : Value} {Q : Exit → Act → World → Prop} (hT : TR ι nt D T a) (hg : ZdL nt o.dst = true) (hg2 : Z4 Zew o.op.operands.toList = true) (h : Zp1 P (opnd T) o l = some (d, v))
    (hQ : TR ι nt D (T.set d (some (.chan (some 0)))) (a.put (some d) v) → Q (.panic (Ze0 v)) (a.put (some d) v) w) : o.wp P a w (wpList P ops Q l) Q := by
  unfold Zp1 at h
  split at h
  · rename_i ty x hop
    split at h
    · rename_i d0 hd
      split at h
      · rename_i o2 l2
        split at h
        · rename_i y hop2
          split at h
          · rename_i d'
            split at h
            · rename_i hgd
              obtain ⟨hc, h⟩ := Zn h
              simp only [Bool.and_eq_true] at hc
              have hdd := Nat.eq_of_beq_eq_true hc.1
              subst hdd
              split at h
              · rename_i t u hp
                injection h with h; injection h with q1 q2; subst q1 q2
                have hx : Zbj a x = opnd T x := (hT.opnd x).eq_of_free hc.2
                have hex : execOp (Zbj a) o = execOp (fun _ => opnd T x) o := by simp only [execOp, hop, hx]
                unfold Oper.wp
                rw [← Zea (fun cs b e => by rw [hop] at e; cases e) hg2, hex, Zf7 w hp, Oper.upon_value, hd]
                have hT' : TR ι nt D (T.set d' (some (.chan (some 0)))) (a.put (some d') (.iface t u)) := by
                  rw [hd] at hg
                  exact hT.put (dst := some d') hg (.glob rfl)
                unfold wpList
                rw [if_pos (by simp [Region.wanted, hgd])]
                refine .inl ?_
                unfold Oper.wp
                have hlt : d' < a.tmps.size := by
                  rw [hd] at hg
                  rw [hT.1]
                  simpa [ZdL, Nat.blt_eq] using hg
                have hrun : (execOp (a.put (some d') (.iface t u)).eval o2).run P w = .halt (.panic (.iface t u)) w := by
                  simp only [execOp, hop2, Act.eval, Act.put]
                  rw [show (a.tmps.setIfInBounds d' (Value.iface t u)).getD d' undef = .iface t u from by simp [Array.getD, hlt]]
                  rfl
                rw [hrun, Oper.upon_panic]
                exact hQ hT'
              · cases h
            · cases h
          · cases h
        · cases h
      · cases h
    · cases h
  · cases h
theorem ZmQ (F : Fit P ext) {call : FuncId → Array Value → St → Option (Value × St)} (C : Zlu P call) {nt fu : Nat} {ops : Array Oper} : ∀ (l : List Oper) (T : Tr Value) (s : St) (v : Value) (T' : Tr Value) (s' : St), Zhg P ext nt call fu ops l T s = some (v, T', s') → Up s s'
  | [], T, s, v, T', s', h => by simp [Zhg] at h
  | o :: l, T, s, v, T', s', h => by
    simp only [Zhg] at h
    replace h := (Zn h).2
    have uP := (Zbf (P := P) (ext := ext) (fun f g hg => (F.hp f g hg).up) fu).2.2.1
    split at h
    · split at h
      · injection h with h; simp only [Prod.mk.injEq] at h; obtain ⟨_, _, rfl⟩ := h; exact ZaD (by assumption)
      · split at h
        · exact (ZaD (by assumption)).trans ((uP _ _ _ _ _ (by assumption)).trans (ZmQ F C l _ _ _ _ _ h))
        · split at h
          · split at h
            · split at h
              · injection h with h; simp only [Prod.mk.injEq] at h; obtain ⟨_, _, rfl⟩ := h
                exact (ZaD (by assumption)).trans (C.up _ _ _ _ _ (by assumption))
              · cases h
            · cases h
          · cases h
    · exact (ZaD (by assumption)).trans (ZmQ F C l _ _ _ _ _ h)
    · cases h
theorem ZhK (F : Fit P ext) {call : FuncId → Array Value → St → Option (Value × St)} (C : Zlu P call) {nt : Nat} : ∀ (fu : Nat) (c : Code) (T : Tr Value) (s : St) (v : Value) (T' : Tr Value) (s' : St), ZaX P ext nt call fu c T s = some (v, T', s') → Up s s'
  | 0, _, _, _, _, _, _, h => by simp [ZaX] at h
  | fu + 1, c, T, s, v, T', s', h => by
    have uC := (Zbf (P := P) (ext := ext) (fun f g hg => (F.hp f g hg).up) fu).1
    cases c <;> simp only [ZaX] at h
    case seq a b =>
      split at h
      · exact (uC _ _ _ _ _ _ _ (by assumption)).trans (ZhK F C fu _ _ _ _ _ _ h)
      · cases h
      · exact ZhK F C fu _ _ _ _ _ _ h
    case cond x a b =>
      split at h
      · split at h
        · exact ZhK F C fu _ _ _ _ _ _ h
        · exact ZhK F C fu _ _ _ _ _ _ h
      · cases h
    case block id a => exact ZhK F C fu _ _ _ _ _ _ h
    case loop a =>
      split at h
      · exact (uC _ _ _ _ _ _ _ (by assumption)).trans (ZhK F C fu _ _ _ _ _ _ h)
      · cases h
      · exact ZhK F C fu _ _ _ _ _ _ h
    case region id ops draw =>
      split at h
      · cases h
      · exact ZmQ F C _ _ _ _ _ _ h
    all_goals cases h
theorem Zlv (F : Fit P ext) {call : FuncId → Array Value → St → Option (Value × St)} (C : Zlu P call) {nt fu : Nat} {ops : Array Oper} : ∀ (l : List Oper) (T : Tr Value) (s : St) (v : Value) (T' : Tr Value) (s' : St), Zhg P ext nt call fu ops l T s = some (v, T', s') → (∀ p ∈ s'.ob, p.1 = p.2) →
    ∀ ι D a w (Q : Exit → Act → World → Prop), TR ι nt D T a → Emb P ι s.h.get w → Fresh ι s.n s'.n → (∀ ι' a' w', Step P ι s.h.get w ι' s'.h.get w' → Dom ι ι' s.n s'.n → TR ι' nt D T' a' → Q (.panic (Ze0 v)) a' w') → wpList P ops Q l a w
  | [], T, s, v, T', s', h => by simp [Zhg] at h
  | o :: l, T, s, v, T', s', h => by
    intro ho ι D a w Q hT he hf hQ
    simp only [Zhg] at h
    obtain ⟨hg, h⟩ := Zn h
    simp only [Bool.and_eq_true] at hg
    split at h
    · rename_i s1 hw
      have u1 := ZaD hw
      obtain ⟨hwant, e2, e3⟩ := ZbJ (fun t _ => hT.2.2 t) hw
      unfold wpList
      rw [if_pos hwant]
      split at h
      · rename_i d v0 ht
        injection h with h; simp only [Prod.mk.injEq] at h; obtain ⟨rfl, rfl, rfl⟩ := h
        exact .inl (Ztc hT hg.1 hg.2 ht fun hT' => hQ ι _ w (by rw [e2]; exact Step.refl he) (by rw [e3]; exact Dom.refl) (by first | exact hT' | (simp only [Act.put] at hT' ⊢; exact hT')))
      · split at h
        · rename_i v1 s2 hv
          have ua := Zbf (P := P) (ext := ext) (fun f g hg => (F.hp f g hg).up) fu
          have u2 := ua.2.2.1 _ _ _ _ _ hv
          have u3 := ZmQ F C _ _ _ _ _ _ h
          refine .inl ((Zcz F fu).2.2.1 (opnd T) (Zbj a) o s1 v1 s2 hv (Zai u3.ob ho) ι w hT.opnd (e2 ▸ he) (e3 ▸ (hf.mono (Nat.le_refl _) u3.n)) a _ _ (Zea (ZhH hv) hg.2).symm fun v' w' ι' g1 g2 g3 => ?_)
          rw [e2] at g1
          rw [e3] at g2
          have hle : s.n ≤ s2.n := by rw [← e3]; exact u2.n
          exact Zlv F C l (Zcr T o.dst v1) s2 v T' s' h ho ι' D _ w' Q ((hT.on g1.ext).put hg.1 g3) g1.emb (hf.after g2 hle) fun ι2 a2 w2 k1 k2 k3 => hQ ι2 a2 w2 (g1.trans k1) (g2.trans k2 hle u3.n) k3
        · split at h
          · rename_i c hc
            obtain ⟨hop, _⟩ := Zn5 hc
            split at h
            · rename_i f args hcal
              split at h
              · rename_i v1 s2 hcall
                injection h with h; simp only [Prod.mk.injEq] at h; obtain ⟨rfl, rfl, rfl⟩ := h
                obtain ⟨args', hrun, hargs⟩ := Zmo (P := P) hT.opnd hop hcal w
                rw [Zea (fun cs b e => by rw [hop] at e; cases e) hg.2] at hrun
                obtain ⟨fn, c', hfn, hb⟩ := C.body _ _ _ _ _ hcall
                refine .inl ?_
                unfold Oper.wp
                rw [hrun, Zcc hfn (F.go f fn hfn) hb, Oper.upon_enter]
                refine (C.does _ _ _ _ _ hcall ho ι w args' hargs (e2 ▸ he) (e3 ▸ hf)).mono ?_
                rintro e w2 ⟨ι2, rfl, k1, k2⟩
                exact hQ ι2 _ w2 (e2 ▸ k1) (e3 ▸ k2) (hT.on k1.ext)
              · cases h
            · cases h
          · cases h
    · rename_i s1 hw
      have u1 := ZaD hw
      obtain ⟨hwant, e2, e3⟩ := ZbJ (fun t _ => hT.2.2 t) hw
      unfold wpList
      rw [if_neg (by rw [hwant]; simp)]
      exact Zlv F C l (Zcr T o.dst undef) s1 v T' s' h ho ι D _ w Q (hT.put hg.1 VR.undef') (e2 ▸ he) (e3 ▸ hf) fun ι2 a2 w2 k1 k2 k3 => hQ ι2 a2 w2 (e2 ▸ k1) (e3 ▸ k2) k3
    · cases h
theorem Zo9 (F : Fit P ext) {call : FuncId → Array Value → St → Option (Value × St)} (C : Zlu P call) {nt : Nat} : ∀ (fu : Nat),
    (∀ (c : Code) (T : Tr Value) (s : St) (v : Value) (T' : Tr Value) (s' : St), ZaX P ext nt call fu c T s = some (v, T', s') → (∀ p ∈ s'.ob, p.1 = p.2) →
      ∀ ι D a w, TR ι nt D T a → Emb P ι s.h.get w → Fresh ι s.n s'.n → c.wp P (ZrN P ι s w nt D v T' s') a w) ∧
    (∀ (c : Code) (T : Tr Value) (s : St) (v : Value) (T' : Tr Value) (s' : St), ZaX P ext nt call fu (.loop c) T s = some (v, T', s') → (∀ p ∈ s'.ob, p.1 = p.2) →
      ∀ ι D a w, TR ι nt D T a → Emb P ι s.h.get w → Fresh ι s.n s'.n → Code.rounds P c (ZrN P ι s w nt D v T' s') fu a w) := by
  intro fu
  induction fu with
  | zero => exact ⟨fun _ _ _ _ _ _ h => by simp [ZaX] at h, fun _ _ _ _ _ _ h => by simp [ZaX] at h⟩
  | succ fu ih =>
    obtain ⟨ihC, ihL⟩ := ih
    have uC := (Zbf (P := P) (ext := ext) (fun f g hg => (F.hp f g hg).up) fu).1
    have sC := (Zcz F fu).1
    have loops : ∀ (c : Code) (T : Tr Value) (s : St) (v : Value) (T' : Tr Value) (s' : St), ZaX P ext nt call (fu + 1) (.loop c) T s = some (v, T', s') → (∀ p ∈ s'.ob, p.1 = p.2) →
        ∀ ι D a w, TR ι nt D T a → Emb P ι s.h.get w → Fresh ι s.n s'.n → Code.rounds P c (ZrN P ι s w nt D v T' s') (fu + 1) a w := by
      intro x T s v T' s' h ho ι D a w hT he hf
      simp only [ZaX] at h
      rw [rounds_succ]
      split at h
      · rename_i T1 s1 h1
        have u1 := uC _ _ _ _ _ _ _ h1
        have u2 := ZhK F C fu _ _ _ _ _ _ h
        refine wp_mono (sC nt x T s .normal T1 s1 h1 (Zai u2.ob ho) ι D a w hT he (hf.mono (Nat.le_refl _) u2.n)) ?_
        rintro ex a1 w1 ⟨rfl, ι1, g1, g2, g3⟩
        refine Zkn ?_ fu a1 w1 (ihL x T1 s1 v T' s' h ho ι1 D a1 w1 g3 g1.emb (hf.after g2 u1.n))
        rintro ex a2 w2 ⟨ι2, rfl, k1, k2, k3⟩
        exact ⟨ι2, rfl, g1.trans k1, g2.trans k2 u1.n u2.n, k3⟩
      · cases h
      · refine wp_mono (ihC x T s v T' s' h ho ι D a w hT he hf) ?_
        rintro ex a1 w1 ⟨ι1, rfl, g⟩
        exact ⟨ι1, rfl, g⟩
    refine ⟨fun c T s v T' s' h ho ι D a w hT he hf => ?_, loops⟩
    have h0 := h
    cases c <;> simp only [ZaX] at h
    case seq x y =>
      split at h
      · rename_i T1 s1 h1
        have u1 := uC _ _ _ _ _ _ _ h1
        have u2 := ZhK F C fu _ _ _ _ _ _ h
        refine wp_seq (wp_mono (sC nt x T s .normal T1 s1 h1 (Zai u2.ob ho) ι D a w hT he (hf.mono (Nat.le_refl _) u2.n)) ?_)
        rintro ex a1 w1 ⟨rfl, ι1, g1, g2, g3⟩
        refine wp_mono (ihC y T1 s1 v T' s' h ho ι1 D a1 w1 g3 g1.emb (hf.after g2 u1.n)) ?_
        rintro ex a2 w2 ⟨ι2, rfl, k1, k2, k3⟩
        exact ⟨ι2, rfl, g1.trans k1, g2.trans k2 u1.n u2.n, k3⟩
      · cases h
      · refine wp_seq (wp_mono (ihC x T s v T' s' h ho ι D a w hT he hf) ?_)
        rintro ex a1 w1 ⟨ι1, rfl, g⟩
        exact ⟨ι1, rfl, g⟩
    case cond x y z =>
      split at h
      · rename_i t ht
        have hx : a.eval x = .bool t := Zdv ((ht ▸ hT.opnd x : VR ι (.bool t) (Zbj a x)).bool_inv)
        split at h
        · exact wp_cond_true hx (ihC y T s v T' s' h ho ι D a w hT he hf)
        · exact wp_cond_false hx (ihC z T s v T' s' h ho ι D a w hT he hf)
      · cases h
    case block id x =>
      refine wp_block (wp_mono (ihC x T s v T' s' h ho ι D a w hT he hf) ?_)
      rintro ex a1 w1 ⟨ι1, rfl, g⟩
      exact ⟨ι1, rfl, g⟩
    case loop x => exact wp_loop_rounds (fu + 1) (loops x T s v T' s' h0 ho ι D a w hT he hf)
    case region id ops draw =>
      split at h
      · cases h
      · exact wp_region_list (Zlv F C _ T s v T' s' h ho ι D a w _ hT he hf fun ι' a' w' g1 g2 g3 => ⟨ι', rfl, g1, g2, g3⟩)
    all_goals cases h
theorem Zvl {ι : Ren} {v v' : Value} (ht : Zcs v = true) : ¬ VR ι v v' := by
  intro h
  cases h with
  | atom h =>
    unfold Zcs at ht
    split at ht
    · simp only [Ev.atom] at h
      simp [h] at ht
    · cases ht
  | _ => simp [Zcs] at ht
theorem Zlw (F : Fit P ext) : ∀ fu : Nat, Zlu P (Zd8 P ext fu)
  | 0 => ⟨fun _ _ _ _ _ h => by simp [Zd8] at h, fun _ _ _ _ _ h => by simp [Zd8] at h, fun _ _ _ _ _ h => by simp [Zd8] at h⟩
  | fu + 1 => by
    have C := Zlw F fu
    refine ⟨fun f args s v s' h => ?_, fun f args s v s' h => ?_, fun f args s v s' h ho ι w args' ha he hf => ?_⟩
    · simp only [Zd8] at h
      split at h
      · split at h
        · rename_i hw
          split at h
          · exact (ZQ hw).trans (ZrD h)
          · cases h
        · cases h
      · split at h
        · split at h
          · replace h := (Zn h).2
            split at h
            · injection h with h; injection h with q1 q2; subst q1 q2; exact ZhK F C _ _ _ _ _ _ _ (by assumption)
            · cases h
          · cases h
        · cases h
    · simp only [Zd8] at h
      split at h
      · rename_i S hx
        exact (F.tc f S hx).1
      · split at h
        · rename_i fn hfn
          split at h
          · rename_i c hb
            exact ⟨fn, c, hfn, hb⟩
          · cases h
        · cases h
    · simp only [Zd8] at h
      split at h
      · rename_i S hx
        split at h
        · rename_i pre u post dn s1 hw
          obtain ⟨e1, e2, _⟩ := ZV hw
          split at h
          · rename_i ht
            obtain ⟨rfl, h3⟩ := Zn3 (F.tc f S hx).2 h ho ha (e1 ▸ he) (e2 ▸ hf)
            refine h3.mono ?_
            rintro e w' (⟨v', ι', rfl, g1, g2, g3⟩ | ⟨_, ι', rfl, g1, g2⟩)
            · exact absurd g3 (Zvl ht)
            · exact ⟨ι', rfl, e1 ▸ g1, e2 ▸ g2⟩
          · cases h
        · cases h
      · split at h
        · rename_i fn hfn
          split at h
          · rename_i c hb
            obtain ⟨hsz, h⟩ := Zn h
            have hle : args.size ≤ fn.ntmps := Nat.le_of_ble_eq_true hsz
            split at h
            · rename_i v1 T1 s1 h1
              injection h with h; injection h with q1 q2; subst q1 q2
              refine calls_of_wp hfn hb (wp_mono ((Zo9 F C fu).1 c _ s _ T1 _ h1 ho ι [] _ w (Ze2 ha hle) he hf) ?_)
              rintro ex a1 w1 ⟨ι1, rfl, g1, g2, g3⟩
              exact ⟨g3.2.1, ι1, rfl, g1, g2⟩
            · cases h
          · cases h
        · cases h
end
end Ev
end Go.Proofs.YtlbbiflodemagaaDoor
/- What is known of a function, in blocks' numbers of its own; and what that says at a call. -/
namespace Go.Proofs.YtlbbiflodemagaaDoor
open Go.RowKit
namespace Ev
noncomputable section
def Zeb : Nat → List AObj → Tr AObj
 | _, [] => .nil
 | i, o :: l => (Zeb (i + 1) l).set i (some o)
theorem Zqw : ∀ (l : List AObj) (i k : Nat), (Zeb i l).get k = if i ≤ k then l[k - i]? else none
 | [], i, k => by
  show (Tr.nil : Tr AObj).get k = _
  rw [Tr.get_nil]
  split <;> simp
 | o :: l, i, k => by
  show ((Zeb (i + 1) l).set i (some o)).get k = _
  rw [Tr.get_set]
  by_cases hk : k = i
  ·subst hk; rw [Zw, if_pos (Nat.le_refl _)]; simp
  ·rw [Zm hk, Zqw l (i + 1) k]
   by_cases h : i + 1 ≤ k
   ·rw [if_pos h, if_pos (by omega)]
    have : k - i = (k - (i + 1)) + 1 := by omega
    rw [this, List.getElem?_cons_succ]
   ·rw [if_neg h, if_neg (by omega)]
end
def lk (l : List AObj) : AH := fun k => l[k]?
def lkO (l : List (Option AObj)) : AH := fun k => (l[k]?).join
theorem ZfA (l : List AObj) : (Zeb 0 l).get = lk l := funext fun k => by rw [Zqw]; simp [lk]
section
variable {P : Program} {ext : FuncId → Option Ext}
def Fin (P : Program) (ι : Ren) (pre : List AObj) (w : World) (v : Value) (post : List (Option AObj)) (e : Ending) (w' : World) : Prop :=
 (∃ v' ι', e = .returned v' ∧ Step P ι (lk pre) w ι' (lkO post) w' ∧ (∀ k, ι' k ≠ none → k < post.length ∨ far ≤ k) ∧ VR ι' v v') ∨ (Zcs v = true ∧ ∃ ι', e = .panicked (Ze0 v) ∧ Step P ι (lk pre) w ι' (lkO post) w' ∧ (∀ k, ι' k ≠ none → k < post.length ∨ far ≤ k))
def LSpec (P : Program) (f : FuncId) (A : Array Value) (pre : List AObj) (v : Value) (post : List (Option AObj)) : Prop :=
 ∀ ι w args', (∀ k, ι k ≠ none → k < pre.length ∨ Zf9 k) → VRs ι A args' → Emb P ι (lk pre) w → Calls P f args' w (Fin P ι pre w v post)
def ZoA (n0 : Nat) (v : Value) (post : List (Option AObj)) (u : Value) (s : St) (live : List Nat) : Prop :=
 live.length = post.length ∧ live.Nodup ∧ ZdM n0 live = true ∧ (v = Za5 (rho live far) 3 u ∧ Zau 3 u = true) ∧
  ∀ j o, lkO post j = some o → ∃ k, live[j]? = some k ∧ match o with
   | .ro O m => s.h.get k = some (.ro O m)
   | .cells c t q => ∃ c' r, s.h.get k = some (.cells c' t q) ∧ c'.map (Za5 (rho live far) 1) = c ++ r ∧ (q = true → r = []) ∧ Z4 (Zau 1) c' = true
theorem Zmp {ι0 ι : Ren} {pre : List AObj} {w0 w : World} {u v v' : Value} {post : List (Option AObj)} {s : St} {live : List Nat} (hle : post.length ≤ far) (hd : ∀ k, ι0 k ≠ none → k < pre.length ∨ Zf9 k) (h : ZoA pre.length v post u s live) (hS : Step P ι0 (lk pre) w0 ι s.h.get w) (hv : VR ι u v') : Fin P ι0 pre w0 v post (.returned v') w := by
 obtain ⟨h1, h2, h3, h4, h5⟩ := h
 have hT : TR ι 1 [] ((Tr.nil : Tr Value).set 0 (some u)) { tmps := #[v'], defers := [] } := ⟨rfl, rfl, fun t => by
  rw [Tr.get_set]
  by_cases ht : t = 0
  ·subst ht; rw [Zw]; exact hv
  ·rw [Zm ht, Tr.get_nil]
   have : (#[v'] : Array Value).getD t undef = undef := by simp [Array.getD, show ¬ t < 1 by omega]
   rw [this]
   exact VR.undef'⟩
 obtain ⟨gv, ι', hT', hS', hfr⟩ := ZwT hT hS live post.length far rfl (ZnP h3) h1 hle h2 (fun k hk => (hd k hk).imp (Zo8 h3) id) (fun _ => some v) (fun t x ht hx => by
  injection hx with hx
  subst hx
  obtain rfl : t = 0 := by omega
  rw [Tr.get_set, Zw]
  exact h4) (lkO post) h5
 refine .inl ⟨v', ι', rfl, hS', fun k hk => ?_, ?_⟩
 ·rcases Nat.lt_or_ge k post.length with h | h
  ·exact .inl h
  ·rcases Nat.lt_or_ge k far with h' | h'
   ·exact absurd (hfr k h h') hk
   ·exact .inr h'
 ·have := hT'.2.2 0
  rw [ZrL, if_pos (by omega)] at this
  exact this
theorem Zwf (F : Fit P ext) {f : FuncId} {fn : Func} {c : Code} (hfn : P.funcs[f]? = some fn) (hb : fn.body = some c) {A : Array Value} {pre : List AObj} {v : Value} {post : List (Option AObj)} (hA : Nat.ble A.size fn.ntmps = true) {fu : Nat} {orc : Orc} {st : Stop}
  (hev : ZgG P ext fn fn.ntmps fu c [] (ZcO 0 A.toList .nil) ⟨Zeb 0 pre, pre.length, [], orc, []⟩ = some st) (ho : ∀ p ∈ st.s.ob, p.1 = p.2) (hn : st.s.n ≤ far)
  (hto : ∀ ι0 w0, (∀ k, ι0 k ≠ none → k < pre.length ∨ Zf9 k) → ∀ ι' a' w', Step P ι0 (lk pre) w0 ι' st.s.h.get w' → Zrc P fn (Fin P ι0 pre w0 v post) (fun _ _ _ => False) fn.ntmps ι' a' w' st) : LSpec P f A pre v post := by
 intro ι w args' hd ha he
 refine calls_of_wp hfn hb ?_
 have := (Zwe F (R := Fin P ι pre w v post) (Nx := fun _ _ _ => False) fu).1 c [] _ _ st hev ho ι _ w (Ze2 ha (Nat.le_of_ble_eq_true hA)) (by show Emb P ι (Zeb 0 pre).get w; rw [ZfA]; exact he)
  ⟨hn, fun k h1 h2 => by
   cases hk : ι k with
   | none => rfl
   | some b => exact absurd (hd k (by rw [hk]; simp)) (by have h3 : pre.length ≤ k := h1; have h4 : st.s.n ≤ 1000000000 := hn; have h5 : k < st.s.n := h2; unfold Zf9; omega)⟩
  (fun ι' a' w' g1 _ => hto ι w hd ι' a' w' (by have := g1; simp only [ZfA] at this; exact this))
 exact this
theorem Zvm (F : Fit P ext) {f : FuncId} {fn : Func} {c : Code} (hfn : P.funcs[f]? = some fn) (hb : fn.body = some c) {A : Array Value} {pre : List AObj} {v u : Value} {post : List (Option AObj)} (hA : Nat.ble A.size fn.ntmps = true) {fu : Nat} {orc : Orc} {s : St}
  (hev : ZgG P ext fn fn.ntmps fu c [] (ZcO 0 A.toList .nil) ⟨Zeb 0 pre, pre.length, [], orc, []⟩ = some (.fin u s)) (ho : ∀ p ∈ s.ob, p.1 = p.2) (hn : s.n ≤ far) (hle : post.length ≤ far) (live : List Nat) (h : ZoA pre.length v post u s live) : LSpec P f A pre v post :=
 Zwf F hfn hb hA hev ho hn fun _ _ hd _ _ _ hS _ hv => Zmp hle hd h hS hv
/-! ### At a call -/
def ZbP (m : Nat) : Nat → Value → Bool
 | d + 1, .agg cs => Z4 (ZbP m d) cs.toList
 | d + 1, .tuple cs => Z4 (ZbP m d) cs.toList
 | _, .pointer (some ⟨k, _, none⟩) => Nat.blt k m
 | _, .slice (some ⟨k, _, none⟩) _ _ => Nat.blt k m
 | _, .pointer (some ⟨_, _, some _⟩) => true
 | _, .slice (some ⟨_, _, some _⟩) _ _ => true
 | _, .map (some k) => Nat.blt k m
 | _, v => atom v
theorem ZiV {ι ι2 : Ren} {ρ : Nat → Nat} {m : Nat} (hι : ∀ k b, k < m → ι k = some b → ι2 (ρ k) = some b) (hmk : ∀ b base id q, ι (Zav b base id) = some q → ι2 (Zav b base id) = some q) : ∀ (d : Nat) (v v' : Value), VR ι v v' → ZbP m d v = true → VR ι2 (Za5 ρ d v) v'
 | d, v, v', h, hd => by
  cases h with
  | atom h => rw [Zim d h]; exact .atom h
  | glob h => cases d <;> simp [ZbP, Ev.atom] at hd
  | ptr h => cases d <;> exact .ptr (hι _ _ (Nat.le_of_ble_eq_true hd) h)
  | map h => cases d <;> exact .map (hι _ _ (Nat.le_of_ble_eq_true hd) h)
  | slice h hn hc hq => cases d <;> exact .slice (hι _ _ (Nat.le_of_ble_eq_true hd) h) hn hc hq
  | slice0 h =>
   rename_i A _
   obtain ⟨k, o, sp⟩ := A
   cases sp <;> cases d <;> exact .slice0 h
  | mptr h => cases d <;> exact .mptr (hmk _ _ _ _ h)
  | mslice h hn hc => cases d <;> exact .mslice (hmk _ _ _ _ h) hn hc
  | func hs ht h1 h2 =>
   rename_i fn a a' b b'
   have ha : atom (.func fn a b) = true := by cases d <;> exact hd
   have e := VR.eq_of_atom ha (.func hs ht h1 h2)
   rw [e, Zim d ha]
   exact .atom ha
  | agg hs h1 =>
   cases d with
   | zero => simp [ZbP, Ev.atom] at hd
   | succ d =>
    simp only [ZbP] at hd
    obtain ⟨q1, q2⟩ := Zjh (f := Za5 ρ d) hs fun i x y hx hy => ZiV hι hmk d x y (h1 i x y hx hy) (ZaF hd i x hx)
    exact .agg q1 q2
  | tuple hs h1 =>
   cases d with
   | zero => simp [ZbP, Ev.atom] at hd
   | succ d =>
    simp only [ZbP] at hd
    obtain ⟨q1, q2⟩ := Zjh (f := Za5 ρ d) hs fun i x y hx hy => ZiV hι hmk d x y (h1 i x y hx hy) (ZaF hd i x hx)
    exact .tuple q1 q2
theorem ZnQ {ι ι2 : Ren} {f : Value → Value} {a a' : Array Value} (h : VRs ι (Zhf f a) a') (g : ∀ (i : Nat) x y, a[i]? = some x → VR ι (f x) y → VR ι2 x y) : VRs ι2 a a' := by
 rw [Zt0] at h
 refine ⟨by simpa using h.1, fun i x y hx hy => g i x y hx (h.2 i _ y (by rw [Array.getElem?_map, hx]; rfl) hy)⟩
theorem VR.agg_of {ι : Ren} {a : Array Value} {v' : Value} (h : VR ι (.agg a) v') : ∃ a', v' = .agg a' ∧ VRs ι a a' := by
 cases h with
 | atom h => simp [Ev.atom] at h
 | agg hs h1 => exact ⟨_, rfl, hs, h1⟩
theorem VR.tuple_of {ι : Ren} {a : Array Value} {v' : Value} (h : VR ι (.tuple a) v') : ∃ a', v' = .tuple a' ∧ VRs ι a a' := by
 cases h with
 | atom h => simp [Ev.atom] at h
 | tuple hs h1 => exact ⟨_, rfl, hs, h1⟩
theorem Zrd {ι ι2 : Ren} {ρ : Nat → Nat} {m : Nat} (hι : ∀ k b, k < m → ι (ρ k) = some b → ι2 k = some b) (hmk : ∀ b base id q, ι (Zav b base id) = some q → ι2 (Zav b base id) = some q) : ∀ (d : Nat) (v v' : Value), VR ι (Za5 ρ d v) v' → ZbP m d v = true → VR ι2 v v'
 | d, v, v', h, hd => by
  have at_ : atom v = true → VR ι2 v v' := fun ha => by
   rw [Zim d ha] at h
   rw [h.eq_of_atom ha]
   exact .atom ha
  cases v with
  | pointer a =>
   cases a with
   | none => exact at_ rfl
   | some a =>
    obtain ⟨k, o, sp⟩ := a
    cases sp with
    | some sp =>
     have h' : VR ι (.pointer (some ⟨k, o, some sp⟩)) v' := by cases d <;> exact h
     cases h' with
     | atom q => simp [Ev.atom] at q
     | mptr q => exact .mptr (hmk _ _ _ _ q)
    | none =>
     have hk : k < m := by cases d <;> exact Nat.le_of_ble_eq_true hd
     have h' : VR ι (.pointer (some ⟨ρ k, o, none⟩)) v' := by cases d <;> exact h
     cases h' with
     | atom q => simp [Ev.atom] at q
     | ptr q => exact .ptr (hι k _ hk q)
  | slice a n c =>
   cases a with
   | none =>
    have ha : atom (.slice none n c) = true := by cases d <;> exact hd
    exact at_ ha
   | some a =>
    obtain ⟨k, o, sp⟩ := a
    cases sp with
    | some sp =>
     have h' : VR ι (.slice (some ⟨k, o, some sp⟩) n c) v' := by cases d <;> exact h
     cases h' with
     | atom q => simp [Ev.atom] at q
     | mslice q hn hc => exact .mslice (hmk _ _ _ _ q) hn hc
     | slice0 h0 => exact .slice0 h0
    | none =>
     have hk : k < m := by cases d <;> exact Nat.le_of_ble_eq_true hd
     have h' : VR ι (.slice (some ⟨ρ k, o, none⟩) n c) v' := by cases d <;> exact h
     cases h' with
     | atom q => simp [Ev.atom] at q
     | slice q hn hc hq => exact .slice (hι k _ hk q) hn hc hq
     | slice0 h0 => exact .slice0 h0
  | map a =>
   cases a with
   | none =>
    have ha : atom (.map none) = true := rfl
    exact at_ ha
   | some k =>
    have hk : k < m := by cases d <;> exact Nat.le_of_ble_eq_true hd
    have h' : VR ι (.map (some (ρ k))) v' := by cases d <;> exact h
    cases h' with
    | atom q => simp [Ev.atom] at q
    | map q => exact .map (hι k _ hk q)
  | agg cs =>
   cases d with
   | zero => simp [ZbP, Ev.atom] at hd
   | succ d =>
    simp only [ZbP] at hd
    obtain ⟨a', rfl, ha⟩ := VR.agg_of (a := Zhf (Za5 ρ d) cs) h
    have := ZnQ ha fun i x y hx hv => Zrd hι hmk d x y hv (ZaF hd i x hx)
    exact .agg this.1 this.2
  | tuple cs =>
   cases d with
   | zero => simp [ZbP, Ev.atom] at hd
   | succ d =>
    simp only [ZbP] at hd
    obtain ⟨a', rfl, ha⟩ := VR.tuple_of (a := Zhf (Za5 ρ d) cs) h
    have := ZnQ ha fun i x y hx hv => Zrd hι hmk d x y hv (ZaF hd i x hx)
    exact .tuple this.1 this.2
  | _ => exact at_ (by cases d <;> exact hd)
def kap (κ : List Nat) (n j : Nat) : Nat := match κ[j]? with | some k => k | none => n + (j - κ.length)
theorem ZoB {κ : List Nat} {n j : Nat} (h : j < κ.length) : κ[j]? = some (kap κ n j) := by
 unfold kap
 rw [List.getElem?_eq_getElem h]
theorem Zvn {κ : List Nat} {n j : Nat} (h : κ.length ≤ j) : kap κ n j = n + (j - κ.length) := by
 unfold kap
 rw [List.getElem?_eq_none h]
def Zi9 (ρ : Nat → Nat) : AObj → AObj
 | .cells c t q => .cells (c.map (Za5 ρ 1)) t q
 | .ro O m => .ro O m
def ZkB (m : Nat) : AObj → Bool
 | .cells c _ _ => Z4 (ZbP m 1) c
 | .ro _ _ => true
theorem Ze3 {ρ : Nat → Nat} {o : AObj} : isC (some (Zi9 ρ o)) = isC (some o) := by
 cases o with
 | cells c t q => cases q with
  | false => rfl
  | true => cases c <;> rfl
 | ro O m => rfl
theorem ZmR {ρ : Nat → Nat} {o : AObj} : sol (some (Zi9 ρ o)) = sol (some o) := by
 cases o with
 | cells c t q => cases q with
  | false => rfl
  | true => cases c <;> rfl
 | ro O m => rfl
theorem ZnR : ∀ (n : Nat) (l : List Nat), l.Nodup → (∀ k ∈ l, k < n) → l.length ≤ n
 | 0, l, _, h => by
  cases l with
  | nil => exact Nat.le_refl _
  | cons x l => exact absurd (h x (List.mem_cons_self ..)) (Nat.not_lt_zero _)
 | n + 1, l, hn, h => by
  by_cases hm : n ∈ l
  ·have := ZnR n (l.erase n) (hn.erase n) (fun k hk => by
    have h1 := h k (List.mem_of_mem_erase hk)
    have hne : k ≠ n := fun e => by subst e; exact (hn.mem_erase_iff.1 hk).1 rfl
    omega)
   rw [List.length_erase_of_mem hm] at this
   omega
  ·have := ZnR n l hn (fun k hk => by
    have h1 := h k hk
    have : k ≠ n := fun e => hm (e ▸ hk)
    omega)
   omega
theorem ZwU {ρ : Nat → Nat} {d : Nat} {v : Value} (h : Zcs v = true) : Za5 ρ d v = v := by
 unfold Zcs at h
 split at h
 ·cases d <;> rfl
 ·cases h
theorem LSpec.call {f : FuncId} {A : Array Value} {pre : List AObj} {v : Value} {post : List (Option AObj)} (h : LSpec P f A pre v post) (κ : List Nat) (n : Nat) (hκ : κ.length = pre.length) (hnd : κ.Nodup) (hlt : ∀ k ∈ κ, k < n) (hle : pre.length ≤ post.length)
  (hA : Z4 (ZbP pre.length 3) A.toList = true) (hpre : ∀ o ∈ pre, ZkB pre.length o = true) (hv : (ZbP post.length 3 v || Zcs v) = true) (hpost : ∀ o, some o ∈ post → ZkB post.length o = true)
  {A' : Array Value} {pre' : List (Nat × AObj)} {v' : Value} {post' : List (Nat × Option AObj)} {dn : Nat} (eA : A' = Zhf (Za5 (kap κ n) 3) A) (ev : v' = Za5 (kap κ n) 3 v) (edn : pre.length + dn = post.length)
  (e1 : ∀ j o, pre[j]? = some o → Za2 (kap κ n j) pre' = some (Zi9 (kap κ n) o)) (e2 : ∀ k o, Za2 k pre' = some o → ∃ j, j < pre.length ∧ k = kap κ n j)
  (e3 : ∀ j, j < post.length → behind pre' post' (kap κ n j) = (lkO post j).map (Zi9 (kap κ n))) (e4 : ∀ k o, behind pre' post' k = some o → ∃ j, j < post.length ∧ k = kap κ n j) : ZB P f A' pre' v' post' n dn := by
 intro ι w args' ha he hf
 subst eA ev
 have kl : ∀ j, j < pre.length → kap κ n j ∈ κ := fun j hj => List.mem_of_getElem? (ZoB (n := n) (by omega : j < κ.length))
 have kn : ∀ j, j < pre.length → kap κ n j < n := fun j hj => hlt _ (kl j hj)
 have kg : ∀ j, pre.length ≤ j → kap κ n j = n + (j - pre.length) := fun j hj => by rw [← hκ]; exact Zvn (by omega)
 have kinj : ∀ i j, kap κ n i = kap κ n j → i = j := fun i j hij => by
  rcases Nat.lt_or_ge i pre.length with h1 | h1 <;> rcases Nat.lt_or_ge j pre.length with h2 | h2
  ·have a := ZoB (n := n) (by omega : i < κ.length)
   have b := ZoB (n := n) (by omega : j < κ.length)
   rw [hij, ← b] at a
   exact (List.getElem?_inj (by omega) hnd).1 a
  ·have := kn i h1; rw [hij, kg j h2] at this; omega
  ·have := kn j h2; rw [← hij, kg i h1] at this; omega
  ·rw [kg i h1, kg j h2] at hij; omega
 have hpn : pre.length ≤ n := hκ ▸ ZnR n κ hnd hlt
 have hnf : n + dn ≤ 1000000000 := hf.1
 let ιl : Ren := fun j => if j < pre.length then ι (kap κ n j) else if 1000000000 ≤ j ∧ j % 2 = 0 then ι j else none
 have hιm : ∀ b base id, ιl (Zav b base id) = ι (Zav b base id) := fun b base id => by
  have := ZhA b base id
  simp only [ιl]
  rw [if_neg (by omega), if_pos this]
 have hmkl : ∀ b base id q, ι (Zav b base id) = some q → ιl (Zav b base id) = some q := fun b base id q h => by rw [hιm]; exact h
 have hιl : ∀ j, j < pre.length → ιl j = ι (kap κ n j) := fun j hj => by simp [ιl, hj]
 have hl : ∀ k b, k < pre.length → ι (kap κ n k) = some b → ιl k = some b := fun k b hk hb => by rw [hιl k hk]; exact hb
 have hargs : VRs ιl A args' := ZnQ ha fun i x y hx hv => Zrd hl hmkl 3 x y hv (ZaF hA i x hx)
 have cr : ∀ {c : List Value} {C : Array Value}, Z4 (ZbP pre.length 1) c = true → CR ι (c.map (Za5 (kap κ n) 1)) C → CR ιl c C := fun {c C} hu hc => ⟨by simpa using hc.1, fun i x y hx hy => Zrd hl hmkl 1 x y (hc.2 i _ y (by rw [List.getElem?_map, hx]; rfl) hy) (Zat hu x (List.mem_of_getElem? hx))⟩
 have hemb : Emb P ιl (lk pre) w := by
  refine ⟨fun j c t q hj => ?_, fun j O hj => ?_, fun j j' b b' h1 h2 h3 h4 h5 => ?_, fun j b hj => ?_, fun b base id q hq => ?_, fun x hx => (he.tb x hx).imp fun q hq => hmkl _ _ _ _ hq⟩
  ·have hlt' : j < pre.length := (List.getElem?_eq_some_iff.1 hj).1
   obtain ⟨b, q1, ⟨z1, z2, z3⟩ | ⟨z1, C, q2, q3, q4⟩⟩ := he.obj _ _ t q (e1 j _ hj)
   ·exact ⟨b, by rw [hιl j hlt']; exact q1, .inl ⟨z1, List.map_eq_nil_iff.1 z2, z3⟩⟩
   ·exact ⟨b, by rw [hιl j hlt']; exact q1, .inr ⟨(Ze3 (ρ := kap κ n) (o := .cells c t q)).symm.trans z1, C, q2, cr (hpre _ (List.mem_of_getElem? hj)) q3, q4⟩⟩
  ·have hlt' : j < pre.length := (List.getElem?_eq_some_iff.1 hj).1
   obtain ⟨b, q1, q2⟩ := he.ro _ _ (e1 j _ hj)
   exact ⟨b, by rw [hιl j hlt']; exact q1, q2⟩
  ·obtain ⟨o, ho⟩ := Option.isSome_iff_exists.1 (ZbW h1)
   obtain ⟨o', ho'⟩ := Option.isSome_iff_exists.1 (ZeQ h2)
   have l1 : j < pre.length := (List.getElem?_eq_some_iff.1 ho).1
   have l2 : j' < pre.length := (List.getElem?_eq_some_iff.1 ho').1
   rw [hιl j l1] at h3
   rw [hιl j' l2] at h4
   have c1 : isC (Za2 (kap κ n j) pre') = true := by rw [e1 j o ho, Ze3, ← ho]; exact h1
   exact kinj j j' (he.inj _ _ b b' c1 (by show sol (Za2 (kap κ n j') pre') = true; rw [e1 j' o' ho', ZmR, ← ho']; exact h2) h3 h4 h5)
  ·by_cases hj' : j < pre.length
   ·rw [hιl j hj'] at hj; exact he.lt _ b hj
   ·simp only [ιl] at hj
    rw [if_neg hj'] at hj
    split at hj
    ·exact he.lt _ b hj
    ·cases hj
  ·rw [hιm] at hq
   obtain ⟨m1, m2, m3⟩ := he.mks b base id q hq
   refine ⟨m1, ⟨m2.1.on hmkl, fun o c hc => hmkl _ _ _ _ (m2.2 o c hc)⟩, fun k d hk hd => ?_⟩
   obtain ⟨o, ho⟩ := Option.isSome_iff_exists.1 (ZbW hk)
   have l1 : k < pre.length := (List.getElem?_eq_some_iff.1 ho).1
   rw [hιl k l1] at hd
   exact m3 (kap κ n k) d (by show isC (Za2 (kap κ n k) pre') = true; rw [e1 k o ho, Ze3, ← ho]; exact hk) hd
 refine (h ιl w args' (fun k hk => by
  by_cases h : k < pre.length
  ·exact .inl h
  ·simp only [ιl] at hk
   rw [if_neg h] at hk
   split at hk
   ·exact .inr (by assumption)
   ·exact absurd rfl hk) hargs hemb).mono ?_
 intro e w' hfin
 obtain ⟨ι2, hS, hdom, hfin⟩ : ∃ ι2, Step P ιl (lk pre) w ι2 (lkO post) w' ∧ (∀ k, ι2 k ≠ none → k < post.length ∨ far ≤ k) ∧ ((∃ v', e = .returned v' ∧ VR ι2 v v') ∨ (Zcs v = true ∧ e = .panicked (Ze0 v))) := by
  rcases hfin with ⟨v', ι2, q1, q2, q3, q4⟩ | ⟨q1, ι2, q2, q3, q4⟩
  ·exact ⟨ι2, q2, q3, .inl ⟨v', q1, q4⟩⟩
  ·exact ⟨ι2, q3, q4, .inr ⟨q1, q2⟩⟩
 have live : ∀ j, j < pre.length → ∃ b, ιl j = some b := fun j hj => hemb.live (k := j) (by simp [lk, hj])
 let ι' : Ren := fun k => match ι k with | some b => some b | none => if n ≤ k ∧ k < n + dn then ι2 (k - n + pre.length) else if 1000000000 ≤ k ∧ k % 2 = 0 then ι2 k else none
 have hold : ∀ k b, ι k = some b → ι' k = some b := fun k b hk => by simp [ι', hk]
 have hnew : ∀ k b, k < post.length → ι2 k = some b → ι' (kap κ n k) = some b := fun k b hk hb => by
  rcases Nat.lt_or_ge k pre.length with h1 | h1
  ·obtain ⟨c, hc⟩ := live k h1
   have := hS.ext k c hc
   rw [hb] at this
   injection this with this
   subst this
   rw [hιl k h1] at hc
   exact hold _ _ hc
  ·have e := kg k h1
   have hn : ι (kap κ n k) = none := hf.2 _ (by omega) (by omega)
   have : ι' (kap κ n k) = ι2 (kap κ n k - n + pre.length) := by simp only [ι', hn]; rw [if_pos ⟨by omega, by omega⟩]
   rw [this, e, show n + (k - pre.length) - n + pre.length = k by omega]
   exact hb
 have hback : ∀ k b, k < post.length → ι' (kap κ n k) = some b → ι2 k = some b := fun k b hk hb => by
  rcases Nat.lt_or_ge k pre.length with h1 | h1
  ·obtain ⟨c, hc⟩ := live k h1
   have q := hS.ext k c hc
   rw [hιl k h1] at hc
   rw [hold _ _ hc] at hb
   rw [q]; exact hb
  ·have e := kg k h1
   have hn : ι (kap κ n k) = none := hf.2 _ (by omega) (by omega)
   have : ι' (kap κ n k) = ι2 (kap κ n k - n + pre.length) := by simp only [ι', hn]; rw [if_pos ⟨by omega, by omega⟩]
   rw [this, e, show n + (k - pre.length) - n + pre.length = k by omega] at hb
   exact hb
 have hnewM : ∀ b base id q, ι2 (Zav b base id) = some q → ι' (Zav b base id) = some q := fun b base id q hq => by
  have hf := ZhA b base id
  cases hi : ι (Zav b base id) with
  | some c =>
   have := hS.ext _ c (hmkl _ _ _ _ hi)
   rw [hq] at this
   injection this with this
   subst this
   exact hold _ _ hi
  | none =>
   simp only [ι', hi]
   rw [if_neg (by omega), if_pos hf]
   exact hq
 have hbackM : ∀ b base id q, ι' (Zav b base id) = some q → ι2 (Zav b base id) = some q := fun b base id q hq => by
  have hf := ZhA b base id
  cases hi : ι (Zav b base id) with
  | some c =>
   rw [hold _ _ hi] at hq
   rw [← hq]
   exact hS.ext _ c (hmkl _ _ _ _ hi)
  | none =>
   simp only [ι', hi] at hq
   rw [if_neg (by omega), if_pos hf] at hq
   exact hq
 have inv : ∀ k o, behind pre' post' k = some o → ∃ j o0, j < post.length ∧ k = kap κ n j ∧ lkO post j = some o0 ∧ o = Zi9 (kap κ n) o0 := fun k o hk => by
  obtain ⟨j, hj, rfl⟩ := e4 k o hk
  rw [e3 j hj] at hk
  cases hp : lkO post j with
  | none => rw [hp] at hk; cases hk
  | some o0 => rw [hp] at hk; injection hk with hk; exact ⟨j, o0, hj, rfl, hp, hk.symm⟩
 have mem : ∀ {j o}, lkO post j = some o → some o ∈ post := fun {j o} hj => by
  unfold lkO at hj
  cases hp : post[j]? with
  | none => rw [hp] at hj; cases hj
  | some x => rw [hp] at hj; exact (show x = some o from hj) ▸ List.mem_of_getElem? hp
 suffices hmain : Step P ι (fun k => Za2 k pre') w ι' (behind pre' post') w' ∧ Dom ι ι' n (n + dn) by
  rcases hfin with ⟨v', q1, hvr⟩ | ⟨q1, q2⟩
  ·refine .inl ⟨v', ι', q1, hmain.1, hmain.2, ?_⟩
   have hu : ZbP post.length 3 v = true := by
    cases hu : ZbP post.length 3 v with
    | true => rfl
    | false => rw [hu] at hv; exact absurd hvr (Zvl hv)
   exact ZiV hnew hnewM 3 v v' hvr hu
  ·rw [ZwU q1]
   exact .inr ⟨q1, ι', q2, hmain.1, hmain.2⟩
 refine ⟨⟨hold, ⟨fun k c t q hk => ?_, fun k O hk => ?_, fun k k' b b' h1 h2 h3 h4 h5 => ?_, fun k b hk => ?_, fun b base id q hq => ?_, fun x hx => (hS.emb.tb x hx).imp fun q hq => hnewM _ _ _ _ hq⟩, hS.os, hS.tape, hS.output, hS.size, fun b hb hno => hS.frame b hb fun j c hj hc => ?_, fun k b h1 h2 => ?_, fun k h1 h2 => ?_, fun k h1 h2 => ?_⟩, fun k hk => ?_⟩
 ·obtain ⟨j, o0, hj, rfl, hp, ho⟩ := inv k _ hk
  cases o0 with
  | ro O => cases ho
  | cells c0 t0 q0 =>
   injection ho with q1 q2 q3
   subst q1 q2 q3
   obtain ⟨b, q1, ⟨z1, z2, z3⟩ | ⟨z1, C, q2, q3, q4⟩⟩ := hS.emb.obj j c0 _ _ hp
   ·exact ⟨b, hnew j b hj q1, .inl ⟨z1, by rw [z2]; rfl, z3⟩⟩
   have hu : Z4 (ZbP post.length 1) c0 = true := hpost _ (mem hp)
   refine ⟨b, hnew j b hj q1, .inr ⟨(Ze3 (ρ := kap κ n) (o := .cells c0 t q)).trans z1, C, q2, ⟨by simpa using q3.1, fun i x y hx hy => ?_⟩, q4⟩⟩
   rw [List.getElem?_map] at hx
   cases hz : c0[i]? with
   | none => rw [hz] at hx; cases hx
   | some z =>
    rw [hz] at hx
    injection hx with hx
    subst hx
    exact ZiV hnew hnewM 1 z y (q3.2 i z y hz hy) (Zat hu z (List.mem_of_getElem? hz))
 ·obtain ⟨j, o0, hj, rfl, hp, ho⟩ := inv k _ hk
  cases o0 with
  | cells c0 t0 => cases ho
  | ro O' m1 =>
   injection ho with q1 q2
   subst q1 q2
   obtain ⟨b, q1, q2⟩ := hS.emb.ro j _ hp
   exact ⟨b, hnew j b hj q1, q2⟩
 ·obtain ⟨o, ho⟩ := Option.isSome_iff_exists.1 (ZbW h1)
  obtain ⟨o', ho'⟩ := Option.isSome_iff_exists.1 (ZeQ h2)
  obtain ⟨j, o0, hj, rfl, hp, rfl⟩ := inv k _ ho
  obtain ⟨j', o0', hj', rfl, hp', rfl⟩ := inv k' _ ho'
  rw [ho, Ze3] at h1
  have h2' : sol (behind pre' post' (kap κ n j')) = true := h2
  rw [ho', ZmR] at h2'
  rw [hS.emb.inj j j' b b' (by rw [hp]; exact h1) (by rw [hp']; exact h2') (hback j b hj h3) (hback j' b' hj' h4) h5]
 ·cases hi : ι k with
  | some c =>
   have := hold k c hi
   rw [hk] at this; injection this with this; subst this
   exact Nat.lt_of_lt_of_le (he.lt k b hi) hS.size
  | none =>
   simp only [ι', hi] at hk
   split at hk
   ·exact hS.emb.lt _ b hk
   ·split at hk
    ·exact hS.emb.lt _ b hk
    ·cases hk
 ·have hq2 := hbackM b base id q hq
  obtain ⟨m1, m2, m3⟩ := hS.emb.mks b base id q hq2
  refine ⟨m1, ⟨m2.1.on hnewM, fun o c hc => hnewM _ _ _ _ (m2.2 o c hc)⟩, fun k d hk hd => ?_⟩
  obtain ⟨o, ho⟩ := Option.isSome_iff_exists.1 (ZbW hk)
  obtain ⟨j, o0, hj, rfl, hp, rfl⟩ := inv k _ ho
  have hk' : isC (behind pre' post' (kap κ n j)) = true := hk
  rw [ho, Ze3] at hk'
  exact m3 j d (by rw [hp]; exact hk') (hback j d hj hd)
 ·obtain ⟨o, ho⟩ := Option.isSome_iff_exists.1 (ZbW hj)
  have l1 : j < pre.length := (List.getElem?_eq_some_iff.1 ho).1
  rw [hιl j l1] at hc
  exact hno (kap κ n j) c (by rw [e1 j o ho, Ze3, ← ho]; exact hj) hc
 ·simp only [ι', h1] at h2
  split at h2
  ·rename_i hr
   have hnone : ιl (k - n + pre.length) = none := by simp only [ιl]; rw [if_neg (by omega), if_neg (by omega)]
   rcases hS.new _ b hnone h2 with h | ⟨j, c, hj, hc, he2⟩
   ·exact .inl h
   ·obtain ⟨o, ho⟩ := Option.isSome_iff_exists.1 (ZbW hj)
    have l1 : j < pre.length := (List.getElem?_eq_some_iff.1 ho).1
    rw [hιl j l1] at hc
    exact .inr ⟨kap κ n j, c, by rw [e1 j o ho, Ze3, ← ho]; exact hj, hc, he2⟩
  ·split at h2
   ·rename_i hr
    have hnone : ιl k = none := by simp only [ιl]; rw [if_neg (by omega), if_pos hr]; exact h1
    rcases hS.new _ b hnone h2 with h | ⟨j, c, hj, hc, he2⟩
    ·exact .inl h
    ·obtain ⟨o, ho⟩ := Option.isSome_iff_exists.1 (ZbW hj)
     have l1 : j < pre.length := (List.getElem?_eq_some_iff.1 ho).1
     rw [hιl j l1] at hc
     exact .inr ⟨kap κ n j, c, by rw [e1 j o ho, Ze3, ← ho]; exact hj, hc, he2⟩
   ·cases h2
 ·obtain ⟨o, ho⟩ := Option.isSome_iff_exists.1 (ZeQ h1)
  obtain ⟨j, o0, hj, rfl, hp, rfl⟩ := inv k _ ho
  rcases Nat.lt_or_ge j pre.length with l1 | l1
  ·obtain ⟨c, hc⟩ := live j l1
   have h1' : sol (behind pre' post' (kap κ n j)) = true := h1
   rw [ho, ZmR] at h1'
   have q := hS.alive j (by rw [hp]; exact h1') (by rw [hc]; simp)
   obtain ⟨o1, ho1⟩ := Option.isSome_iff_exists.1 (ZeQ q)
   show sol (Za2 (kap κ n j) pre') = true
   rw [e1 j o1 ho1, ZmR, ← ho1]
   exact q
  ·exact absurd (hf.2 _ (by rw [kg j l1]; omega) (by rw [kg j l1]; omega)) h2
 ·obtain ⟨o, ho⟩ := Option.isSome_iff_exists.1 (ZbW h1)
  obtain ⟨j, o0, hj, rfl, hp, rfl⟩ := inv k _ ho
  rcases Nat.lt_or_ge j pre.length with l1 | l1
  ·obtain ⟨c, hc⟩ := live j l1
   rw [ho, Ze3] at h1
   have q := hS.kind j (by rw [hp]; exact h1) (by rw [hc]; simp)
   obtain ⟨o1, ho1⟩ := Option.isSome_iff_exists.1 (ZbW q)
   rw [e1 j o1 ho1, Ze3, ← ho1]
   exact q
  ·exact absurd (hf.2 _ (by rw [kg j l1]; omega) (by rw [kg j l1]; omega)) h2
 ·cases hi : ι k with
  | some c => exact .inl (by simp)
  | none =>
   simp only [ι', hi] at hk
   split at hk
   ·rename_i hr; exact .inr (.inl hr)
   ·split at hk
    ·rename_i hr; exact .inr (.inr hr.1)
    ·exact absurd rfl hk
end
end Ev
end Go.Proofs.YtlbbiflodemagaaDoor
/- Tools of my own, over any program: contracts that hand back one value and leave what was there alone, and regions walked once in the class of worlds that are alike below a block. -/
namespace Go.Proofs.YtlbbiflodemagaaDoor
open Go.ChangeShapes Go.WideShapes Go.ChangeAt Go.RowKit

def Ret (v : Value) (w : World) (e : Ending) (w' : World) : Prop := e = .returned v ∧ Below w.heap.size w w'

def Cl (w : World) : Type := { w' : World // Below w.heap.size w w' }
def Cl.w {w : World} (x : Cl w) : World := x.1
theorem Cl.below {w : World} (x : Cl w) : Below w.heap.size w x.w := x.2
def Cl.start (w : World) : Cl w := ⟨w, Below.refl _ _⟩
instance (w : World) : Nonempty (Cl w) := ⟨Cl.start w⟩
theorem Cl.size {w : World} (x : Cl w) : w.heap.size ≤ x.w.heap.size := x.below.size
theorem Cl.cell {w : World} (x : Cl w) {b o : Nat} {v : Value} (hb : b < w.heap.size) (h : w.cell? ⟨b, o, none⟩ = some v) : x.w.cell? ⟨b, o, none⟩ = some v :=
 (x.below.cell (p := ⟨b, o, none⟩) hb).trans h
theorem Cl.frozen {w : World} (x : Cl w) {b o : Nat} {v : Bool} (hb : b < w.heap.size) (h : w.frozen? ⟨b, o, none⟩ = v) : x.w.frozen? ⟨b, o, none⟩ = v :=
 (x.below.frozen (p := ⟨b, o, none⟩) hb).trans h
theorem Cl.all {w : World} (_ : Cl w) (b o : Nat) (v : Value) (hb : b < w.heap.size) (h : w.cell? ⟨b, o, none⟩ = some v) : ∀ y : Cl w, y.w.cell? ⟨b, o, none⟩ = some v := fun y => y.cell hb h
theorem Cl.lt {w : World} (x : Cl w) {b : Nat} (h : b < w.heap.size) : b < x.w.heap.size := Nat.lt_of_lt_of_le h x.size
def Cl.on {w : World} (x : Cl w) {w' : World} (h : Below x.w.heap.size x.w w') : Cl w := ⟨w', x.below.trans (h.mono x.size)⟩
theorem Ret.next {w : World} {x : Cl w} {v : Value} {e : Ending} {w' : World} (h : Ret v x.w e w') : e = .returned v ∧ ∃ y : Cl w, w' = y.w :=
 ⟨h.1, x.on h.2, rfl⟩

theorem Ret.end {w W : World} {x : Cl W} {v : Value} (h : Below w.heap.size w W) : Ret v w (.returned v) x.w :=
 ⟨rfl, h.trans (x.below.mono h.size)⟩
theorem Ret.same {w : World} {v : Value} : Ret v w (.returned v) w := ⟨rfl, Below.refl _ _⟩
theorem Ret.alloc {w : World} {v : Value} (o : Obj) : Ret v w (.returned v) (w.alloc o) := ⟨rfl, (Below.refl _ _).alloc (Nat.le_refl _) _⟩

/-! ### Blocks that are known -/
def Has (W : World) (b : Nat) (cs : List Value) : Prop := b < W.heap.size ∧ ∀ i v, cs[i]? = some v → W.cell? ⟨b, i, none⟩ = some v ∧ W.frozen? ⟨b, i, none⟩ = false
section
variable {W : World} {b : Nat} {cs : List Value}
theorem Has.lt (h : Has W b cs) : b < W.heap.size := h.1
theorem Has.new (W : World) (cs : List Value) (t : TypeId) : Has (W.alloc (.cells cs.toArray t)) W.heap.size cs := by
 refine ⟨by simp, fun i v hi => ?_⟩
 have e : (W.alloc (.cells cs.toArray t)).heap[W.heap.size]? = some (.cells cs.toArray t (0, 0)) := heap_alloc_new W _
 refine ⟨?_, by simp only [World.frozen?, e]; simp⟩
 have := cell_of_row (W.alloc (.cells cs.toArray t)) W.heap.size i cs.toArray t (0, 0) e
 rw [this]; simpa using hi
theorem Has.below {W' : World} (h : Has W b cs) (hb : Below W.heap.size W W') : Has W' b cs :=
 ⟨Nat.lt_of_lt_of_le h.1 hb.size, fun i v hi => ⟨(hb.cell (p := ⟨b, i, none⟩) h.1).trans (h.2 i v hi).1, (hb.frozen (p := ⟨b, i, none⟩) h.1).trans (h.2 i v hi).2⟩⟩
theorem Has.ext (h : Has W b cs) (y : Cl W) : Has y.w b cs := h.below y.below
theorem Has.alloc (h : Has W b cs) (o : Obj) : Has (W.alloc o) b cs := h.below ((Below.refl _ _).alloc (Nat.le_refl _) _)
theorem Has.far (h : Has W b cs) {p : Addr} (hp : p.block ≠ b) (u : Value) : Has (W.setCell p u) b cs := by
 refine ⟨by simpa [World.setCell] using h.1, fun i v hi => ?_⟩
 have hb : (W.setCell p u).heap[b]? = W.heap[b]? := Below.heap_setCell W p u b (fun e => hp e.symm)
 exact ⟨(World.cell?_of_block (a := ⟨b, i, none⟩) hb).trans (h.2 i v hi).1, (World.frozen?_of_block (a := ⟨b, i, none⟩) hb).trans (h.2 i v hi).2⟩
theorem Has.at_ (h : Has W b cs) (i : Nat) (v : Value) (hi : cs[i]? = some v) : ∀ y : Cl W, y.w.cell? ⟨b, i, none⟩ = some v := fun y => ((h.ext y).2 i v hi).1
theorem Has.fr (h : Has W b cs) (i : Nat) (v : Value) (hi : cs[i]? = some v) : ∀ y : Cl W, y.w.frozen? ⟨b, i, none⟩ = false := fun y => ((h.ext y).2 i v hi).2
theorem Has.here (h : Has W b cs) (i : Nat) (v : Value) (hi : cs[i]? = some v) : W.cell? ⟨b, i, none⟩ = some v := (h.2 i v hi).1
end
theorem Cl.out {w W : World} (x : Cl W) (h : Below w.heap.size w W) : Below w.heap.size w x.w := h.trans (x.below.mono h.size)
theorem Ret.of {w T : World} {v : Value} (h : Below w.heap.size w T) : Ret v w (.returned v) T := ⟨rfl, h⟩
end Go.Proofs.YtlbbiflodemagaaDoor
/- The frame of every law, over any program: from 'called with whatever can be read, it hands back true and leaves what was there alone' to the row's own step. And how arguments are opened. -/
namespace Go.Proofs.YtlbbiflodemagaaDoor
open Go.ChangeShapes Go.WideShapes Go.ChangeAt Go.RowKit

section
variable {H : Type} {enc : TypeId × Value → H} {P : Program}

theorem Zmq (hl : laidOutB P = true) {W W' : World} (hb : Below W.heap.size W W') : ∀ {ts : List TypeId} {vs : List Value} {ds : List (DataW H)} {ps : List MemPlace},
  (ts.all fun t => P.readableRec t && decide (t < P.types.size)) = true → DataW.TrodAll enc P W 0 (fun _ => true) true ts vs ds ps → (∀ x ∈ ps, x.block < W.heap.size) →
  DataW.TrodAll enc P W' 0 (fun b => decide (b < W.heap.size)) true ts vs ds ps
 | [], vs, ds, ps, _, h, _ => by
  obtain ⟨rfl, rfl, rfl⟩ := trodAll_nil h
  exact trodAll_mk0
 | t :: ts, vs, ds, ps, ha, h, hlt => by
  obtain ⟨v, vs', d, ds', p, q, rfl, rfl, rfl, h0, r0⟩ := trodAll_cons h
  simp only [List.all_cons, Bool.and_eq_true, decide_eq_true_eq] at ha
  exact trodAll_cons_mk (Below.trod hl ha.1.1 ha.1.2 h0 hb fun x hx => hlt x (List.mem_append_left _ hx))
   (Zmq hl hb (by simpa using ha.2) r0 fun x hx => hlt x (List.mem_append_right _ hx))

end
end Go.Proofs.YtlbbiflodemagaaDoor
/- A round's frame: what the runner says of code holds there too. -/
namespace Go.Proofs.YtlbbiflodemagaaDoor
open Go.RowKit
namespace Ev
def Zj3 (o : Oper) : Bool := match o.op with | .defer _ => false | _ => true
def Zec : Code → Bool
 | .seq a b => Zec a && Zec b
 | .cond _ a b => Zec a && Zec b
 | .block _ a => Zec a
 | .loop a => Zec a
 | .region _ ops _ => Z4 Zj3 ops.toList
 | .scope _ => false
 | _ => true
abbrev Fr (r : Option Nat) : Fence := { Fence.wide with round := r }
theorem Zko {o : Oper} (h : Zj3 o = true) : ∀ c, o.op ≠ .defer c := fun c e => by unfold Zj3 at h; rw [e] at h; cases h
section
variable {P : Program} {ext : FuncId → Option Ext} {r : Option Nat}
theorem ZwV {n : Nat} {row : String} {args : Array Value} {w : World} {R : Value → World → Prop} (h : Rows P row args w R) : RowsIn (Fr r) n P row args w R := fun c cs _ => by
 obtain ⟨v, w', q, s⟩ := h c cs
 exact ⟨v, w', q, stepsIn_wide.2 s⟩
theorem Zwg {n f : Nat} {args : Array Value} {w : World} {R : Ending → World → Prop} (h : Calls P f args w R) : CallsIn (Fr r) n P f args w R := (callsIn_wide (n := n)).2 h
theorem Zp2 {o : Oper} {a : Act} {w : World} {K : Act → World → Prop} {Q0 Q : Exit → Act → World → Prop} (hq : ∀ e a w, e ≠ .normal → ¬ Q0 e a w) (hnd : ∀ c, o.op ≠ .defer c) (h : o.wp P a w K Q0) : o.wpIn (Fr r) 0 P a w K Q := by
 refine ⟨fun _ _ => trivial, ?_⟩
 rw [Oper.semAt_eq _ _ _ hnd]
 unfold Oper.wp at h
 generalize (execOp a.eval o).run P w = x at h ⊢
 have no : ∀ (e : Exit) (a : Act) (w : World), e ≠ .normal → Q0 e a w → False := fun e a w he hx => hq e a w he hx
 cases x with
 | ok nx w' =>
  cases nx with
  | value v => exact h
  | skip => exact h
  | defer d => exact h
  | enter f args =>
   refine ⟨fun e => (by cases e), Zwg (Calls.mono h ?_)⟩
   intro e w2 h2
   cases e with
   | returned v => exact h2
   | panicked chain => exact (no _ _ _ (by simp) h2).elim
   | outgrown => obtain ⟨a0, w0, h0⟩ := h2; exact (no _ _ _ (by simp) h0).elim
  | row row args => exact ⟨fun e => (by cases e), ZwV h⟩
  | _ => exact h.elim
 | halt x w' =>
  cases x with
  | panic v => exact (no _ _ _ (by simp) h).elim
  | _ => exact h.elim
def Zuu (Q : Exit → Act → World → Prop) : Exit → Act → World → Prop := fun e a w => e = .normal ∧ Q .normal a w
theorem ZrO {Q : Exit → Act → World → Prop} : ∀ e a w, e ≠ .normal → ¬ Zuu Q e a w := fun e a w he h => he h.1
theorem Zp3 {ops : Array Oper} {Q : Exit → Act → World → Prop} : ∀ (l : List Oper) (a : Act) (w : World), Z4 Zj3 l = true → wpList P ops (Zuu Q) l a w → wpListIn (Fr r) 0 P ops Q l a w
 | [], a, w, _, h => h.2
 | o :: l, a, w, hn, h => by
  have ho := Zko (Zat hn o (List.mem_cons_self ..))
  have hl : Z4 Zj3 l = true := Zpy fun x hx => Zat hn x (List.mem_cons_of_mem _ hx)
  unfold wpList at h
  unfold wpListIn
  split
  ·rename_i hw
   rw [if_pos hw] at h
   rcases h with h | ⟨_, a0, w0, h0⟩
   ·exact Zp2 ZrO ho (Oper.wp_mono (fun a w => Zp3 l a w hl) h)
   ·cases h0.1
  ·rename_i hw
   rw [if_neg hw] at h
   exact ⟨fun _ _ => trivial, Zp3 l _ w hl h⟩
theorem ZoC {ops : Array Oper} {Q : Exit → Act → World → Prop} {md : Region.Mode} (hn : Z4 Zj3 ops.toList = true) : ∀ (fuel : Nat) (listed : Array Bool) (a : Act) (w : World), wpAny P md ops (Zuu Q) fuel listed a w → wpAnyIn (Fr r) 0 P md ops Q fuel listed a w
 | 0, listed, a, w, h => ⟨h.1, h.2.2⟩
 | fuel + 1, listed, a, w, h => by
  refine ⟨fun e => (h.1 e).2, fun i hi => ?_⟩
  have hi := h.2 i hi
  unfold wpOp at hi
  unfold wpOpIn
  split
  ·rename_i ho
   rw [ho] at hi
   exact ZoC hn fuel _ a w hi
  ·rename_i o ho
   rw [ho] at hi
   simp only at hi
   have hd := Zko (Zat hn o (by simpa using Array.mem_of_getElem? ho))
   split
   ·rename_i hw
    rw [if_pos hw] at hi
    rcases hi with hi | ⟨_, a0, w0, h0⟩
    ·exact Zp2 ZrO hd (Oper.wp_mono (fun a w => ZoC hn fuel _ a w) hi)
    ·cases h0.1
   ·rename_i hw
    rw [if_neg hw] at hi
    exact ⟨fun _ _ => trivial, ZoC hn fuel _ _ w hi⟩
theorem ZiA {c : Code} {Q Q' : Exit → Act → World → Prop} (hq : ∀ e a w, Q e a w → Q' e a w) : ∀ (n : Nat) (a : Act) (w : World), Code.roundsIn (Fr r) 0 P c Q n a w → Code.roundsIn (Fr r) 0 P c Q' n a w
 | 0, _, _, h => h
 | n + 1, a, w, h => by
  rw [roundsIn_succ] at h ⊢
  refine wpIn_mono h ?_
  intro e a1 w1 h1
  cases e with
  | normal => exact ZiA hq n a1 w1 h1
  | _ => exact hq _ _ _ h1
theorem ZrP (F : Fit P ext) : ∀ fu : Nat,
  (∀ nt c T s e T' s', Zal P ext nt fu c T s = some (e, T', s') → Zec c = true → (∀ p ∈ s'.ob, p.1 = p.2) → ∀ ι D a w, TR ι nt D T a → Emb P ι s.h.get w → Fresh ι s.n s'.n → c.wpIn (Fr r) 0 P (ZeU P ι s w nt D e T' s') a w) ∧
  (∀ nt c T s e T' s', Zal P ext nt fu (.loop c) T s = some (e, T', s') → Zec c = true → (∀ p ∈ s'.ob, p.1 = p.2) → ∀ ι D a w, TR ι nt D T a → Emb P ι s.h.get w → Fresh ι s.n s'.n → Code.roundsIn (Fr r) 0 P c (ZeU P ι s w nt D e T' s') fu a w) := by
 intro fu
 induction fu with
 | zero => exact ⟨fun _ _ _ _ _ _ _ h => by simp [Zal] at h, fun _ _ _ _ _ _ _ h => by simp [Zal] at h⟩
 | succ fu ih =>
  obtain ⟨ihC, ihL⟩ := ih
  obtain ⟨upC, upO, upP, upF, upD, upE⟩ := Zbf (P := P) (ext := ext) (fun f g hg => (F.hp f g hg).up) fu
  have loops : ∀ nt c T s e T' s', Zal P ext nt (fu + 1) (.loop c) T s = some (e, T', s') → Zec c = true → (∀ p ∈ s'.ob, p.1 = p.2) → ∀ ι D a w, TR ι nt D T a → Emb P ι s.h.get w → Fresh ι s.n s'.n → Code.roundsIn (Fr r) 0 P c (ZeU P ι s w nt D e T' s') (fu + 1) a w := by
   intro nt x T s e T' s' h hn ho ι D a w hT he hf
   simp only [Zal] at h
   rw [roundsIn_succ]
   split at h
   ·rename_i T1 s1 h1
    have u1 := upC _ _ _ _ _ _ _ h1
    have u2 := upC _ _ _ _ _ _ _ h
    refine wpIn_mono (ihC nt x T s .normal T1 s1 h1 hn (Zai u2.ob ho) ι D a w hT he (hf.mono (Nat.le_refl _) u2.n)) ?_
    rintro ex a1 w1 ⟨rfl, ι1, g1, g2, g3⟩
    refine ZiA ?_ fu a1 w1 (ihL nt x T1 s1 e T' s' h hn ho ι1 D a1 w1 g3 g1.emb (hf.after g2 u1.n))
    rintro ex2 a2 w2 ⟨rfl, ι2, k1, k2, k3⟩
    exact ⟨rfl, ι2, g1.trans k1, g2.trans k2 u1.n u2.n, k3⟩
   ·rename_i i T1 s1 h1
    injection h with h; simp only [Prod.mk.injEq] at h; obtain ⟨rfl, rfl, rfl⟩ := h
    refine wpIn_mono (ihC nt x T s _ _ _ h1 hn ho ι D a w hT he hf) ?_
    rintro ex a1 w1 ⟨rfl, hq⟩
    exact ⟨rfl, hq⟩
   ·rename_i T1 s1 h1
    injection h with h; simp only [Prod.mk.injEq] at h; obtain ⟨rfl, rfl, rfl⟩ := h
    refine wpIn_mono (ihC nt x T s _ _ _ h1 hn ho ι D a w hT he hf) ?_
    rintro ex a1 w1 ⟨rfl, hq⟩
    exact ⟨rfl, hq⟩
   ·cases h
  refine ⟨fun nt c T s e T' s' h hn ho ι D a w hT he hf => ?_, loops⟩
  have base : ZeU P ι s w nt D .normal T s .normal a w ∧ ZeU P ι s w nt D .ret T s .ret a w ∧ ∀ i, ZeU P ι s w nt D (.exit i) T s (.exit i) a w :=
   ⟨⟨rfl, ι, Step.refl he, Dom.refl, hT⟩, ⟨rfl, ι, Step.refl he, Dom.refl, hT⟩, fun i => ⟨rfl, ι, Step.refl he, Dom.refl, hT⟩⟩
  have chain : ∀ {s1 : St} {T1 : Tr Value} {c2 : Code} {a1 : Act} {w1 : World} {ι1 : Ren}, Zec c2 = true → Up s s1 → Up s1 s' → Step P ι s.h.get w ι1 s1.h.get w1 → Dom ι ι1 s.n s1.n → TR ι1 nt D T1 a1 → Zal P ext nt fu c2 T1 s1 = some (e, T', s') →
    c2.wpIn (Fr r) 0 P (ZeU P ι s w nt D e T' s') a1 w1 := fun {s1 T1 c2 a1 w1 ι1} n2 u1 u2 h1 h2 h3 h4 => by
   refine wpIn_mono (ihC nt c2 T1 s1 e T' s' h4 n2 ho ι1 D a1 w1 h3 h1.emb ((hf.mono (Nat.le_refl _) (Nat.le_refl _)).after h2 u1.n)) ?_
   rintro ex a2 w2 ⟨rfl, ι2, g1, g2, g3⟩
   exact ⟨rfl, ι2, (Step.two ⟨h1, h2⟩ ⟨g1, g2⟩ u1.n u2.n).1, (Step.two ⟨h1, h2⟩ ⟨g1, g2⟩ u1.n u2.n).2, g3⟩
  have h0 := h
  cases c <;> simp only [Zal] at h
  case skip => injection h with h; simp only [Prod.mk.injEq] at h; obtain ⟨rfl, rfl, rfl⟩ := h; exact wpIn_skip base.1
  case label l => injection h with h; simp only [Prod.mk.injEq] at h; obtain ⟨rfl, rfl, rfl⟩ := h; exact wpIn_label base.1
  case scope c => cases hn
  case ret => injection h with h; simp only [Prod.mk.injEq] at h; obtain ⟨rfl, rfl, rfl⟩ := h; exact wpIn_ret base.2.1
  case exit id => injection h with h; simp only [Prod.mk.injEq] at h; obtain ⟨rfl, rfl, rfl⟩ := h; exact wpIn_exit (base.2.2 id)
  case seq x y =>
   simp only [Zec, Bool.and_eq_true] at hn
   split at h
   ·rename_i T1 s1 h1
    have u1 := upC _ _ _ _ _ _ _ h1
    have u2 := upC _ _ _ _ _ _ _ h
    refine wpIn_seq (wpIn_mono (ihC nt x T s .normal T1 s1 h1 hn.1 (Zai u2.ob ho) ι D a w hT he (hf.mono (Nat.le_refl _) u2.n)) ?_)
    rintro ex a1 w1 ⟨rfl, ι1, g1, g2, g3⟩
    exact chain hn.2 u1 u2 g1 g2 g3 h
   ·rename_i i T1 s1 h1
    injection h with h; simp only [Prod.mk.injEq] at h; obtain ⟨rfl, rfl, rfl⟩ := h
    refine wpIn_seq (wpIn_mono (ihC nt x T s _ _ _ h1 hn.1 ho ι D a w hT he hf) ?_)
    rintro ex a1 w1 ⟨rfl, hq⟩
    exact ⟨rfl, hq⟩
   ·rename_i T1 s1 h1
    injection h with h; simp only [Prod.mk.injEq] at h; obtain ⟨rfl, rfl, rfl⟩ := h
    refine wpIn_seq (wpIn_mono (ihC nt x T s _ _ _ h1 hn.1 ho ι D a w hT he hf) ?_)
    rintro ex a1 w1 ⟨rfl, hq⟩
    exact ⟨rfl, hq⟩
   ·cases h
  case cond x y z =>
   simp only [Zec, Bool.and_eq_true] at hn
   split at h
   ·rename_i t ht
    have hx : a.eval x = .bool t := Zdv ((ht ▸ hT.opnd x : VR ι (.bool t) (Zbj a x)).bool_inv)
    split at h
    ·exact wpIn_cond_true hx (ihC nt y T s e T' s' h hn.1 ho ι D a w hT he hf)
    ·exact wpIn_cond_false hx (ihC nt z T s e T' s' h hn.2 ho ι D a w hT he hf)
   ·cases h
  case block id x =>
   simp only [Zec] at hn
   split at h
   ·rename_i i T1 s1 h1
    cases hb : Nat.beq i id with
    | true =>
     rw [hb] at h
     injection h with h; simp only [Prod.mk.injEq] at h; obtain ⟨rfl, rfl, rfl⟩ := h
     refine wpIn_block (wpIn_mono (ihC nt x T s _ _ _ h1 hn ho ι D a w hT he hf) ?_)
     rintro ex a1 w1 ⟨rfl, hq⟩
     show if i = id then _ else _
     rw [if_pos (Nat.eq_of_beq_eq_true hb)]
     exact ⟨rfl, hq⟩
    | false =>
     rw [hb] at h
     injection h with h; simp only [Prod.mk.injEq] at h; obtain ⟨rfl, rfl, rfl⟩ := h
     refine wpIn_block (wpIn_mono (ihC nt x T s _ _ _ h1 hn ho ι D a w hT he hf) ?_)
     rintro ex a1 w1 ⟨rfl, hq⟩
     show if i = id then _ else _
     rw [if_neg (fun e => by rw [Zhd e] at hb; cases hb)]
     exact ⟨rfl, hq⟩
   ·rename_i T1 s1 h1
    injection h with h; simp only [Prod.mk.injEq] at h; obtain ⟨rfl, rfl, rfl⟩ := h
    refine wpIn_block (wpIn_mono (ihC nt x T s _ _ _ h1 hn ho ι D a w hT he hf) ?_)
    rintro ex a1 w1 ⟨rfl, hq⟩
    exact ⟨rfl, hq⟩
   ·rename_i T1 s1 h1
    injection h with h; simp only [Prod.mk.injEq] at h; obtain ⟨rfl, rfl, rfl⟩ := h
    refine wpIn_block (wpIn_mono (ihC nt x T s _ _ _ h1 hn ho ι D a w hT he hf) ?_)
    rintro ex a1 w1 ⟨rfl, hq⟩
    exact ⟨rfl, hq⟩
   ·cases h
  case loop x =>
   simp only [Zec] at hn
   exact wpIn_loop_rounds (fu + 1) (loops nt x T s e T' s' h0 hn ho ι D a w hT he hf)
  case region id ops draw =>
   simp only [Zec] at hn
   cases draw with
   | true =>
    simp only [cond_true] at h
    split at h
    ·rename_i es T1 s1 h1
     injection h with h; simp only [Prod.mk.injEq] at h; obtain ⟨rfl, rfl, rfl⟩ := h
     exact wpIn_region_any F.mixed (ZoC hn _ _ _ _ (ZrK F (fun fu' _ => (Zcz F fu').2.2.1) h1 ho hT he hf fun ι' a' w' g1 g2 g3 => ⟨rfl, rfl, ι', g1, g2, g3⟩))
    ·cases h
   | false =>
   simp only [cond_false] at h
   split at h
   ·rename_i T1 s1 h1
    injection h with h; simp only [Prod.mk.injEq] at h; obtain ⟨rfl, rfl, rfl⟩ := h
    exact wpIn_region_list (Zp3 _ _ _ hn ((Zcz F fu).2.1 nt ops ops.toList T s T1 s1 h1 ho ι D a w _ hT he hf fun ι' a' w' g1 g2 g3 => ⟨rfl, rfl, ι', g1, g2, g3⟩))
   ·cases h
  all_goals cases h
end
end Ev
end Go.Proofs.YtlbbiflodemagaaDoor
/- Ranges over functions: the rounds, the iterator, the statement. -/
namespace Go.Proofs.YtlbbiflodemagaaDoor
open Go.RowKit
namespace Ev
noncomputable section
structure Cx where
 nt : Nat
 T : Tr Value
 ps : Array Tmp
 asg : Code
 body : Code
def Zwh : List Tmp → List Value → Tr Value → Tr Value
 | t :: ts, v :: vs, T => Zwh ts vs (T.set t (some v))
 | _, _, T => T
def isN : Ex → Bool
 | .normal => true
 | _ => false
def pend : Ex → Option Ex
 | .normal => none
 | e => some e
def ZkC (P : Program) (ext : FuncId → Option Ext) (cx : Cx) (fu : Nat) (xs : List Value) (s : St) : Option (Ex × St) :=
 bif Nat.beq xs.length cx.ps.toList.length && Z4 (fun t => Nat.blt t cx.nt) cx.ps.toList && Zec cx.asg && Zec cx.body then
  match Zal P ext cx.nt fu cx.asg (Zwh cx.ps.toList xs cx.T) s with
  | some (.normal, T1, s1) => match Zal P ext cx.nt fu cx.body T1 s1 with
   | some (e, _, s2) => some (e, s2)
   | none => none
  | _ => none
 else none
def Zt4 (ys : List Tmp) (o : Oper) : Option (Array Operand) :=
 match o.op with
 | .call c => match c.callee with
  | .value (.tmp t) => bif Zkj t ys then some c.args else none
  | _ => none
 | _ => none
def ZoD (ys : List Tmp) (o : Oper) : Bool :=
 match o.op with
 | .move (.tmp t) => Zkj t ys
 | _ => false
def Zuv (dst : Option Tmp) (ys : List Tmp) : List Tmp := match dst with | some d => ys.filter (fun t => !Nat.beq t d) | none => ys
def addY (dst : Option Tmp) (ys : List Tmp) : List Tmp := match dst with | some d => d :: ys | none => ys
def Zgz (P : Program) (ext : FuncId → Option Ext) (nt : Nat) (cx : Cx) (fu : Nat) (ops : Array Oper) : List Oper → Tr Value → St → List Tmp → Option Ex → Option (Tr Value × St × List Tmp × Option Ex)
 | [], T, s, ys, pe => some (T, s, ys, pe)
 | o :: l, T, s, ys, pe =>
  bif ZdL nt o.dst && Z4 Zew o.op.operands.toList && (Zj3 o && o.guard.isNone) then
   match Zt4 ys o with
   | some xs => match pe with
    | none => match ZkC P ext cx fu (xs.toList.map (opnd T)) s with
     | some (e, s1) => Zgz P ext nt cx fu ops l (Zcr T o.dst (.bool (isN e))) s1 (Zuv o.dst ys) (pend e)
     | none => none
    | some _ => none
   | none => bif ZoD ys o then Zgz P ext nt cx fu ops l (Zcr T o.dst (.chan (some 0))) s (addY o.dst ys) pe
    else match Zf6 P ext fu (opnd T) o s with
     | some (v, s1) => Zgz P ext nt cx fu ops l (Zcr T o.dst v) s1 (Zuv o.dst ys) pe
     | none => none
  else none
def evI (P : Program) (ext : FuncId → Option Ext) (nt : Nat) (cx : Cx) : Nat → Code → Tr Value → St → List Tmp → Option Ex → Option (Ex × Tr Value × St × List Tmp × Option Ex)
 | 0, _, _, _, _, _ => none
 | fu + 1, c, T, s, ys, pe => match c with
  | .skip => some (.normal, T, s, ys, pe)
  | .ret => some (.ret, T, s, ys, pe)
  | .exit id => some (.exit id, T, s, ys, pe)
  | .seq a b => match evI P ext nt cx fu a T s ys pe with
   | some (.normal, T', s', ys', pe') => evI P ext nt cx fu b T' s' ys' pe'
   | some (.exit i, r) => some (.exit i, r)
   | some (.ret, r) => some (.ret, r)
   | none => none
  | .cond x a b => match opnd T x with
   | .bool t => match t with
    | true => evI P ext nt cx fu a T s ys pe
    | false => evI P ext nt cx fu b T s ys pe
   | _ => none
  | .block id a => match evI P ext nt cx fu a T s ys pe with
   | some (.exit i, r) => bif Nat.beq i id then some (.normal, r) else some (.exit i, r)
   | some (.normal, r) => some (.normal, r)
   | some (.ret, r) => some (.ret, r)
   | none => none
  | .loop a => match evI P ext nt cx fu a T s ys pe with
   | some (.normal, T', s', ys', pe') => evI P ext nt cx fu (.loop a) T' s' ys' pe'
   | some (.exit i, r) => some (.exit i, r)
   | some (.ret, r) => some (.ret, r)
   | none => none
  | .region _ ops draw => match draw with
   | true => none
   | false => match Zgz P ext nt cx fu ops ops.toList T s ys pe with
    | some (T', s', ys', pe') => some (.normal, T', s', ys', pe')
    | none => none
  | _ => none
def ZrQ (P : Program) (ext : FuncId → Option Ext) (nt fu : Nat) (g : Operand) (ps : Array Tmp) (asg body : Code) (T : Tr Value) (s : St) : Option (Ex × St) :=
 match opnd T g with
 | .func (.func gf) av bv => match P.funcs[gf]? with
  | some fn => match fn.body with
   | some c => bif Zew g && Nat.ble (av ++ #[Value.chan (some 0)] ++ bv).size fn.ntmps && Nat.beq fn.results.toList.length 0 then
     match evI P ext fn.ntmps ⟨nt, T, ps, asg, body⟩ fu c (ZcO 0 (av ++ #[Value.chan (some 0)] ++ bv).toList .nil) s [av.size] none with
     | some (.exit _, _) => none
     | some (_, _, s', _, none) => some (.normal, s')
     | some (_, _, s', _, some e) => bif isN e then none else some (e, s')
     | none => none
    else none
   | none => none
  | none => none
 | _ => none
def evR (P : Program) (ext : FuncId → Option Ext) (nt : Nat) : Nat → Code → Tr Value → St → Bool → Option (Ex × Tr Value × St × Bool)
 | 0, _, _, _, _ => none
 | fu + 1, c, T, s, m => match c with
  | .seq a b => match evR P ext nt fu a T s m with
   | some (.normal, T', s', m') => evR P ext nt fu b T' s' m'
   | some (.exit i, r) => some (.exit i, r)
   | some (.ret, r) => some (.ret, r)
   | none => none
  | .cond x a b => match opnd T x with
   | .bool t => match t with
    | true => evR P ext nt fu a T s m
    | false => evR P ext nt fu b T s m
   | _ => none
  | .block id a => match evR P ext nt fu a T s m with
   | some (.exit i, r) => bif Nat.beq i id then some (.normal, r) else some (.exit i, r)
   | some (.normal, r) => some (.normal, r)
   | some (.ret, r) => some (.ret, r)
   | none => none
  | .rangeFunc g ps asg body => bif m then none else match ZrQ P ext nt fu g ps asg body T s with
   | some (e, s') => some (e, T, s', true)
   | none => none
  | .region i ops draw => match Zal P ext nt (fu + 1) (.region i ops draw) T s with
   | some (e, T', s') => some (e, T', s', m)
   | none => none
  | .loop a => match Zal P ext nt (fu + 1) (.loop a) T s with
   | some (e, T', s') => some (e, T', s', m)
   | none => none
  | .skip => some (.normal, T, s, m)
  | .ret => some (.ret, T, s, m)
  | .exit id => some (.exit id, T, s, m)
  | _ => none
def ZhL (P : Program) (ext : FuncId → Option Ext) (fu : Nat) (f : FuncId) (args : Array Value) (s : St) : Out :=
 match P.funcs[f]? with
 | some fn => match fn.body with
  | some c => bif Nat.ble args.size fn.ntmps then match evR P ext fn.ntmps fu c (ZcO 0 args.toList .nil) s false with
   | some (.exit _, _) => none
   | some (_, T, s', _) => match ZaW P T s' fn.results.toList with
    | some [v] => some (v, s')
    | some vs => some (.tuple vs.toArray, s')
    | none => none
   | none => none
   else none
  | none => none
 | none => none
end
section
variable {P : Program} {ext : FuncId → Option Ext}
theorem Step.put {ι0 ι : Ren} {h0 h : AH} {w0 W : World} (st : Step P ι0 h0 w0 ι h W) {l : Nat} (hl : w0.heap.size ≤ l) (hn : ∀ k b, ι k = some b → b.1 ≠ l) (o : Obj) : Step P ι0 h0 w0 ι h (W.putObj l o) where
 ext := st.ext
 emb := ⟨fun k c t q hk => by
   obtain ⟨b, q1, hz⟩ := st.emb.obj k c t q hk
   exact ⟨b, q1, hz.imp id fun ⟨q0, C, q2, q3⟩ => ⟨q0, C, q2.on (World.putObj_heap_other (hn k b q1)), q3⟩⟩,
  fun k O hk => by
   obtain ⟨b, q1, q2⟩ := st.emb.ro k O hk
   exact ⟨b, q1, q2.on (World.putObj_heap_other (hn k b q1))⟩, st.emb.inj, fun k b hk => by
   have := st.emb.lt k b hk
   simpa [World.putObj] using this, fun b base id q hq => by
   obtain ⟨m1, m2, m3⟩ := st.emb.mks b base id q hq
   exact ⟨m1, ⟨m2.1.ext (fun _ _ h => h) (World.putObj_heap_other (by rw [← m1]; exact hn _ q hq)), m2.2⟩, m3⟩, st.emb.tb⟩
 os := st.os
 tape := st.tape
 output := st.output
 size := by have := st.size; simpa [World.putObj] using this
 frame := fun b hb hc => (World.putObj_heap_other (by omega)).trans (st.frame b hb hc)
 new := st.new
 alive := st.alive
 kind := st.kind
structure IS (P : Program) (ι0 : Ren) (h0 : AH) (w0 : World) (n0 : Nat) (cn : Nat) (cT : Tr Value) (ac : Act) (l K : Nat) (R : Loop) (ι : Ren) (s : St) (W : World) : Prop where
 st : Step P ι0 h0 w0 ι s.h.get W
 dm : Dom ι0 ι n0 s.n
 hn : n0 ≤ s.n
 tr : TR ι cn [] cT { tmps := ac.tmps, defers := [] }
 lo : W.heap[l]? = some (.loop R)
 de : W.heap[K]? = some (.deferred (some []))
 ll : w0.heap.size ≤ l
 lk : K ≠ l
 nl : ∀ k b, ι k = some b → b.1 ≠ l ∧ b.1 ≠ K
theorem ZnS {ι ι1 : Ren} {h h1 : AH} {W W1 : World} (g : Step P ι h W ι1 h1 W1) {l : Nat} (hl : l < W.heap.size) (hn : ∀ k b, ι k = some b → b.1 ≠ l) : (∀ k b, ι1 k = some b → b.1 ≠ l) ∧ W1.heap[l]? = W.heap[l]? := by
 refine ⟨fun k b hk => ?_, g.frame l hl fun k c _ hc => hn k c hc⟩
 cases hi : ι k with
 | some c =>
  have := g.ext k c hi
  rw [hk] at this
  injection this with this
  rw [this]; exact hn k c hi
 | none =>
  rcases g.new k b hi hk with h | ⟨j, c, _, hj, e⟩
  ·omega
  ·rw [← e]; exact hn j c hj
section
variable {ι0 : Ren} {h0 : AH} {w0 : World} {n0 cn : Nat} {cT : Tr Value} {ac : Act} {l K : Nat} {R : Loop}
theorem IS.step {ι ι1 : Ren} {s s1 : St} {W W1 : World} (I : IS P ι0 h0 w0 n0 cn cT ac l K R ι s W) (g1 : Step P ι s.h.get W ι1 s1.h.get W1) (g2 : Dom ι ι1 s.n s1.n) (hle : s.n ≤ s1.n) : IS P ι0 h0 w0 n0 cn cT ac l K R ι1 s1 W1 := by
 have hl : l < W.heap.size := (Array.getElem?_eq_some_iff.1 I.lo).1
 have hk : K < W.heap.size := (Array.getElem?_eq_some_iff.1 I.de).1
 obtain ⟨a1, a2⟩ := ZnS g1 hl fun k b h => (I.nl k b h).1
 obtain ⟨b1, b2⟩ := ZnS g1 hk fun k b h => (I.nl k b h).2
 exact ⟨I.st.trans g1, I.dm.trans g2 I.hn hle, Nat.le_trans I.hn hle, I.tr.on g1.ext, a2.trans I.lo, b2.trans I.de, I.ll, I.lk, fun k b h => ⟨a1 k b h, b1 k b h⟩⟩
theorem IS.put {ι : Ren} {s : St} {W : World} (I : IS P ι0 h0 w0 n0 cn cT ac l K R ι s W) (R' : Loop) : IS P ι0 h0 w0 n0 cn cT ac l K R' ι s (W.putObj l (.loop R')) := by
 have hl : l < W.heap.size := (Array.getElem?_eq_some_iff.1 I.lo).1
 exact ⟨I.st.put I.ll (fun k b h => (I.nl k b h).1) _, I.dm, I.hn, I.tr, World.putObj_heap_same hl, (World.putObj_heap_other I.lk).trans I.de, I.ll, I.lk, I.nl⟩
end
def Zxw : Ex → Code
 | .exit i => .exit i
 | _ => .ret
def Rp (R : Loop) : Option Ex → Loop
 | none => { R with state := .ready, pending := none }
 | some e => { R with state := .done, pending := some (Zxw e) }
theorem Zvo {ι : Ren} {nt : Nat} : ∀ (ps : List Tmp) (xs xs' : List Value) (T : Tr Value) (t : Array Value), TR ι nt [] T { tmps := t, defers := [] } → xs.length = ps.length → VRs ι xs.toArray xs'.toArray → Z4 (fun t => Nat.blt t nt) ps = true →
  TR ι nt [] (Zwh ps xs T) { tmps := (ps.zip xs').foldl (fun t p => t.setIfInBounds p.1 p.2) t, defers := [] }
 | [], xs, xs', T, t, hT, hl, hx, hp => by
  cases xs with
  | nil => exact hT
  | cons x xs => simp at hl
 | p :: ps, [], xs', T, t, hT, hl, hx, hp => by simp at hl
 | p :: ps, x :: xs, [], T, t, hT, hl, hx, hp => by have := hx.1; simp at this
 | p :: ps, x :: xs, x' :: xs', T, t, hT, hl, hx, hp => by
  have hp1 : ZdL nt (some p) = true := Zat hp p (List.mem_cons_self ..)
  have hp2 : Z4 (fun t => Nat.blt t nt) ps = true := Zpy fun y hy => Zat hp y (List.mem_cons_of_mem _ hy)
  have h1 : VR ι x x' := hx.2 0 x x' (by simp) (by simp)
  have h2 : VRs ι xs.toArray xs'.toArray := ⟨by have := hx.1; simpa using this, fun i y y' hy hy' => hx.2 (i + 1) y y' (by simpa using hy) (by simpa using hy')⟩
  exact Zvo ps xs xs' (T.set p (some x)) (t.setIfInBounds p x') (hT.put (dst := some p) hp1 h1) (by simpa using hl) h2 hp2
section
variable {ι0 : Ren} {h0 : AH} {w0 : World} {n0 : Nat} {ac : Act} {l K : Nat} {R : Loop} {cx : Cx}
theorem Ztd (F : Fit P ext) {fu : Nat} {xs : List Value} {s s' : St} {e : Ex} (h : ZkC P ext cx fu xs s = some (e, s')) (ho : ∀ p ∈ s'.ob, p.1 = p.2) {ι : Ren} {W : World}
  (hR : R.tmps = ac.tmps ∧ R.params = cx.ps ∧ R.assign = cx.asg ∧ R.body = cx.body) (I : IS P ι0 h0 w0 n0 cx.nt cx.T ac l K (Rp R none) ι s W) (hf : Fresh ι s.n s'.n) {xs' : Array Value} (hx : VRs ι xs.toArray xs') :
  ∃ tm, (Instr.yield l xs').run P W = .ok (.round l R.fn tm cx.asg cx.body) W ∧
   RoundIn (Fr none) 0 P l R.fn tm cx.asg cx.body W fun en W' => en = .returned (.bool (isN e)) ∧ ∃ ι', (∀ k b, ι k = some b → ι' k = some b) ∧ Dom ι ι' s.n s'.n ∧ IS P ι0 h0 w0 n0 cx.nt cx.T ac l K (Rp R (pend e)) ι' s' W' := by
 unfold ZkC at h
 obtain ⟨hg, h⟩ := Zn h
 simp only [Bool.and_eq_true] at hg
 obtain ⟨⟨⟨hl, hps⟩, hna⟩, hnb⟩ := hg
 have hl := Nat.eq_of_beq_eq_true hl
 obtain ⟨upC, _⟩ := Zbf (P := P) (ext := ext) (fun f g hg => (F.hp f g hg).up) fu
 split at h
 ·rename_i T1 s1 h1
  split at h
  ·rename_i e' T2 s2 h2
   injection h with h; injection h with q1 q2; subst q1 q2
   have u1 := upC _ _ _ _ _ _ _ h1
   have u2 := upC _ _ _ _ _ _ _ h2
   have hy := run_yield (P := P) (args := xs') I.lo (by
    show xs'.size = R.params.size
    rw [hR.2.1]
    have a := hx.1
    have b := hl
    simp only [List.size_toArray, Array.length_toList] at a b
    omega)
   have e1 : (Rp R none).tmps = ac.tmps := hR.1
   have e2 : (Rp R none).params = cx.ps := hR.2.1
   have e3 : (Rp R none).assign = cx.asg := hR.2.2.1
   have e4 : (Rp R none).body = cx.body := hR.2.2.2
   have e5 : (Rp R none).fn = R.fn := rfl
   rw [e1, e2, e3, e4, e5] at hy
   refine ⟨_, hy, ?_⟩
   have htr := Zvo cx.ps.toList xs xs'.toList cx.T ac.tmps I.tr hl (by simpa using hx) hps
   have hfold : (cx.ps.zip xs').foldl (fun (tmps : Array Value) (x : Tmp × Value) => match x with | (t, a) => tmps.setIfInBounds t a) ac.tmps = (cx.ps.toList.zip xs'.toList).foldl (fun t p => t.setIfInBounds p.1 p.2) ac.tmps := by
    rw [← Array.foldl_toList, Array.toList_zip]
   rw [hfold]
   refine roundIn_of_wpIn (F := Fr none) trivial ?_
   refine wpIn_mono (((ZrP (r := some l) F fu).1 cx.nt cx.asg _ s .normal T1 s1 h1 hna (Zai u2.ob ho) ι [] _ W htr I.st.emb (hf.mono (Nat.le_refl _) u2.n)) : Code.wpIn (Fr (some l)) 0 P _ _ _ W) ?_
   rintro ex a1 w1 ⟨rfl, ι1, g1, g2, g3⟩
   have I1 := I.step g1 g2 u1.n
   refine ⟨_, run_beginRound I1.lo rfl, ?_⟩
   have I2 := I1.put { Rp R none with state := .busy }
   refine wpIn_mono (((ZrP (r := some l) F fu).1 cx.nt cx.body T1 s1 e' T2 s2 h2 hnb ho ι1 [] a1 _ g3 I2.st.emb (hf.after g2 u1.n)) : Code.wpIn (Fr (some l)) 0 P _ _ _ _) ?_
   rintro ex a2 w2 ⟨rfl, ι2, k1, k2, k3⟩
   have I3 := I2.step k1 k2 u2.n
   have hext : ∀ k b, ι k = some b → ι2 k = some b := fun k b hk => k1.ext k b (g1.ext k b hk)
   have hdom : Dom ι ι2 s.n s2.n := g2.trans k2 u1.n u2.n
   cases e' with
   | normal => exact ⟨_, _, run_endRound none I3.lo, rfl, ι2, hext, hdom, I3.put _⟩
   | ret => exact ⟨_, _, run_endRound (some .ret) I3.lo, rfl, ι2, hext, hdom, I3.put _⟩
   | exit i => exact ⟨_, _, run_endRound (some (.exit i)) I3.lo, rfl, ι2, hext, hdom, I3.put _⟩
  ·cases h
 ·cases h
end
end
end Ev
end Go.Proofs.YtlbbiflodemagaaDoor
/- Ranges over functions: the iterator's code, the statement, the function. -/
namespace Go.Proofs.YtlbbiflodemagaaDoor
open Go.RowKit
namespace Ev
section
variable {P : Program} {ext : FuncId → Option Ext}
theorem ZrR (F : Fit P ext) {cx : Cx} {fu : Nat} {xs : List Value} {s s' : St} {e : Ex} (h : ZkC P ext cx fu xs s = some (e, s')) : Up s s' := by
 unfold ZkC at h
 obtain ⟨_, h⟩ := Zn h
 obtain ⟨upC, _⟩ := Zbf (P := P) (ext := ext) (fun f g hg => (F.hp f g hg).up) fu
 split at h
 ·rename_i T1 s1 h1
  split at h
  ·rename_i e' T2 s2 h2
   injection h with h; injection h with q1 q2; subst q1 q2
   exact (upC _ _ _ _ _ _ _ h1).trans (upC _ _ _ _ _ _ _ h2)
  ·cases h
 ·cases h
theorem Zji (F : Fit P ext) {nt : Nat} {cx : Cx} {fu : Nat} {ops : Array Oper} : ∀ (l : List Oper) (T : Tr Value) (s : St) (ys : List Tmp) (pe : Option Ex) (T' : Tr Value) (s' : St) (ys' : List Tmp) (pe' : Option Ex), Zgz P ext nt cx fu ops l T s ys pe = some (T', s', ys', pe') → Up s s'
 | [], T, s, ys, pe, T', s', ys', pe', h => by
  simp only [Zgz] at h
  injection h with h; simp only [Prod.mk.injEq] at h; obtain ⟨rfl, rfl, rfl, rfl⟩ := h
  exact Up.refl _
 | o :: l, T, s, ys, pe, T', s', ys', pe', h => by
  simp only [Zgz] at h
  obtain ⟨_, h⟩ := Zn h
  split at h
  ·split at h
   ·split at h
    ·rename_i e s1 h1
     exact (ZrR F h1).trans (Zji F l _ _ _ _ _ _ _ _ h)
    ·cases h
   ·cases h
  ·cases hm : ZoD ys o with
   | true => rw [hm] at h; exact Zji F l _ _ _ _ _ _ _ _ h
   | false =>
    rw [hm] at h
    simp only [cond_false] at h
    split at h
    ·rename_i v s1 h1
     exact ((Zbf (P := P) (ext := ext) (fun f g hg => (F.hp f g hg).up) fu).2.2.1 _ _ _ _ _ h1).trans (Zji F l _ _ _ _ _ _ _ _ h)
    ·cases h
theorem Ze4 (F : Fit P ext) {nt : Nat} {cx : Cx} : ∀ (fu : Nat) (c : Code) (T : Tr Value) (s : St) (ys : List Tmp) (pe : Option Ex) (e : Ex) (T' : Tr Value) (s' : St) (ys' : List Tmp) (pe' : Option Ex), evI P ext nt cx fu c T s ys pe = some (e, T', s', ys', pe') → Up s s'
 | 0, _, _, _, _, _, _, _, _, _, _, h => by simp [evI] at h
 | fu + 1, c, T, s, ys, pe, e, T', s', ys', pe', h => by
  cases c <;> simp only [evI] at h
  case skip => injection h with h; simp only [Prod.mk.injEq] at h; obtain ⟨rfl, rfl, rfl, rfl, rfl⟩ := h; exact Up.refl _
  case ret => injection h with h; simp only [Prod.mk.injEq] at h; obtain ⟨rfl, rfl, rfl, rfl, rfl⟩ := h; exact Up.refl _
  case exit id => injection h with h; simp only [Prod.mk.injEq] at h; obtain ⟨rfl, rfl, rfl, rfl, rfl⟩ := h; exact Up.refl _
  case seq x y =>
   split at h
   ·rename_i T1 s1 ys1 pe1 h1; exact (Ze4 F fu _ _ _ _ _ _ _ _ _ _ h1).trans (Ze4 F fu _ _ _ _ _ _ _ _ _ _ h)
   ·rename_i i r h1; injection h with h; simp only [Prod.mk.injEq] at h; obtain ⟨rfl, rfl⟩ := h; exact Ze4 F fu _ _ _ _ _ _ _ _ _ _ h1
   ·rename_i r h1; injection h with h; simp only [Prod.mk.injEq] at h; obtain ⟨rfl, rfl⟩ := h; exact Ze4 F fu _ _ _ _ _ _ _ _ _ _ h1
   ·cases h
  case cond x y z =>
   split at h
   ·split at h
    ·exact Ze4 F fu _ _ _ _ _ _ _ _ _ _ h
    ·exact Ze4 F fu _ _ _ _ _ _ _ _ _ _ h
   ·cases h
  case block id x =>
   split at h
   ·rename_i i r h1
    cases hb : Nat.beq i id with
    | true => rw [hb] at h; injection h with h; simp only [Prod.mk.injEq] at h; obtain ⟨rfl, rfl⟩ := h; exact Ze4 F fu _ _ _ _ _ _ _ _ _ _ h1
    | false => rw [hb] at h; injection h with h; simp only [Prod.mk.injEq] at h; obtain ⟨rfl, rfl⟩ := h; exact Ze4 F fu _ _ _ _ _ _ _ _ _ _ h1
   ·rename_i r h1; injection h with h; simp only [Prod.mk.injEq] at h; obtain ⟨rfl, rfl⟩ := h; exact Ze4 F fu _ _ _ _ _ _ _ _ _ _ h1
   ·rename_i r h1; injection h with h; simp only [Prod.mk.injEq] at h; obtain ⟨rfl, rfl⟩ := h; exact Ze4 F fu _ _ _ _ _ _ _ _ _ _ h1
   ·cases h
  case loop x =>
   split at h
   ·rename_i T1 s1 ys1 pe1 h1; exact (Ze4 F fu _ _ _ _ _ _ _ _ _ _ h1).trans (Ze4 F fu _ _ _ _ _ _ _ _ _ _ h)
   ·rename_i i r h1; injection h with h; simp only [Prod.mk.injEq] at h; obtain ⟨rfl, rfl⟩ := h; exact Ze4 F fu _ _ _ _ _ _ _ _ _ _ h1
   ·rename_i r h1; injection h with h; simp only [Prod.mk.injEq] at h; obtain ⟨rfl, rfl⟩ := h; exact Ze4 F fu _ _ _ _ _ _ _ _ _ _ h1
   ·cases h
  case region id ops draw =>
   split at h
   ·cases h
   ·split at h
    ·rename_i T1 s1 ys1 pe1 h1
     injection h with h; simp only [Prod.mk.injEq] at h; obtain ⟨rfl, rfl, rfl, rfl, rfl⟩ := h
     exact Zji F _ _ _ _ _ _ _ _ _ h1
    ·cases h
  all_goals cases h
def YS (l : Nat) (ys : List Tmp) (a : Act) : Prop := ∀ t ∈ ys, a.tmps.getD t undef = .func (.yield l) #[] #[]
theorem YS.drop {l : Nat} {ys : List Tmp} {a : Act} {nt : Nat} (h : YS l ys a) (hs : a.tmps.size = nt) {dst : Option Tmp} (hd : ZdL nt dst = true) (v : Value) : YS l (Zuv dst ys) (a.put dst v) := fun t ht => by
 rw [ZnN hs hd]
 cases dst with
 | none => rw [if_neg (by simp)]; exact h t ht
 | some d =>
  have ht : t ∈ ys.filter (fun t => !Nat.beq t d) := ht
  obtain ⟨h1, h2⟩ := List.mem_filter.1 ht
  have : ¬ d = t := fun e => by subst e; simp at h2
  rw [if_neg (by simpa using this)]
  exact h t h1
theorem YS.add {l : Nat} {ys : List Tmp} {a : Act} {nt : Nat} (h : YS l ys a) (hs : a.tmps.size = nt) {dst : Option Tmp} (hd : ZdL nt dst = true) : YS l (addY dst ys) (a.put dst (.func (.yield l) #[] #[])) := fun t ht => by
 rw [ZnN hs hd]
 split
 ·rfl
 ·rename_i hne
  cases dst with
  | none => exact h t ht
  | some d =>
   rcases List.mem_cons.1 (show t ∈ d :: ys from ht) with rfl | ht
   ·exact absurd rfl hne
   ·exact h t ht
section
variable {ι0 : Ren} {h0 : AH} {w0 : World} {n0 : Nat} {ac : Act} {l0 K : Nat} {R : Loop} {cx : Cx}
theorem ZiW (F : Fit P ext) (hR : R.tmps = ac.tmps ∧ R.params = cx.ps ∧ R.assign = cx.asg ∧ R.body = cx.body) {nt fu : Nat} {ops : Array Oper} : ∀ (l : List Oper) (T : Tr Value) (s : St) (ys : List Tmp) (pe : Option Ex) (T' : Tr Value) (s' : St) (ys' : List Tmp) (pe' : Option Ex), Zgz P ext nt cx fu ops l T s ys pe = some (T', s', ys', pe') → (∀ p ∈ s'.ob, p.1 = p.2) →
  ∀ ι a W (Q : Exit → Act → World → Prop), TR ι nt [] T a → YS l0 ys a → IS P ι0 h0 w0 n0 cx.nt cx.T ac l0 K (Rp R pe) ι s W → Fresh ι s.n s'.n →
   (∀ ι' a' W', TR ι' nt [] T' a' → YS l0 ys' a' → IS P ι0 h0 w0 n0 cx.nt cx.T ac l0 K (Rp R pe') ι' s' W' → Dom ι ι' s.n s'.n → Q .normal a' W') → wpListIn (Fr none) 0 P ops Q l a W
 | [], T, s, ys, pe, T', s', ys', pe', h, ho, ι, a, W, Q, hT, hY, I, hf, hQ => by
  simp only [Zgz] at h
  injection h with h; simp only [Prod.mk.injEq] at h; obtain ⟨rfl, rfl, rfl, rfl⟩ := h
  exact hQ ι a W hT hY I Dom.refl
 | o :: l, T, s, ys, pe, T', s', ys', pe', h, ho, ι, a, W, Q, hT, hY, I, hf, hQ => by
  simp only [Zgz] at h
  obtain ⟨hg, h⟩ := Zn h
  simp only [Bool.and_eq_true] at hg
  obtain ⟨⟨hd, hgo⟩, hnd, hgu⟩ := hg
  have hnd := Zko hnd
  have hgu : o.guard = none := by simpa using hgu
  have hwant : Region.wanted o (yielded ops a.tmps) = true := (ZbJ (ops := ops) (s := s) (s' := s) (b := true) (fun t _ => hT.2.2 t) (by simp [ZdS, hgu])).1
  unfold wpListIn
  rw [if_pos hwant]
  split at h
  ·rename_i xs hy
   have hy : ∃ c t, o.op = .call c ∧ c.callee = .value (.tmp t) ∧ t ∈ ys ∧ c.args = xs := by
    unfold Zt4 at hy
    split at hy
    ·rename_i c hop
     split at hy
     ·rename_i t hc
      obtain ⟨hm, hy⟩ := Zn hy
      injection hy with hy
      exact ⟨c, t, hop, hc, ZgF.1 hm, hy⟩
     ·cases hy
    ·cases hy
   obtain ⟨c, t, hop, hc, ht, rfl⟩ := hy
   split at h
   ·split at h
    ·rename_i e s1 h1
     have u1 := ZrR F h1
     have u2 := Zji F _ _ _ _ _ _ _ _ _ h
     have hx : VRs ι (c.args.toList.map (opnd T)).toArray (c.args.map (Zbj a)) := by
      have := Zjg hT.opnd c.args
      rwa [show (c.args.toList.map (opnd T)).toArray = c.args.map (opnd T) by rw [← Array.toList_map]]
     obtain ⟨tm, hrun, hround⟩ := Ztd F h1 (Zai u2.ob ho) hR I (hf.mono (Nat.le_refl _) u2.n) hx
     have hex : (execOp a.eval o).run P W = .ok (.round l0 R.fn tm cx.asg cx.body) W := by
      rw [← Zea (fun cs b e => by rw [hop] at e; cases e) hgo, ← hrun]
      have hv : Zbj a (.tmp t) = .func (.yield l0) #[] #[] := hY t ht
      simp [execOp, hop, resolve, hc, hv, Deferred.ofValue, invoke, Result.andThen, Sem.run]
     refine ⟨fun _ _ => trivial, ?_⟩
     rw [show (Fr none).round = none from rfl, Oper.semAt_none, hex, Oper.uponIn_round]
     refine ⟨fun e => (by cases e), hround.mono ?_⟩
     rintro en W' ⟨rfl, ι', hext, hdom, I'⟩
     refine ZiW F hR l _ s1 _ _ T' s' ys' pe' h ho ι' _ W' Q ((hT.on hext).put hd (VR.of_free rfl)) (hY.drop hT.1 hd _) I' (hf.after hdom u1.n) fun ι2 a2 W2 k1 k2 k3 k4 => hQ ι2 a2 W2 k1 k2 k3 (hdom.trans k4 u1.n u2.n)
    ·cases h
   ·cases h
  ·cases hm : ZoD ys o with
   | true =>
    rw [hm] at h
    simp only [cond_true] at h
    have hm : ∃ t, o.op = .move (.tmp t) ∧ t ∈ ys := by
     unfold ZoD at hm
     split at hm
     ·rename_i t hop; exact ⟨t, hop, ZgF.1 hm⟩
     ·cases hm
    obtain ⟨t, hop, ht⟩ := hm
    have hv : a.eval (.tmp t) = .func (.yield l0) #[] #[] := hY t ht
    refine ⟨fun _ _ => trivial, ?_⟩
    rw [show (Fr none).round = none from rfl, Oper.semAt_none]
    have hex : (execOp a.eval o).run P W = .ok (.value (.func (.yield l0) #[] #[])) W := by
     unfold execOp; rw [hop]; simp only; rw [hv]; rfl
    rw [hex, Oper.uponIn_value]
    exact ZiW F hR l _ s _ pe T' s' ys' pe' h ho ι _ W Q (hT.put hd (VR.glob rfl)) (hY.add hT.1 hd) I hf hQ
   | false =>
    rw [hm] at h
    simp only [cond_false] at h
    split at h
    ·rename_i v s1 hv
     have u1 := (Zbf (P := P) (ext := ext) (fun f g hg => (F.hp f g hg).up) fu).2.2.1 _ _ _ _ _ hv
     have u2 := Zji F _ _ _ _ _ _ _ _ _ h
     refine Zp2 (r := none) (Q0 := fun _ _ _ => False) (fun _ _ _ _ h => h) hnd ((Zcz F fu).2.2.1 (opnd T) (Zbj a) o s v s1 hv (Zai u2.ob ho) ι W hT.opnd I.st.emb (hf.mono (Nat.le_refl _) u2.n) a _ _ (Zea (ZhH hv) hgo).symm fun v' w' ι' g1 g2 g3 => ?_)
     exact ZiW F hR l _ s1 _ pe T' s' ys' pe' h ho ι' _ w' Q ((hT.on g1.ext).put hd g3) (hY.drop hT.1 hd _) (I.step g1 g2 u1.n) (hf.after g2 u1.n) fun ι2 a2 W2 k1 k2 k3 k4 => hQ ι2 a2 W2 k1 k2 k3 (g2.trans k4 u1.n u2.n)
    ·cases h
end
end
end Ev
end Go.Proofs.YtlbbiflodemagaaDoor
/- Ranges over functions: the iterator, the statement. -/
namespace Go.Proofs.YtlbbiflodemagaaDoor
open Go.RowKit
namespace Ev
section
variable {P : Program} {ext : FuncId → Option Ext}
section
variable {ι0 : Ren} {h0 : AH} {w0 : World} {n0 : Nat} {ac : Act} {l0 K : Nat} {R : Loop} {cx : Cx}
def ZoE (P : Program) (ι0 : Ren) (h0 : AH) (w0 : World) (n0 : Nat) (cx : Cx) (ac : Act) (l0 K : Nat) (R : Loop) (nt : Nat) (ι : Ren) (s : St) (e : Ex) (T' : Tr Value) (s' : St) (ys' : List Tmp) (pe' : Option Ex) (ex : Exit) (a' : Act) (W' : World) : Prop :=
 ex = e.out ∧ ∃ ι', TR ι' nt [] T' a' ∧ YS l0 ys' a' ∧ IS P ι0 h0 w0 n0 cx.nt cx.T ac l0 K (Rp R pe') ι' s' W' ∧ Dom ι ι' s.n s'.n
theorem ZwW (F : Fit P ext) (hR : R.tmps = ac.tmps ∧ R.params = cx.ps ∧ R.assign = cx.asg ∧ R.body = cx.body) {nt : Nat} : ∀ fu : Nat,
  (∀ c T s ys pe e T' s' ys' pe', evI P ext nt cx fu c T s ys pe = some (e, T', s', ys', pe') → (∀ p ∈ s'.ob, p.1 = p.2) → ∀ ι a W, TR ι nt [] T a → YS l0 ys a → IS P ι0 h0 w0 n0 cx.nt cx.T ac l0 K (Rp R pe) ι s W → Fresh ι s.n s'.n →
   c.wpIn (Fr none) 0 P (ZoE P ι0 h0 w0 n0 cx ac l0 K R nt ι s e T' s' ys' pe') a W) ∧
  (∀ c T s ys pe e T' s' ys' pe', evI P ext nt cx fu (.loop c) T s ys pe = some (e, T', s', ys', pe') → (∀ p ∈ s'.ob, p.1 = p.2) → ∀ ι a W, TR ι nt [] T a → YS l0 ys a → IS P ι0 h0 w0 n0 cx.nt cx.T ac l0 K (Rp R pe) ι s W → Fresh ι s.n s'.n →
   Code.roundsIn (Fr none) 0 P c (ZoE P ι0 h0 w0 n0 cx ac l0 K R nt ι s e T' s' ys' pe') fu a W) := by
 intro fu
 induction fu with
 | zero => exact ⟨fun _ _ _ _ _ _ _ _ _ _ h => by simp [evI] at h, fun _ _ _ _ _ _ _ _ _ _ h => by simp [evI] at h⟩
 | succ fu ih =>
  obtain ⟨ihC, ihL⟩ := ih
  have two : ∀ {ι ι1 : Ren} {s s1 s' : St} {e : Ex} {T' : Tr Value} {ys' : List Tmp} {pe' : Option Ex}, Dom ι ι1 s.n s1.n → s.n ≤ s1.n → s1.n ≤ s'.n → ∀ ex a W, ZoE P ι0 h0 w0 n0 cx ac l0 K R nt ι1 s1 e T' s' ys' pe' ex a W → ZoE P ι0 h0 w0 n0 cx ac l0 K R nt ι s e T' s' ys' pe' ex a W :=
   fun hd h1 h2 ex a W ⟨hx, ι', k1, k2, k3, k4⟩ => ⟨hx, ι', k1, k2, k3, hd.trans k4 h1 h2⟩
  have loops : ∀ c T s ys pe e T' s' ys' pe', evI P ext nt cx (fu + 1) (.loop c) T s ys pe = some (e, T', s', ys', pe') → (∀ p ∈ s'.ob, p.1 = p.2) → ∀ ι a W, TR ι nt [] T a → YS l0 ys a → IS P ι0 h0 w0 n0 cx.nt cx.T ac l0 K (Rp R pe) ι s W → Fresh ι s.n s'.n →
    Code.roundsIn (Fr none) 0 P c (ZoE P ι0 h0 w0 n0 cx ac l0 K R nt ι s e T' s' ys' pe') (fu + 1) a W := by
   intro x T s ys pe e T' s' ys' pe' h ho ι a W hT hY I hf
   simp only [evI] at h
   rw [roundsIn_succ]
   split at h
   ·rename_i T1 s1 ys1 pe1 h1
    have u1 := Ze4 F fu _ _ _ _ _ _ _ _ _ _ h1
    have u2 := Ze4 F fu _ _ _ _ _ _ _ _ _ _ h
    refine wpIn_mono (ihC x T s ys pe .normal T1 s1 ys1 pe1 h1 (Zai u2.ob ho) ι a W hT hY I (hf.mono (Nat.le_refl _) u2.n)) ?_
    rintro ex a1 w1 ⟨rfl, ι1, g1, g2, g3, g4⟩
    exact ZiA (two g4 u1.n u2.n) fu a1 w1 (ihL x T1 s1 ys1 pe1 e T' s' ys' pe' h ho ι1 a1 w1 g1 g2 g3 (hf.after g4 u1.n))
   ·rename_i i r h1
    injection h with h; simp only [Prod.mk.injEq] at h; obtain ⟨rfl, rfl⟩ := h
    refine wpIn_mono (ihC x T s ys pe _ _ _ _ _ h1 ho ι a W hT hY I hf) ?_
    rintro ex a1 w1 ⟨rfl, hq⟩
    exact ⟨rfl, hq⟩
   ·rename_i r h1
    injection h with h; simp only [Prod.mk.injEq] at h; obtain ⟨rfl, rfl⟩ := h
    refine wpIn_mono (ihC x T s ys pe _ _ _ _ _ h1 ho ι a W hT hY I hf) ?_
    rintro ex a1 w1 ⟨rfl, hq⟩
    exact ⟨rfl, hq⟩
   ·cases h
  refine ⟨fun c T s ys pe e T' s' ys' pe' h ho ι a W hT hY I hf => ?_, loops⟩
  have h0' := h
  cases c <;> simp only [evI] at h
  case skip => injection h with h; simp only [Prod.mk.injEq] at h; obtain ⟨rfl, rfl, rfl, rfl, rfl⟩ := h; exact wpIn_skip ⟨rfl, ι, hT, hY, I, Dom.refl⟩
  case ret => injection h with h; simp only [Prod.mk.injEq] at h; obtain ⟨rfl, rfl, rfl, rfl, rfl⟩ := h; exact wpIn_ret ⟨rfl, ι, hT, hY, I, Dom.refl⟩
  case exit id => injection h with h; simp only [Prod.mk.injEq] at h; obtain ⟨rfl, rfl, rfl, rfl, rfl⟩ := h; exact wpIn_exit ⟨rfl, ι, hT, hY, I, Dom.refl⟩
  case seq x y =>
   split at h
   ·rename_i T1 s1 ys1 pe1 h1
    have u1 := Ze4 F fu _ _ _ _ _ _ _ _ _ _ h1
    have u2 := Ze4 F fu _ _ _ _ _ _ _ _ _ _ h
    refine wpIn_seq (wpIn_mono (ihC x T s ys pe .normal T1 s1 ys1 pe1 h1 (Zai u2.ob ho) ι a W hT hY I (hf.mono (Nat.le_refl _) u2.n)) ?_)
    rintro ex a1 w1 ⟨rfl, ι1, g1, g2, g3, g4⟩
    exact wpIn_mono (ihC y T1 s1 ys1 pe1 e T' s' ys' pe' h ho ι1 a1 w1 g1 g2 g3 (hf.after g4 u1.n)) (two g4 u1.n u2.n)
   ·rename_i i r h1
    injection h with h; simp only [Prod.mk.injEq] at h; obtain ⟨rfl, rfl⟩ := h
    refine wpIn_seq (wpIn_mono (ihC x T s ys pe _ _ _ _ _ h1 ho ι a W hT hY I hf) ?_)
    rintro ex a1 w1 ⟨rfl, hq⟩
    exact ⟨rfl, hq⟩
   ·rename_i r h1
    injection h with h; simp only [Prod.mk.injEq] at h; obtain ⟨rfl, rfl⟩ := h
    refine wpIn_seq (wpIn_mono (ihC x T s ys pe _ _ _ _ _ h1 ho ι a W hT hY I hf) ?_)
    rintro ex a1 w1 ⟨rfl, hq⟩
    exact ⟨rfl, hq⟩
   ·cases h
  case cond x y z =>
   split at h
   ·rename_i t ht
    have hx : a.eval x = .bool t := Zdv ((ht ▸ hT.opnd x : VR ι (.bool t) (Zbj a x)).bool_inv)
    split at h
    ·exact wpIn_cond_true hx (ihC y T s ys pe e T' s' ys' pe' h ho ι a W hT hY I hf)
    ·exact wpIn_cond_false hx (ihC z T s ys pe e T' s' ys' pe' h ho ι a W hT hY I hf)
   ·cases h
  case block id x =>
   split at h
   ·rename_i i r h1
    cases hb : Nat.beq i id with
    | true =>
     rw [hb] at h
     injection h with h; simp only [Prod.mk.injEq] at h; obtain ⟨rfl, rfl⟩ := h
     refine wpIn_block (wpIn_mono (ihC x T s ys pe _ _ _ _ _ h1 ho ι a W hT hY I hf) ?_)
     rintro ex a1 w1 ⟨rfl, hq⟩
     show if i = id then _ else _
     rw [if_pos (Nat.eq_of_beq_eq_true hb)]
     exact ⟨rfl, hq⟩
    | false =>
     rw [hb] at h
     injection h with h; simp only [Prod.mk.injEq] at h; obtain ⟨rfl, rfl⟩ := h
     refine wpIn_block (wpIn_mono (ihC x T s ys pe _ _ _ _ _ h1 ho ι a W hT hY I hf) ?_)
     rintro ex a1 w1 ⟨rfl, hq⟩
     show if i = id then _ else _
     rw [if_neg (fun e => by rw [Zhd e] at hb; cases hb)]
     exact ⟨rfl, hq⟩
   ·rename_i r h1
    injection h with h; simp only [Prod.mk.injEq] at h; obtain ⟨rfl, rfl⟩ := h
    refine wpIn_block (wpIn_mono (ihC x T s ys pe _ _ _ _ _ h1 ho ι a W hT hY I hf) ?_)
    rintro ex a1 w1 ⟨rfl, hq⟩
    exact ⟨rfl, hq⟩
   ·rename_i r h1
    injection h with h; simp only [Prod.mk.injEq] at h; obtain ⟨rfl, rfl⟩ := h
    refine wpIn_block (wpIn_mono (ihC x T s ys pe _ _ _ _ _ h1 ho ι a W hT hY I hf) ?_)
    rintro ex a1 w1 ⟨rfl, hq⟩
    exact ⟨rfl, hq⟩
   ·cases h
  case loop x => exact wpIn_loop_rounds (fu + 1) (loops x T s ys pe e T' s' ys' pe' h0' ho ι a W hT hY I hf)
  case region id ops draw =>
   split at h
   ·cases h
   ·split at h
    ·rename_i T1 s1 ys1 pe1 h1
     injection h with h; simp only [Prod.mk.injEq] at h; obtain ⟨rfl, rfl, rfl, rfl, rfl⟩ := h
     exact wpIn_region_list (ZiW F hR ops.toList T s ys pe T1 s1 ys1 pe1 h1 ho ι a W _ hT hY I hf fun ι' a' W' k1 k2 k3 k4 => ⟨rfl, ι', k1, k2, k3, k4⟩)
    ·cases h
  all_goals cases h
end
def Mk (b : Nat) (m : Bool) (D : List Deferred) (ι : Ren) (w : World) : Prop := match m with
 | false => D = []
 | true => ∃ K, b ≤ K ∧ D = [{ target := .collected K, args := #[] }] ∧ w.heap[K]? = some (.deferred (some [])) ∧ ∀ k b, ι k = some b → b.1 ≠ K
theorem Mk.step {b : Nat} {m : Bool} {D : List Deferred} {ι ι1 : Ren} {h h1 : AH} {w w1 : World} (hm : Mk b m D ι w) (g : Step P ι h w ι1 h1 w1) : Mk b m D ι1 w1 := by
 cases m with
 | false => exact hm
 | true =>
  obtain ⟨K, hb, e, hk, hn⟩ := hm
  obtain ⟨a1, a2⟩ := ZnS g (Array.getElem?_eq_some_iff.1 hk).1 hn
  exact ⟨K, hb, e, a2.trans hk, a1⟩
def Zlx (b : Nat) (P : Program) (ι : Ren) (s : St) (w : World) (nt : Nat) (e : Ex) (T' : Tr Value) (s' : St) (m' : Bool) (ex : Exit) (a' : Act) (w' : World) : Prop :=
 ex = e.out ∧ ∃ ι' D', Step P ι s.h.get w ι' s'.h.get w' ∧ Dom ι ι' s.n s'.n ∧ TR ι' nt D' T' a' ∧ Mk b m' D' ι' w'
theorem up_rf (F : Fit P ext) {nt fu : Nat} {g : Operand} {ps : Array Tmp} {asg body : Code} {T : Tr Value} {s s' : St} {e : Ex} (h : ZrQ P ext nt fu g ps asg body T s = some (e, s')) : Up s s' := by
 unfold ZrQ at h
 split at h
 ·split at h
  ·split at h
   ·obtain ⟨_, h⟩ := Zn h
    split at h
    ·cases h
    ·rename_i h1; injection h with h; injection h with q1 q2; subst q2; exact Ze4 F _ _ _ _ _ _ _ _ _ _ _ h1
    ·rename_i h1; obtain ⟨_, h⟩ := Zlr h; injection h with h; injection h with q1 q2; subst q2; exact Ze4 F _ _ _ _ _ _ _ _ _ _ _ h1
    ·cases h
   ·cases h
  ·cases h
 ·cases h
theorem Zwi (F : Fit P ext) {nt fu : Nat} {g : Operand} {ps : Array Tmp} {asg body : Code} {T : Tr Value} {s s' : St} {e : Ex} (h : ZrQ P ext nt fu g ps asg body T s = some (e, s')) (ho : ∀ p ∈ s'.ob, p.1 = p.2) {b : Nat} {ι : Ren} {a : Act} {w : World} (hbw : b ≤ w.heap.size)
  (hT : TR ι nt [] T a) (he : Emb P ι s.h.get w) (hf : Fresh ι s.n s'.n) : (Code.rangeFunc g ps asg body).wpIn (Fr none) 0 P (Zlx b P ι s w nt e T s' true) a w := by
 unfold ZrQ at h
 split at h
 ·rename_i gf av bv hg
  split at h
  ·rename_i fn hfn
   split at h
   ·rename_i c hb
    obtain ⟨hgd, h⟩ := Zn h
    simp only [Bool.and_eq_true] at hgd
    obtain ⟨⟨hgd, hsz⟩, hres⟩ := hgd
    have hsz := Nat.le_of_ble_eq_true hsz
    have hres := Nat.eq_of_beq_eq_true hres
    have key : ∃ e0 T1 ys1 pe, evI P ext fn.ntmps ⟨nt, T, ps, asg, body⟩ fu c (ZcO 0 (av ++ #[Value.chan (some 0)] ++ bv).toList .nil) s [av.size] none = some (e0, T1, s', ys1, pe) ∧ (e0 = .normal ∨ e0 = .ret) ∧ e = (match pe with | none => .normal | some e => e) ∧ (∀ e1, pe = some e1 → isN e1 = false) := by
     split at h
     ·cases h
     ·rename_i e0 T1 s1 ys1 hne h1
      injection h with h; injection h with q1 q2; subst q1 q2
      refine ⟨e0, T1, ys1, none, h1, ?_, rfl, fun e1 he => by cases he⟩
      cases e0 with
      | normal => exact .inl rfl
      | ret => exact .inr rfl
      | exit i => exact (hne i rfl).elim
     ·rename_i e0 T1 s1 ys1 e1 hne h1
      obtain ⟨hn1, h⟩ := Zlr h
      injection h with h; injection h with q1 q2; subst q1 q2
      refine ⟨e0, T1, ys1, some e1, h1, ?_, rfl, fun e2 he => by injection he with he; rw [← he]; exact hn1⟩
      cases e0 with
      | normal => exact .inl rfl
      | ret => exact .inr rfl
      | exit i => exact (hne i rfl).elim
     ·cases h
    obtain ⟨e0, T1, ys1, pe, h1, he0, hepe, hnn⟩ := key
    have hgv : ∃ av' bv', Zbj a g = .func (.func gf) av' bv' ∧ VRs ι av av' ∧ VRs ι bv bv' := by
     have hv := hg ▸ hT.opnd g
     generalize Zbj a g = x' at hv
     cases hv with
     | atom h =>
      simp [Ev.atom] at h
      obtain ⟨rfl, rfl⟩ := h
      exact ⟨_, _, rfl, ⟨rfl, fun i x y hx => by simp at hx⟩, ⟨rfl, fun i x y hx => by simp at hx⟩⟩
     | func hs ht h1 h2 => exact ⟨_, _, rfl, ⟨hs, h1⟩, ⟨ht, h2⟩⟩
    obtain ⟨av', bv', hgv, hav, hbv⟩ := hgv
    have hgv : a.eval g = .func (.func gf) av' bv' := by
     cases g with
     | const v => simp only [Zew] at hgd; simpa [Zbj, hgd, Act.eval] using hgv
     | _ => exact hgv
    refine wpIn_rangeFunc ?_
    intro fn0 _
    obtain ⟨R, hRd⟩ : ∃ R : Loop, R = { state := .ready, pending := none, fn := fn0, tmps := a.tmps, params := ps, assign := asg, body, defers := w.heap.size } := ⟨_, rfl⟩
    obtain ⟨W1, hW1⟩ : ∃ W1, (w.alloc (.deferred (some []))).alloc (.loop R) = W1 := ⟨_, rfl⟩
    have hL1 : W1.heap[w.heap.size + 1]? = some (.loop (Rp R none)) := by
     rw [show Rp R none = R by rw [hRd]; rfl]
     rw [← hW1]; have := World.alloc_heap_new (w.alloc (.deferred (some []))) (.loop R); rwa [World.size_alloc] at this
    have hK1 : W1.heap[w.heap.size]? = some (.deferred (some [])) := by
     rw [← hW1]; exact (Below.heap_alloc _ _ _ (by simp)).trans (World.alloc_heap_new w _)
    have hb1 : Below w.heap.size w W1 := by
     rw [← hW1]; exact ((Below.refl _ w).alloc (Nat.le_refl _) _).alloc (by simp) _
    have I1 : IS P ι s.h.get w s.n nt T a (w.heap.size + 1) w.heap.size (Rp R none) ι s W1 :=
     ⟨Step.below he hb1, Dom.refl, Nat.le_refl _, ⟨hT.1, rfl, hT.2.2⟩, hL1, hK1, by omega, by omega, fun k b hk => by have := he.lt k b hk; omega⟩
    have hargs : VRs ι (av ++ #[Value.chan (some 0)] ++ bv) (av' ++ #[Value.func (.yield (w.heap.size + 1)) #[] #[]] ++ bv') :=
     ZeV (ZeV hav ⟨rfl, fun i x y hx hy => by
      cases i with
      | zero => simp at hx hy; rw [← hx, ← hy]; exact .glob rfl
      | succ i => simp at hx⟩) hbv
    refine ⟨w.heap.size + 1, [{ target := .collected w.heap.size, args := #[] }], W1, { target := .fn (.func gf) bv', args := av' ++ #[.func (.yield (w.heap.size + 1)) #[] #[]] }, W1, gf,
     av' ++ #[.func (.yield (w.heap.size + 1)) #[] #[]] ++ bv', W1, ?_, ?_, fun _ _ => trivial, ?_, fun e => (by cases e), ?_⟩
    ·rw [← hW1, hRd]; exact run_enterLoop_outer _ _ _ _ _
    ·simp only [resolve, hgv]
     simp [go_sem, Deferred.ofValue]
    ·simp [invoke, Zcc hfn (F.go gf fn hfn) hb]
    ·refine callsIn_of_wp_marks hfn hb trivial ?_
     refine wpIn_mono ((ZwW (R := R) (cx := ⟨nt, T, ps, asg, body⟩) (ac := a) F ⟨by rw [hRd], by rw [hRd], by rw [hRd], by rw [hRd]⟩ fu).1 c _ s _ none e0 T1 s' ys1 pe h1 ho ι _ W1 (Ze2 hargs hsz) ?_ I1 hf) ?_
     ·intro t ht
      rw [List.mem_singleton] at ht
      subst ht
      have hs := hav.1
      rw [Array.getD_eq_getD_getElem?, Array.getElem?_append_left (by simp; omega), Array.getElem?_append_left (by simp; omega), Array.getElem?_append_right (by omega)]
      simp [hs]
     ·rintro ex a2 w2 ⟨rfl, ι2, g1, _, I2, g4⟩
      have hr := run_endLoop (P := P) I2.lo (by cases pe <;> simp [Rp])
      have I3 := I2.put { Rp R pe with state := .exhausted }
      have hr2 : ∃ v', (results fn a2.tmps).run P w2 = .ok v' w2 := by
       have hnil : fn.results.toList = [] := List.eq_nil_of_length_eq_zero hres
       obtain ⟨v', q, _⟩ := Zcp (fn := fn) (v := .tuple #[]) g1 I2.st.emb (by rw [hnil]; rfl)
       exact ⟨v', q⟩
      obtain ⟨v', hrun⟩ := hr2
      have fin : LeavesInM (Fr none) (0 - 1) P fn a2.tmps (rangePost (Fr none) 0 P (w.heap.size + 1) (Zlx b P ι s w nt e T s' true) { a with defers := [{ target := .collected w.heap.size, args := #[] }] ++ a.defers }) a2.defers .returning w2 := by
       rw [g1.2.1]
       refine ⟨v', hrun, _, _, hr, ?_⟩
       have post : Zlx b P ι s w nt e T s' true e.out { a with defers := [{ target := .collected w.heap.size, args := #[] }] ++ a.defers } (w2.putObj (w.heap.size + 1) (.loop { Rp R pe with state := .exhausted })) := by
        refine ⟨rfl, ι2, _, I3.st, I3.dm, ⟨I3.tr.1, rfl, I3.tr.2.2⟩, w.heap.size, hbw, ?_, I3.de, fun k b hk => (I3.nl k b hk).2⟩
        rw [hT.2.1]; rfl
       cases pe with
       | none => rw [hepe] at post ⊢; exact post
       | some e1 =>
        cases e1 with
        | normal => exact absurd (hnn _ rfl) (by simp [isN])
        | ret => rw [hepe] at post ⊢; exact wpIn_ret post
        | exit i => rw [hepe] at post ⊢; exact wpIn_exit post
      rcases he0 with rfl | rfl
      ·exact fin
      ·exact fin
   ·cases h
  ·cases h
 ·cases h
end
end Ev
end Go.Proofs.YtlbbiflodemagaaDoor
/- Functions with a range over a function do what the runner says of them. -/
namespace Go.Proofs.YtlbbiflodemagaaDoor
open Go.RowKit
namespace Ev
section
variable {P : Program} {ext : FuncId → Option Ext}
theorem ZhM (F : Fit P ext) {nt : Nat} : ∀ (fu : Nat) (c : Code) (T : Tr Value) (s : St) (m : Bool) (e : Ex) (T' : Tr Value) (s' : St) (m' : Bool), evR P ext nt fu c T s m = some (e, T', s', m') → Up s s'
 | 0, _, _, _, _, _, _, _, _, h => by simp [evR] at h
 | fu + 1, c, T, s, m, e, T', s', m', h => by
  have upC := (Zbf (P := P) (ext := ext) (fun f g hg => (F.hp f g hg).up) (fu + 1)).1
  cases c <;> simp only [evR] at h
  case skip => injection h with h; simp only [Prod.mk.injEq] at h; obtain ⟨rfl, rfl, rfl, rfl⟩ := h; exact Up.refl _
  case ret => injection h with h; simp only [Prod.mk.injEq] at h; obtain ⟨rfl, rfl, rfl, rfl⟩ := h; exact Up.refl _
  case exit id => injection h with h; simp only [Prod.mk.injEq] at h; obtain ⟨rfl, rfl, rfl, rfl⟩ := h; exact Up.refl _
  case seq x y =>
   split at h
   ·rename_i T1 s1 m1 h1; exact (ZhM F fu _ _ _ _ _ _ _ _ h1).trans (ZhM F fu _ _ _ _ _ _ _ _ h)
   ·rename_i i r h1; injection h with h; simp only [Prod.mk.injEq] at h; obtain ⟨rfl, rfl⟩ := h; exact ZhM F fu _ _ _ _ _ _ _ _ h1
   ·rename_i r h1; injection h with h; simp only [Prod.mk.injEq] at h; obtain ⟨rfl, rfl⟩ := h; exact ZhM F fu _ _ _ _ _ _ _ _ h1
   ·cases h
  case cond x y z =>
   split at h
   ·split at h
    ·exact ZhM F fu _ _ _ _ _ _ _ _ h
    ·exact ZhM F fu _ _ _ _ _ _ _ _ h
   ·cases h
  case block id x =>
   split at h
   ·rename_i i r h1
    cases hb : Nat.beq i id with
    | true => rw [hb] at h; injection h with h; simp only [Prod.mk.injEq] at h; obtain ⟨rfl, rfl⟩ := h; exact ZhM F fu _ _ _ _ _ _ _ _ h1
    | false => rw [hb] at h; injection h with h; simp only [Prod.mk.injEq] at h; obtain ⟨rfl, rfl⟩ := h; exact ZhM F fu _ _ _ _ _ _ _ _ h1
   ·rename_i r h1; injection h with h; simp only [Prod.mk.injEq] at h; obtain ⟨rfl, rfl⟩ := h; exact ZhM F fu _ _ _ _ _ _ _ _ h1
   ·rename_i r h1; injection h with h; simp only [Prod.mk.injEq] at h; obtain ⟨rfl, rfl⟩ := h; exact ZhM F fu _ _ _ _ _ _ _ _ h1
   ·cases h
  case rangeFunc g ps asg body =>
   obtain ⟨_, h⟩ := Zlr h
   split at h
   ·rename_i e1 s1 h1
    injection h with h; simp only [Prod.mk.injEq] at h; obtain ⟨rfl, rfl, rfl, rfl⟩ := h
    exact up_rf F h1
   ·cases h
  case region id ops draw =>
   split at h
   ·rename_i e1 T1 s1 h1
    injection h with h; simp only [Prod.mk.injEq] at h; obtain ⟨rfl, rfl, rfl, rfl⟩ := h
    exact upC _ _ _ _ _ _ _ h1
   ·cases h
  case loop x =>
   split at h
   ·rename_i e1 T1 s1 h1
    injection h with h; simp only [Prod.mk.injEq] at h; obtain ⟨rfl, rfl, rfl, rfl⟩ := h
    exact upC _ _ _ _ _ _ _ h1
   ·cases h
  all_goals cases h
theorem Ze5 (F : Fit P ext) {nt : Nat} : ∀ (fu : Nat) (c : Code) (T : Tr Value) (s : St) (m : Bool) (e : Ex) (T' : Tr Value) (s' : St) (m' : Bool), evR P ext nt fu c T s m = some (e, T', s', m') → (∀ p ∈ s'.ob, p.1 = p.2) →
  ∀ b ι D a w, b ≤ w.heap.size → TR ι nt D T a → Mk b m D ι w → Emb P ι s.h.get w → Fresh ι s.n s'.n → c.wpIn (Fr none) 0 P (Zlx b P ι s w nt e T' s' m') a w
 | 0, _, _, _, _, _, _, _, _, h => by simp [evR] at h
 | fu + 1, c, T, s, m, e, T', s', m', h => by
  intro ho b ι D a w hbw hT hM he hf
  have code : ∀ {c : Code} {e1 : Ex} {T1 : Tr Value} {s1 : St}, Zal P ext nt (fu + 1) c T s = some (e1, T1, s1) → (∀ p ∈ s1.ob, p.1 = p.2) → Fresh ι s.n s1.n → c.wpIn (Fr none) 0 P (Zlx b P ι s w nt e1 T1 s1 m) a w := fun h1 ho1 hf1 => by
   refine (wpIn_wide (n := 0)).2 (wp_mono ((Zcz F (fu + 1)).1 nt _ T s _ _ _ h1 ho1 ι D a w hT he hf1) ?_)
   rintro ex a1 w1 ⟨rfl, ι1, g1, g2, g3⟩
   exact ⟨rfl, ι1, D, g1, g2, g3, hM.step g1⟩
  have two : ∀ {ι1 : Ren} {s1 : St} {w1 : World}, Step P ι s.h.get w ι1 s1.h.get w1 → Dom ι ι1 s.n s1.n → s.n ≤ s1.n → s1.n ≤ s'.n → ∀ ex a W, Zlx b P ι1 s1 w1 nt e T' s' m' ex a W → Zlx b P ι s w nt e T' s' m' ex a W :=
   fun hS hd h1 h2 ex a W ⟨hx, ι', D', k1, k2, k3, k4⟩ => ⟨hx, ι', D', hS.trans k1, hd.trans k2 h1 h2, k3, k4⟩
  cases c <;> simp only [evR] at h
  case skip => injection h with h; simp only [Prod.mk.injEq] at h; obtain ⟨rfl, rfl, rfl, rfl⟩ := h; exact wpIn_skip ⟨rfl, ι, D, Step.refl he, Dom.refl, hT, hM⟩
  case ret => injection h with h; simp only [Prod.mk.injEq] at h; obtain ⟨rfl, rfl, rfl, rfl⟩ := h; exact wpIn_ret ⟨rfl, ι, D, Step.refl he, Dom.refl, hT, hM⟩
  case exit id => injection h with h; simp only [Prod.mk.injEq] at h; obtain ⟨rfl, rfl, rfl, rfl⟩ := h; exact wpIn_exit ⟨rfl, ι, D, Step.refl he, Dom.refl, hT, hM⟩
  case seq x y =>
   split at h
   ·rename_i T1 s1 m1 h1
    have u1 := ZhM F fu _ _ _ _ _ _ _ _ h1
    have u2 := ZhM F fu _ _ _ _ _ _ _ _ h
    refine wpIn_seq (wpIn_mono (Ze5 F fu x T s m .normal T1 s1 m1 h1 (Zai u2.ob ho) b ι D a w hbw hT hM he (hf.mono (Nat.le_refl _) u2.n)) ?_)
    rintro ex a1 w1 ⟨rfl, ι1, D1, g1, g2, g3, g4⟩
    exact wpIn_mono (Ze5 F fu y T1 s1 m1 e T' s' m' h ho b ι1 D1 a1 w1 (Nat.le_trans hbw g1.size) g3 g4 g1.emb (hf.after g2 u1.n)) (two g1 g2 u1.n u2.n)
   ·rename_i i r h1
    injection h with h; simp only [Prod.mk.injEq] at h; obtain ⟨rfl, rfl⟩ := h
    refine wpIn_seq (wpIn_mono (Ze5 F fu x T s m _ _ _ _ h1 ho b ι D a w hbw hT hM he hf) ?_)
    rintro ex a1 w1 ⟨rfl, hq⟩
    exact ⟨rfl, hq⟩
   ·rename_i r h1
    injection h with h; simp only [Prod.mk.injEq] at h; obtain ⟨rfl, rfl⟩ := h
    refine wpIn_seq (wpIn_mono (Ze5 F fu x T s m _ _ _ _ h1 ho b ι D a w hbw hT hM he hf) ?_)
    rintro ex a1 w1 ⟨rfl, hq⟩
    exact ⟨rfl, hq⟩
   ·cases h
  case cond x y z =>
   split at h
   ·rename_i t ht
    have hx : a.eval x = .bool t := Zdv ((ht ▸ hT.opnd x : VR ι (.bool t) (Zbj a x)).bool_inv)
    split at h
    ·exact wpIn_cond_true hx (Ze5 F fu y T s m e T' s' m' h ho b ι D a w hbw hT hM he hf)
    ·exact wpIn_cond_false hx (Ze5 F fu z T s m e T' s' m' h ho b ι D a w hbw hT hM he hf)
   ·cases h
  case block id x =>
   split at h
   ·rename_i i r h1
    cases hb : Nat.beq i id with
    | true =>
     rw [hb] at h
     injection h with h; simp only [Prod.mk.injEq] at h; obtain ⟨rfl, rfl⟩ := h
     refine wpIn_block (wpIn_mono (Ze5 F fu x T s m _ _ _ _ h1 ho b ι D a w hbw hT hM he hf) ?_)
     rintro ex a1 w1 ⟨rfl, hq⟩
     show if i = id then _ else _
     rw [if_pos (Nat.eq_of_beq_eq_true hb)]
     exact ⟨rfl, hq⟩
    | false =>
     rw [hb] at h
     injection h with h; simp only [Prod.mk.injEq] at h; obtain ⟨rfl, rfl⟩ := h
     refine wpIn_block (wpIn_mono (Ze5 F fu x T s m _ _ _ _ h1 ho b ι D a w hbw hT hM he hf) ?_)
     rintro ex a1 w1 ⟨rfl, hq⟩
     show if i = id then _ else _
     rw [if_neg (fun e => by rw [Zhd e] at hb; cases hb)]
     exact ⟨rfl, hq⟩
   ·rename_i r h1
    injection h with h; simp only [Prod.mk.injEq] at h; obtain ⟨rfl, rfl⟩ := h
    refine wpIn_block (wpIn_mono (Ze5 F fu x T s m _ _ _ _ h1 ho b ι D a w hbw hT hM he hf) ?_)
    rintro ex a1 w1 ⟨rfl, hq⟩
    exact ⟨rfl, hq⟩
   ·rename_i r h1
    injection h with h; simp only [Prod.mk.injEq] at h; obtain ⟨rfl, rfl⟩ := h
    refine wpIn_block (wpIn_mono (Ze5 F fu x T s m _ _ _ _ h1 ho b ι D a w hbw hT hM he hf) ?_)
    rintro ex a1 w1 ⟨rfl, hq⟩
    exact ⟨rfl, hq⟩
   ·cases h
  case rangeFunc g ps asg body =>
   obtain ⟨hm, h⟩ := Zlr h
   split at h
   ·rename_i e1 s1 h1
    injection h with h; simp only [Prod.mk.injEq] at h; obtain ⟨rfl, rfl, rfl, rfl⟩ := h
    subst hm
    obtain rfl : D = [] := hM
    exact Zwi F h1 ho hbw hT he hf
   ·cases h
  case region id ops draw =>
   split at h
   ·rename_i e1 T1 s1 h1
    injection h with h; simp only [Prod.mk.injEq] at h; obtain ⟨rfl, rfl, rfl, rfl⟩ := h
    exact code h1 ho hf
   ·cases h
  case loop x =>
   split at h
   ·rename_i e1 T1 s1 h1
    injection h with h; simp only [Prod.mk.injEq] at h; obtain ⟨rfl, rfl, rfl, rfl⟩ := h
    exact code h1 ho hf
   ·cases h
  all_goals cases h
theorem ZiX (F : Fit P ext) {fu : Nat} {f : FuncId} {fn : Func} {c : Code} (hfn : P.funcs[f]? = some fn) (hb : fn.body = some c) : ZeT P f (ZhL P ext fu f) := by
 refine ⟨fun args s v s' h => ?_, fun args s v s' h ho ι w args' ha he hf => .inl ⟨⟨fn, c, hfn, hb⟩, ?_⟩⟩
 ·unfold ZhL at h
  rw [hfn] at h
  simp only [hb] at h
  replace h := (Zn h).2
  split at h
  ·cases h
  ·rename_i h1
   have u := ZhM F fu _ _ _ _ _ _ _ _ h1
   split at h
   ·injection h with h; injection h with q1 q2; subst q2; exact u
   ·injection h with h; injection h with q1 q2; subst q2; exact u
   ·cases h
  ·cases h
 ·unfold ZhL at h
  rw [hfn] at h
  simp only [hb] at h
  obtain ⟨hsz, h⟩ := Zn h
  have hle : args.size ≤ fn.ntmps := Nat.le_of_ble_eq_true hsz
  split at h
  ·cases h
  ·rename_i ex T1 s1 m1 hne h1
   have hs : s' = s1 ∧ (match ZaW P T1 s1 fn.results.toList with | some [v] => some v | some vs => some (.tuple vs.toArray) | none => none) = some v := by
    split at h
    ·rename_i hr; injection h with h; injection h with q1 q2; subst q1 q2; exact ⟨rfl, by first | rw [hr] | rfl⟩
    ·rename_i vs hn hr; injection h with h; injection h with q1 q2; subst q1 q2
     refine ⟨rfl, ?_⟩
     try rw [hr]
     rcases vs with _ | ⟨x, _ | ⟨y, vs⟩⟩
     ·rfl
     ·exact absurd rfl (hn x)
     ·rfl
    ·cases h
   obtain ⟨rfl, hres⟩ := hs
   refine (callsIn_wide (n := 0)).1 (callsIn_of_wp_marks hfn hb trivial (wpIn_mono (Ze5 F fu c _ s false ex T1 s' m1 h1 ho w.heap.size ι [] _ w (Nat.le_refl _) (Ze2 ha hle) rfl he hf) ?_))
   rintro e2 a2 w2 ⟨rfl, ι2, D2, g1, g2, g3, g4⟩
   have fin : LeavesInM (Fr none) 0 P fn a2.tmps (ZiT P ι s w v s') a2.defers .returning w2 := by
    rw [g3.2.1]
    cases m1 with
    | false =>
     obtain rfl : D2 = [] := g4
     obtain ⟨v', hrun, hv⟩ := Zcp g3 g1.emb hres
     exact ⟨v', hrun, v', ι2, rfl, g1, g2, hv⟩
    | true =>
     obtain ⟨K, hKw, rfl, hk, hn⟩ := g4
     have g1' := g1.put hKw hn (.deferred none)
     obtain ⟨v', hrun, hv⟩ := Zcp g3 g1'.emb hres
     exact ⟨by simp, .inl ⟨K, _, rfl, run_takeDeferred hk, v', hrun, v', ι2, rfl, g1', g2, hv⟩⟩
   cases ex with
   | normal => exact fin
   | ret => exact fin
   | exit i => exact (hne i rfl).elim
  ·cases h
end
end Ev
end Go.Proofs.YtlbbiflodemagaaDoor
/- Functions that recover what is thrown. -/
namespace Go.Proofs.YtlbbiflodemagaaDoor
open Go.RowKit
namespace Ev
noncomputable section
def Zly (P : Program) (ext : FuncId → Option Ext) (nt : Nat) (call : FuncId → Array Value → St → Option (Value × St)) : Nat → Code → Tr Value → St → List (FuncId × Array Value) → Option (Value × Tr Value × St × List (FuncId × Array Value))
 | 0, _, _, _, _ => none
 | fu + 1, c, T, s, ds => match c with
  | .seq a b => match evD P ext nt fu a T s ds with
   | some (false, T', s', ds') => Zly P ext nt call fu b T' s' ds'
   | some (true, _) => none
   | none => Zly P ext nt call fu a T s ds
  | .region id ops draw => match ZaX P ext nt call fu (.region id ops draw) T s with
   | some (v, T', s') => some (v, T', s', ds)
   | none => none
  | .cond x a b => match ZaX P ext nt call fu (.cond x a b) T s with
   | some (v, T', s') => some (v, T', s', ds)
   | none => none
  | _ => none
abbrev ZbX := Option (Value × Bool)
def Zka (M : ZbX) : Value := match M with | some (v, false) => v | _ => .nilIface
def Zuw (M : ZbX) : ZbX := match M with | some (v, false) => some (v, true) | M => M
def ZmS (M : ZbX) : ZbX := match M with | some (_, true) => none | M => M
def Zux (P : Program) (o : Oper) : Bool :=
 match o.op with
 | .call _ => match o.op.operands.toList with
  | [] => match ZhB P (execOp (fun _ => undef) o) with
   | some .recover => true
   | _ => false
  | _ => false
 | _ => false
def Zuy : Value → Bool
 | .iface _ _ => true
 | .nilIface => true
 | _ => false
def Zwj (P : Program) (nt : Nat) (o : Oper) (d : Tmp) (w : Value) : Option (Tmp × Value) :=
 match o.op with
 | .typeAssert x _ _ _ => match x with
  | .tmp d' => match o.guard with
   | none => match o.dst with
    | some d2 => bif Nat.beq d' d && Nat.blt d2 nt && Zuy w then match ZhB P (execOp (fun _ => w) o) with
     | some (.value r) => bif Zbv r then some (d2, r) else none
     | _ => none
     else none
    | none => none
   | some _ => none
  | _ => none
 | _ => none
def evDefOps (P : Program) (ext : FuncId → Option Ext) (nt fu : Nat) (ops : Array Oper) : List Oper → Tr Value → St → ZbX → Option (Tr Value × St × ZbX)
 | [], T, s, M => some (T, s, M)
 | o :: l, T, s, M =>
  bif ZdL nt o.dst && Z4 Zew o.op.operands.toList then
   match ZdS ops T o s with
   | some (true, s1) => match Zux P o with
    | true => match o.dst with
     | some d => match l with
      | o2 :: l2 => match Zwj P nt o2 d (Zka M) with
       | some (d2, r) => evDefOps P ext nt fu ops l2 ((T.set d (some (.chan (some 0)))).set d2 (some r)) s1 (Zuw M)
       | none => none
      | [] => none
     | none => none
    | false => match Zf6 P ext fu (opnd T) o s1 with
     | some (v, s') => evDefOps P ext nt fu ops l (Zcr T o.dst v) s' M
     | none => none
   | some (false, s1) => evDefOps P ext nt fu ops l (Zcr T o.dst undef) s1 M
   | none => none
  else none
def Zhh (P : Program) (ext : FuncId → Option Ext) (nt : Nat) : Nat → Code → Tr Value → St → ZbX → Option (Tr Value × St × ZbX)
 | 0, _, _, _, _ => none
 | fu + 1, c, T, s, M => match c with
  | .seq a b => match Zhh P ext nt fu a T s M with
   | some (T', s', M') => Zhh P ext nt fu b T' s' M'
   | none => none
  | .cond x a b => match opnd T x with
   | .bool t => match t with
    | true => Zhh P ext nt fu a T s M
    | false => Zhh P ext nt fu b T s M
   | _ => none
  | .region id ops draw => match draw with
   | true => match Zal P ext nt fu (.region id ops true) T s with
    | some (.normal, T', s') => some (T', s', M)
    | _ => none
   | false => evDefOps P ext nt fu ops ops.toList T s M
  | .skip => some (T, s, M)
  | _ => none
def ZeW (P : Program) (ext : FuncId → Option Ext) (fu : Nat) : List (FuncId × Array Value) → St → ZbX → Option (St × ZbX)
 | [], s, M => some (s, M)
 | d :: ds, s, M => match P.funcs[d.1]? with
  | some fn => match fn.body with
   | some c => bif Nat.ble d.2.size fn.ntmps then match Zhh P ext fn.ntmps fu c (ZcO 0 d.2.toList .nil) s M with
    | some (T, s', M') => match (match ZaW P T s' fn.results.toList with | some [v] => some v | some vs => some (.tuple vs.toArray) | none => none) with
     | some _ => ZeW P ext fu ds s' (ZmS M')
     | none => none
    | none => none
    else none
   | none => none
  | none => none
def ZkD (P : Program) (ext : FuncId → Option Ext) (fu : Nat) (fn : Func) (T : Tr Value) (s : St) (ds : List (FuncId × Array Value)) (M : ZbX) : Out :=
 match ZeW P ext fu ds s M with
 | some (s2, none) => match (match ZaW P T s2 fn.results.toList with | some [v] => some v | some vs => some (.tuple vs.toArray) | none => none) with
  | some v => some (v, s2)
  | none => none
 | _ => none
def Zjj (P : Program) (ext : FuncId → Option Ext) (fu : Nat) (f : FuncId) (args : Array Value) (s : St) : Out :=
 match P.funcs[f]? with
 | some fn => match fn.body with
  | some c => bif Nat.ble args.size fn.ntmps then match evD P ext fn.ntmps fu c (ZcO 0 args.toList .nil) s [] with
   | some (_, T, s1, ds) => ZkD P ext fu fn T s1 ds none
   | none => match Zly P ext fn.ntmps (Zd8 P ext fu) fu c (ZcO 0 args.toList .nil) s [] with
    | some (v, T, s1, ds) => ZkD P ext fu fn T s1 ds (some (v, false))
    | none => none
   else none
  | none => none
 | none => none
end
section
variable {P : Program} {ext : FuncId → Option Ext}
theorem ZoF (F : Fit P ext) {call : FuncId → Array Value → St → Option (Value × St)} (C : Zlu P call) {nt : Nat} : ∀ (fu : Nat) (c : Code) (T : Tr Value) (s : St) (ds : List (FuncId × Array Value)) (v : Value) (T' : Tr Value) (s' : St) (ds' : List (FuncId × Array Value)), Zly P ext nt call fu c T s ds = some (v, T', s', ds') → Up s s'
 | 0, _, _, _, _, _, _, _, _, h => by simp [Zly] at h
 | fu + 1, c, T, s, ds, v, T', s', ds', h => by
  cases c <;> simp only [Zly] at h
  case seq a b =>
   split at h
   ·exact (ZhI F fu _ _ _ _ _ _ _ _ (by assumption)).trans (ZoF F C fu _ _ _ _ _ _ _ _ h)
   ·cases h
   ·exact ZoF F C fu _ _ _ _ _ _ _ _ h
  case region id ops draw =>
   split at h
   ·injection h with h; simp only [Prod.mk.injEq] at h; obtain ⟨_, _, rfl, _⟩ := h; exact ZhK F C _ _ _ _ _ _ _ (by assumption)
   ·cases h
  case cond x a b =>
   split at h
   ·injection h with h; simp only [Prod.mk.injEq] at h; obtain ⟨_, _, rfl, _⟩ := h; exact ZhK F C _ _ _ _ _ _ _ (by assumption)
   ·cases h
  all_goals cases h
def Zxx (P : Program) (ι : Ren) (s : St) (w : World) (nt : Nat) (v : Value) (T' : Tr Value) (s' : St) (ds' : List (FuncId × Array Value)) (ex : Exit) (a' : Act) (w' : World) : Prop :=
 ex = .panic (Ze0 v) ∧ ∃ ι' D', Step P ι s.h.get w ι' s'.h.get w' ∧ Dom ι ι' s.n s'.n ∧ TR ι' nt D' T' a' ∧ DR ι' ds' D'
theorem ZnT (F : Fit P ext) {call : FuncId → Array Value → St → Option (Value × St)} (C : Zlu P call) {nt : Nat} : ∀ (fu : Nat) (c : Code) (T : Tr Value) (s : St) (ds : List (FuncId × Array Value)) (v : Value) (T' : Tr Value) (s' : St) (ds' : List (FuncId × Array Value)), Zly P ext nt call fu c T s ds = some (v, T', s', ds') → (∀ p ∈ s'.ob, p.1 = p.2) →
  ∀ ι D a w, TR ι nt D T a → DR ι ds D → Emb P ι s.h.get w → Fresh ι s.n s'.n → c.wp P (Zxx P ι s w nt v T' s' ds') a w
 | 0, _, _, _, _, _, _, _, _, h => by simp [Zly] at h
 | fu + 1, c, T, s, ds, v, T', s', ds', h => by
  intro ho ι D a w hT hD he hf
  cases c <;> simp only [Zly] at h
  case seq x y =>
   split at h
   ·rename_i T1 s1 ds1 h1
    have u1 := ZhI F fu _ _ _ _ _ _ _ _ h1
    have u2 := ZoF F C fu _ _ _ _ _ _ _ _ h
    refine wp_seq (wp_mono (ZgU F fu x T s ds _ T1 s1 ds1 h1 (Zai u2.ob ho) ι D a w hT hD he (hf.mono (Nat.le_refl _) u2.n)) ?_)
    rintro ex a1 w1 ⟨rfl, ι1, D1, g1, g2, g3, g4⟩
    refine wp_mono (ZnT F C fu y T1 s1 ds1 v T' s' ds' h ho ι1 D1 a1 w1 g3 g4 g1.emb (hf.after g2 u1.n)) ?_
    rintro ex a2 w2 ⟨rfl, ι2, D2, k1, k2, k3, k4⟩
    exact ⟨rfl, ι2, D2, g1.trans k1, g2.trans k2 u1.n u2.n, k3, k4⟩
   ·cases h
   ·refine wp_seq (wp_mono (ZnT F C fu x T s ds v T' s' ds' h ho ι D a w hT hD he hf) ?_)
    rintro ex a1 w1 ⟨rfl, g⟩
    exact ⟨rfl, g⟩
  case region id ops draw =>
   split at h
   ·rename_i v1 T1 s1 h1
    injection h with h; simp only [Prod.mk.injEq] at h; obtain ⟨rfl, rfl, rfl, rfl⟩ := h
    refine wp_mono ((Zo9 F C fu).1 _ T s _ _ _ h1 ho ι D a w hT he hf) ?_
    rintro ex a1 w1 ⟨ι1, rfl, g1, g2, g3⟩
    exact ⟨rfl, ι1, D, g1, g2, g3, hD.on g1.ext⟩
   ·cases h
  case cond x y z =>
   split at h
   ·rename_i v1 T1 s1 h1
    injection h with h; simp only [Prod.mk.injEq] at h; obtain ⟨rfl, rfl, rfl, rfl⟩ := h
    refine wp_mono ((Zo9 F C fu).1 _ T s _ _ _ h1 ho ι D a w hT he hf) ?_
    rintro ex a1 w1 ⟨ι1, rfl, g1, g2, g3⟩
    exact ⟨rfl, ι1, D, g1, g2, g3, hD.on g1.ext⟩
   ·cases h
  all_goals cases h
def MR (M : ZbX) (u : FrameMode) : Prop :=
 match M with
 | none => u = .returning
 | some (v, b) => u = .panicking [{ v := v, recovered := b }]
theorem MR.settle {M : ZbX} {u : FrameMode} (h : MR M u) : MR (ZmS M) (settle u) := by
 cases M with
 | none => cases h; rfl
 | some p =>
  obtain ⟨v, b⟩ := p
  cases h
  cases b <;> rfl
theorem MR.norun {M : ZbX} {u : FrameMode} (h : MR M u) : u ≠ .run := by
 cases M with
 | none => cases h; simp
 | some p => obtain ⟨v, b⟩ := p; cases h; simp
theorem MR.recover {M : ZbX} {u : FrameMode} (h : MR M u) (c : Frame) (cs : List Frame) :
  ∃ u', MR (Zuw M) u' ∧ ((recoverD ({ c with mode := u } :: cs) = some (Zka M, { c with mode := u' } :: cs)) ∨ (recoverD ({ c with mode := u } :: cs) = none ∧ Zka M = .nilIface ∧ u' = u)) := by
 cases M with
 | none => cases h; exact ⟨_, rfl, .inr ⟨rfl, rfl, rfl⟩⟩
 | some p =>
  obtain ⟨v, b⟩ := p
  cases h
  cases b with
  | true => exact ⟨_, rfl, .inr ⟨rfl, rfl, rfl⟩⟩
  | false => exact ⟨_, rfl, .inl rfl⟩
theorem ZwX {ρ : Operand → Value} {o : Oper} (h : Zux P o = true) (w : World) : (execOp ρ o).run P w = .ok .recover w := by
 unfold Zux at h
 split at h
 ·rename_i c hop
  split at h
  ·rename_i hl
   split at h
   ·rename_i hp
    have : execOp ρ o = execOp (fun _ => undef) o := execOp_congr o (fun cs b e => by rw [hop] at e; cases e) fun x hx => by
     have hx' : x ∈ o.op.operands.toList := by simpa using hx
     rw [hl] at hx'
     cases hx'
    rw [this]
    exact Zf7 w hp
   ·cases h
  ·cases h
 ·cases h
theorem Zvp {x : Value} (h : Zuy x = true) : x.oneCell' = true := by
 cases x <;> simp [Zuy] at h <;> rfl
theorem Zxy {nt : Nat} {o : Oper} {d d2 : Tmp} {x r : Value} {ρ : Operand → Value} (h : Zwj P nt o d x = some (d2, r)) (hd : ρ (.tmp d) = x) (w : World) :
  o.guard = none ∧ o.dst = some d2 ∧ d2 < nt ∧ Zbv r = true ∧ (execOp ρ o).run P w = .ok (.value r) w ∧ Zuy x = true := by
 unfold Zwj at h
 split at h
 ·rename_i y xt ty ok hop
  split at h
  ·rename_i d'
   split at h
   ·rename_i hg
    split at h
    ·rename_i d3 hd3
     replace h := Zn h
     obtain ⟨hc, h⟩ := h
     simp only [Bool.and_eq_true] at hc
     have hdd := Nat.eq_of_beq_eq_true hc.1.1
     subst hdd
     split at h
     ·rename_i r' hp
      replace h := Zn h
      obtain ⟨hfr, h⟩ := h
      injection h with h; injection h with q1 q2; subst q1 q2
      refine ⟨hg, hd3, by simpa [Nat.blt_eq] using hc.1.2, hfr, ?_, hc.2⟩
      have : execOp ρ o = execOp (fun _ => x) o := by simp only [execOp, hop, hd]
      rw [this]
      exact Zf7 w hp
     ·cases h
    ·cases h
   ·cases h
  ·cases h
 ·cases h
theorem Zin (F : Fit P ext) {nt fu : Nat} {ops : Array Oper} : ∀ (n : Nat) (l : List Oper) (T : Tr Value) (s : St) (M : ZbX) (T' : Tr Value) (s' : St) (M' : ZbX), l.length ≤ n → evDefOps P ext nt fu ops l T s M = some (T', s', M') → Up s s'
 | _, [], T, s, M, T', s', M', _, h => by simp only [evDefOps] at h; injection h with h; simp only [Prod.mk.injEq] at h; obtain ⟨_, rfl, _⟩ := h; exact Up.refl _
 | 0, _ :: _, T, s, M, T', s', M', hn, h => by simp at hn
 | n + 1, o :: l, T, s, M, T', s', M', hn, h => by
  have uP := (Zbf (P := P) (ext := ext) (fun f g hg => (F.hp f g hg).up) fu).2.2.1
  have hn' : l.length ≤ n := by simpa using hn
  rw [evDefOps.eq_def] at h
  simp only at h
  replace h := (Zn h).2
  split at h
  ·split at h
   ·split at h
    ·split at h
     ·rename_i o2 l2
      split at h
      ·exact (ZaD (by assumption)).trans (Zin F n l2 _ _ _ _ _ _ (by simp at hn'; omega) h)
      ·cases h
     ·cases h
    ·cases h
   ·split at h
    ·exact (ZaD (by assumption)).trans ((uP _ _ _ _ _ (by assumption)).trans (Zin F n l _ _ _ _ _ _ hn' h))
    ·cases h
  ·exact (ZaD (by assumption)).trans (Zin F n l _ _ _ _ _ _ hn' h)
  ·cases h
theorem ZnU {c : Code} {Q Q' : Exit → Act → List Frame → World → Prop} {a : Act} {cs : List Frame} {w : World} (h : c.wpS P Q a cs w) (hq : ∀ e a cs w, Q e a cs w → Q' e a cs w) : c.wpS P Q' a cs w :=
 fun b k hb hr => let ⟨e, a', cs', w', q, r⟩ := h b k hb hr; ⟨e, a', cs', w', hq _ _ _ _ q, r⟩
theorem Zqx {ops : Array Oper} {Q : Exit → Act → List Frame → World → Prop} {i : Nat} {rest : List Nat} {a : Act} {cs : List Frame} {w : World} {o : Oper} (ho : ops[i]? = some o) (hw : Region.wanted o (yielded ops a.tmps) = true)
  (h : o.wp P a w (fun a' w' => wpOpsS P ops Q rest a' cs w') (fun e a' w' => Q e a' cs w')) : wpOpsS P ops Q (i :: rest) a cs w := by
 unfold Oper.wp at h
 simp only [wpOpsS, ho, hw, if_true]
 split
 ·rename_i w' hr
  rw [hr] at h
  exact h.elim
 ·exact h
theorem Zvq {ops : Array Oper} {Q : Exit → Act → List Frame → World → Prop} {i : Nat} {rest : List Nat} {a : Act} {cs : List Frame} {w : World} {o : Oper} (ho : ops[i]? = some o) (hw : Region.wanted o (yielded ops a.tmps) = false)
  (h : wpOpsS P ops Q rest (a.put o.dst undef) cs w) : wpOpsS P ops Q (i :: rest) a cs w := by
 simp only [wpOpsS, ho, hw]
 exact h
theorem Zwk {ops : Array Oper} {Q : Exit → Act → List Frame → World → Prop} {i : Nat} {rest : List Nat} {a : Act} {w : World} {o : Oper} {c : Frame} {cs : List Frame} {u : FrameMode} {M : ZbX} (ho : ops[i]? = some o) (hw : Region.wanted o (yielded ops a.tmps) = true)
  (hr : (execOp a.eval o).run P w = .ok .recover w) (hM : MR M u) (h : ∀ u', MR (Zuw M) u' → wpOpsS P ops Q rest (a.put o.dst (Zka M)) ({ c with mode := u' } :: cs) w) : wpOpsS P ops Q (i :: rest) a ({ c with mode := u } :: cs) w := by
 obtain ⟨u', h1, h2⟩ := hM.recover c cs
 simp only [wpOpsS, ho, hw, if_true, hr]
 rcases h2 with h2 | ⟨h2, h3, h4⟩
 ·rw [h2]; exact h u' h1
 ·rw [h2]
  have := h u' h1
  rw [h3, h4] at this
  exact this
theorem Zhi (F : Fit P ext) {nt fu : Nat} {ops : Array Oper} {c : Frame} {cs : List Frame} : ∀ (n : Nat) (l : List Oper) (k : Nat) (T : Tr Value) (s : St) (M : ZbX) (T' : Tr Value) (s' : St) (M' : ZbX), l.length ≤ n → (∀ j, l[j]? = ops[k + j]?) → evDefOps P ext nt fu ops l T s M = some (T', s', M') → (∀ p ∈ s'.ob, p.1 = p.2) →
  ∀ ι D a u w (Q : Exit → Act → List Frame → World → Prop), TR ι nt D T a → MR M u → Emb P ι s.h.get w → Fresh ι s.n s'.n →
   (∀ ι' a' u' w', Step P ι s.h.get w ι' s'.h.get w' → Dom ι ι' s.n s'.n → TR ι' nt D T' a' → MR M' u' → Q .normal a' ({ c with mode := u' } :: cs) w') → wpOpsS P ops Q (List.range' k l.length) a ({ c with mode := u } :: cs) w
 | _, [], k, T, s, M, T', s', M', _, _, h => by
  intro ho ι D a u w Q hT hM he hf hQ
  simp only [evDefOps] at h
  injection h with h; simp only [Prod.mk.injEq] at h; obtain ⟨rfl, rfl, rfl⟩ := h
  exact hQ ι a u w (Step.refl he) Dom.refl hT hM
 | 0, _ :: _, k, T, s, M, T', s', M', hn, _, h => by simp at hn
 | n + 1, o :: l, k, T, s, M, T', s', M', hn, hl, h => by
  intro ho ι D a u w Q hT hM he hf hQ
  have hn' : l.length ≤ n := by simpa using hn
  have h0 : ops[k]? = some o := by simpa using (hl 0).symm
  have hl' : ∀ j, l[j]? = ops[k + 1 + j]? := fun j => by have := hl (j + 1); simpa [Nat.add_assoc, Nat.add_comm 1 j] using this
  rw [evDefOps.eq_def] at h
  simp only at h
  obtain ⟨hg, h⟩ := Zn h
  simp only [Bool.and_eq_true] at hg
  rw [List.length_cons, List.range'_succ]
  split at h
  ·rename_i s1 hw
   obtain ⟨hwant, e2, e3⟩ := ZbJ (fun t _ => hT.2.2 t) hw
   split at h
   ·rename_i hrec
    split at h
    ·rename_i d hd
     cases l with
     | nil => cases h
     | cons o2 l2 =>
      simp only at h
      split at h
      ·rename_i d2 r has
       refine Zwk h0 hwant (ZwX hrec w) hM fun u' hM' => ?_
       have h1 : ops[k + 1]? = some o2 := by simpa using (hl' 0).symm
       have hlt : d < a.tmps.size := by
        have := hg.1
        rw [hd] at this
        rw [hT.1]
        simpa [ZdL, Nat.blt_eq] using this
       have hev : (a.put o.dst (Zka M)).eval (.tmp d) = Zka M := by
        rw [hd]
        simp only [Act.eval, Act.put]
        simp [Array.getD, hlt]
       obtain ⟨q1, q2, q3, q4, q5, q6⟩ := Zxy (ρ := (a.put o.dst (Zka M)).eval) has hev w
       have hT1 : TR ι nt D (T.set d (some (.chan (some 0)))) (a.put o.dst (Zka M)) := by
        rw [hd]
        have := hg.1
        rw [hd] at this
        exact hT.put (dst := some d) this (.glob (Zvp q6))
       rw [List.length_cons, List.range'_succ]
       refine Zqx h1 (by simp [Region.wanted, q1]) ?_
       unfold Oper.wp
       rw [q5, Oper.upon_value, q2]
       have hl2 : ∀ j, l2[j]? = ops[k + 1 + 1 + j]? := fun j => by have := hl' (j + 1); rw [show k + 1 + 1 + j = k + 1 + (j + 1) by omega]; simpa using this
       exact Zhi F n l2 (k + 1 + 1) _ s1 (Zuw M) T' s' M' (by simp at hn'; omega) hl2 h ho ι D _ u' w Q (hT1.put (dst := some d2) (by simpa [ZdL, Nat.blt_eq] using q3) (VR.of_free q4)) hM' (e2 ▸ he) (e3 ▸ hf) fun ι2 a2 u2 w2 k1 k2 k3 k4 => hQ ι2 a2 u2 w2 (e2 ▸ k1) (e3 ▸ k2) k3 k4
      ·cases h
    ·cases h
   ·split at h
    ·rename_i v1 s2 hv
     have ua := Zbf (P := P) (ext := ext) (fun f g hg => (F.hp f g hg).up) fu
     have u2 := ua.2.2.1 _ _ _ _ _ hv
     have u3 := Zin F n l _ _ _ _ _ _ hn' h
     refine Zqx h0 hwant ((Zcz F fu).2.2.1 (opnd T) (Zbj a) o s1 v1 s2 hv (Zai u3.ob ho) ι w hT.opnd (e2 ▸ he) (e3 ▸ (hf.mono (Nat.le_refl _) u3.n)) a _ _ (Zea (ZhH hv) hg.2).symm fun v' w' ι' g1 g2 g3 => ?_)
     rw [e2] at g1
     rw [e3] at g2
     have hle : s.n ≤ s2.n := by rw [← e3]; exact u2.n
     exact Zhi F n l (k + 1) (Zcr T o.dst v1) s2 M T' s' M' hn' hl' h ho ι' D _ u w' Q ((hT.on g1.ext).put hg.1 g3) hM g1.emb (hf.after g2 hle) fun ι2 a2 u2 w2 k1 k2 k3 k4 => hQ ι2 a2 u2 w2 (g1.trans k1) (g2.trans k2 hle u3.n) k3 k4
    ·cases h
  ·rename_i s1 hw
   obtain ⟨hwant, e2, e3⟩ := ZbJ (fun t _ => hT.2.2 t) hw
   refine Zvq h0 hwant ?_
   exact Zhi F n l (k + 1) (Zcr T o.dst undef) s1 M T' s' M' hn' hl' h ho ι D _ u w Q (hT.put hg.1 VR.undef') hM (e2 ▸ he) (e3 ▸ hf) fun ι2 a2 u2 w2 k1 k2 k3 k4 => hQ ι2 a2 u2 w2 (e2 ▸ k1) (e3 ▸ k2) k3 k4
  ·cases h
theorem Zio (F : Fit P ext) {nt : Nat} : ∀ (fu : Nat) (c : Code) (T : Tr Value) (s : St) (M : ZbX) (T' : Tr Value) (s' : St) (M' : ZbX), Zhh P ext nt fu c T s M = some (T', s', M') → Up s s'
 | 0, _, _, _, _, _, _, _, h => by simp [Zhh] at h
 | fu + 1, c, T, s, M, T', s', M', h => by
  have uC := (Zbf (P := P) (ext := ext) (fun f g hg => (F.hp f g hg).up) fu).1
  cases c <;> simp only [Zhh] at h
  case seq a b =>
   split at h
   ·exact (Zio F fu _ _ _ _ _ _ _ (by assumption)).trans (Zio F fu _ _ _ _ _ _ _ h)
   ·cases h
  case cond x a b =>
   split at h
   ·split at h
    ·exact Zio F fu _ _ _ _ _ _ _ h
    ·exact Zio F fu _ _ _ _ _ _ _ h
   ·cases h
  case region id ops draw =>
   split at h
   ·split at h
    ·injection h with h; simp only [Prod.mk.injEq] at h; obtain ⟨_, rfl, _⟩ := h; exact uC _ _ _ _ _ _ _ (by assumption)
    ·cases h
   ·exact Zin F _ _ _ _ _ _ _ _ (Nat.le_refl _) h
  case skip => injection h with h; simp only [Prod.mk.injEq] at h; obtain ⟨_, rfl, _⟩ := h; exact Up.refl _
  all_goals cases h
def ZwY (P : Program) (ι : Ren) (s : St) (w : World) (nt : Nat) (D : List Deferred) (T' : Tr Value) (s' : St) (M' : ZbX) (c : Frame) (cs : List Frame) (ex : Exit) (a' : Act) (cs' : List Frame) (w' : World) : Prop :=
 ex = .normal ∧ ∃ ι' u', cs' = { c with mode := u' } :: cs ∧ Step P ι s.h.get w ι' s'.h.get w' ∧ Dom ι ι' s.n s'.n ∧ TR ι' nt D T' a' ∧ MR M' u'
theorem Zip (F : Fit P ext) {nt : Nat} {c0 : Frame} {cs : List Frame} : ∀ (fu : Nat) (c : Code) (T : Tr Value) (s : St) (M : ZbX) (T' : Tr Value) (s' : St) (M' : ZbX), Zhh P ext nt fu c T s M = some (T', s', M') → (∀ p ∈ s'.ob, p.1 = p.2) →
  ∀ ι D a u w, TR ι nt D T a → MR M u → Emb P ι s.h.get w → Fresh ι s.n s'.n → c.wpS P (ZwY P ι s w nt D T' s' M' c0 cs) a ({ c0 with mode := u } :: cs) w
 | 0, _, _, _, _, _, _, _, h => by simp [Zhh] at h
 | fu + 1, c, T, s, M, T', s', M', h => by
  intro ho ι D a u w hT hM he hf
  cases c <;> simp only [Zhh] at h
  case seq x y =>
   split at h
   ·rename_i T1 s1 M1 h1
    have u1 := Zio F fu _ _ _ _ _ _ _ h1
    have u2 := Zio F fu _ _ _ _ _ _ _ h
    refine wpS_seq (ZnU (Zip F fu x T s M T1 s1 M1 h1 (Zai u2.ob ho) ι D a u w hT hM he (hf.mono (Nat.le_refl _) u2.n)) ?_)
    rintro ex a1 cs1 w1 ⟨rfl, ι1, v1, rfl, g1, g2, g3, g4⟩
    refine ZnU (Zip F fu y T1 s1 M1 T' s' M' h ho ι1 D a1 v1 w1 g3 g4 g1.emb (hf.after g2 u1.n)) ?_
    rintro ex a2 cs2 w2 ⟨rfl, ι2, v2, rfl, k1, k2, k3, k4⟩
    exact ⟨rfl, ι2, v2, rfl, g1.trans k1, g2.trans k2 u1.n u2.n, k3, k4⟩
   ·cases h
  case cond x y z =>
   split at h
   ·rename_i t ht
    have hx : a.eval x = .bool t := Zdv ((ht ▸ hT.opnd x : VR ι (.bool t) (Zbj a x)).bool_inv)
    split at h
    ·exact wpS_cond hx (Zip F fu y T s M T' s' M' h ho ι D a u w hT hM he hf)
    ·exact wpS_cond hx (Zip F fu z T s M T' s' M' h ho ι D a u w hT hM he hf)
   ·cases h
  case region id ops draw =>
   split at h
   ·split at h
    ·rename_i T1 s1 h1
     injection h with h; simp only [Prod.mk.injEq] at h; obtain ⟨rfl, rfl, rfl⟩ := h
     refine wpS_of_wp (wp_mono ((Zcz F fu).1 nt _ T s .normal _ _ h1 ho ι D a w hT he hf) ?_)
     rintro ex a1 w1 ⟨rfl, ι1, g1, g2, g3⟩
     exact ⟨rfl, ι1, u, rfl, g1, g2, g3, hM⟩
    ·cases h
   ·refine wpS_region ?_
    rw [List.range_eq_range', ← Array.length_toList]
    exact Zhi F _ ops.toList 0 T s M T' s' M' (Nat.le_refl _) (by simp) h ho ι D a u w _ hT hM he hf fun ι' a' u' w' k1 k2 k3 k4 => ⟨rfl, ι', u', rfl, k1, k2, k3, k4⟩
  case skip =>
   injection h with h; simp only [Prod.mk.injEq] at h; obtain ⟨rfl, rfl, rfl⟩ := h
   exact wpS_of_wp (wp_skip ⟨rfl, ι, u, rfl, Step.refl he, Dom.refl, hT, hM⟩)
  all_goals cases h
theorem Zmr (F : Fit P ext) {fu : Nat} : ∀ (ds : List (FuncId × Array Value)) (s : St) (M : ZbX) (s' : St) (M' : ZbX), ZeW P ext fu ds s M = some (s', M') → Up s s'
 | [], s, M, s', M', h => by simp only [ZeW] at h; injection h with h; simp only [Prod.mk.injEq] at h; obtain ⟨rfl, _⟩ := h; exact Up.refl _
 | d :: ds, s, M, s', M', h => by
  simp only [ZeW] at h
  split at h
  ·split at h
   ·replace h := (Zn h).2
    split at h
    ·rename_i T1 s1 M1 h1
     have h' : ZeW P ext fu ds s1 (ZmS M1) = some (s', M') := by
      split at h
      ·exact h
      ·cases h
     exact (Zio F fu _ _ _ _ _ _ _ h1).trans (Zmr F ds _ _ _ _ h')
    ·cases h
   ·cases h
  ·cases h
theorem Zms (F : Fit P ext) {fu : Nat} {fn : Func} {tmps : Array Value} {R : Ending → World → Prop} : ∀ (ds : List (FuncId × Array Value)) (s : St) (M : ZbX) (s' : St), ZeW P ext fu ds s M = some (s', none) → (∀ p ∈ s'.ob, p.1 = p.2) →
  ∀ ι D u w, DR ι ds D → MR M u → Emb P ι s.h.get w → Fresh ι s.n s'.n → (∀ ι' w', Step P ι s.h.get w ι' s'.h.get w' → Dom ι ι' s.n s'.n → Leaves P fn tmps R [] .returning w') → Leaves P fn tmps R D u w
 | [], s, M, s', h => by
  intro ho ι D u w hD hM he hf hR
  simp only [ZeW] at h
  injection h with h; simp only [Prod.mk.injEq] at h; obtain ⟨rfl, rfl⟩ := h
  cases hM
  cases D with
  | nil => exact hR ι w (Step.refl he) Dom.refl
  | cons _ _ => exact hD.elim
 | d :: ds, s, M, s', h => by
  intro ho ι D u w hD hM he hf hR
  simp only [ZeW] at h
  split at h
  ·rename_i fn' hfn
   split at h
   ·rename_i c hb
    replace h := Zn h
    obtain ⟨hsz, h⟩ := h
    have hle : d.2.size ≤ fn'.ntmps := Nat.le_of_ble_eq_true hsz
    split at h
    ·rename_i T1 s1 M1 h1
     split at h
     ·rename_i v1 hv1
      cases D with
      | nil => exact hD.elim
      | cons x D =>
       obtain ⟨⟨b, ht, hargs⟩, hD⟩ := hD
       have u1 := Zio F fu _ _ _ _ _ _ _ h1
       have u2 := Zmr F ds _ _ _ _ h
       refine ⟨hM.norun, _, _, d.1, x.args ++ b, ht, ?_, ?_⟩
       ·rw [ht]
        exact Zcc hfn (F.go _ _ hfn) hb _ _
       ·refine callsD_of_wpS hfn hb fun c0 cs hu => ?_
        have hc0 : c0 = { c0 with mode := u } := by subst hu; rfl
        have key := Zip F (nt := fn'.ntmps) (c0 := c0) (cs := cs) fu c _ s M T1 s1 M1 h1 (Zai u2.ob ho) ι [] _ u w (Ze2 hargs hle) hM he (hf.mono (Nat.le_refl _) u2.n)
        rw [← hc0] at key
        refine ZnU key ?_
        rintro ex a1 cs1 w1 ⟨rfl, ι1, u1', rfl, g1, g2, g3, g4⟩
        obtain ⟨v', hrun, hv⟩ := Zcp g3 g1.emb hv1
        exact ⟨g3.2.1, u1', rfl, v', hrun, Zms F ds s1 (ZmS M1) s' h ho ι1 D _ w1 (hD.on g1.ext) g4.settle g1.emb (hf.after g2 u1.n) fun ι2 w2 k1 k2 => hR ι2 w2 (g1.trans k1) (g2.trans k2 u1.n u2.n)⟩
     ·cases h
    ·cases h
   ·cases h
  ·cases h
theorem ZkE (F : Fit P ext) {fu : Nat} {fn : Func} {T : Tr Value} {s : St} {ds : List (FuncId × Array Value)} {M : ZbX} {v : Value} {s' : St} (h : ZkD P ext fu fn T s ds M = some (v, s')) : Up s s' := by
 unfold ZkD at h
 split at h
 ·rename_i s2 h2
  have u := Zmr F _ _ _ _ _ h2
  split at h
  ·injection h with h; injection h with q1 q2; subst q1 q2; exact u
  ·cases h
 ·cases h
theorem Zn7 (F : Fit P ext) {fu : Nat} {fn : Func} {T : Tr Value} {s0 s : St} {ds : List (FuncId × Array Value)} {M : ZbX} {v : Value} {s' : St} (h : ZkD P ext fu fn T s ds M = some (v, s')) (ho : ∀ p ∈ s'.ob, p.1 = p.2) {ι0 ι : Ren} {w0 w : World} {D : List Deferred} {u : FrameMode} {nt : Nat} {a : Act}
  (u0 : Up s0 s) (g1 : Step P ι0 s0.h.get w0 ι s.h.get w) (g2 : Dom ι0 ι s0.n s.n) (hf : Fresh ι0 s0.n s'.n) (hT : TR ι nt D T a) (hD : DR ι ds D) (hM : MR M u) : Leaves P fn a.tmps (ZiT P ι0 s0 w0 v s') a.defers u w := by
 have uf := ZkE F h
 unfold ZkD at h
 split at h
 ·rename_i s2 h2
  split at h
  ·rename_i v1 hres
   injection h with h; injection h with q1 q2; subst q1 q2
   rw [hT.2.1]
   refine Zms F ds s M s2 h2 ho ι D u w hD hM g1.emb (hf.after g2 u0.n) fun ι2 w2 k1 k2 => ?_
   obtain ⟨v', hrun, hv⟩ := Zcp (hT.on k1.ext) k1.emb hres
   exact ⟨v', hrun, v', ι2, rfl, g1.trans k1, g2.trans k2 u0.n uf.n, hv⟩
  ·cases h
 ·cases h
theorem Zlz (F : Fit P ext) {fu : Nat} {f : FuncId} {fn : Func} {c : Code} (hfn : P.funcs[f]? = some fn) (hb : fn.body = some c) : ZeT P f (Zjj P ext fu f) := by
 refine ⟨fun args s v s' h => ?_, fun args s v s' h ho ι w args' ha he hf => .inl ⟨⟨fn, c, hfn, hb⟩, ?_⟩⟩
 ·unfold Zjj at h
  rw [hfn] at h
  simp only [hb] at h
  replace h := (Zn h).2
  split at h
  ·rename_i r T s1 ds h1
   exact (ZhI F fu _ _ _ _ _ _ _ _ h1).trans (ZkE F h)
  ·split at h
   ·rename_i v1 T s1 ds h1
    exact (ZoF F (Zlw F fu) fu _ _ _ _ _ _ _ _ h1).trans (ZkE F h)
   ·cases h
 ·unfold Zjj at h
  rw [hfn] at h
  simp only [hb] at h
  replace h := Zn h
  obtain ⟨hsz, h⟩ := h
  have hle : args.size ≤ fn.ntmps := Nat.le_of_ble_eq_true hsz
  split at h
  ·rename_i r T s1 ds h1
   have u1 := ZhI F fu _ _ _ _ _ _ _ _ h1
   have u2 := ZkE F h
   refine calls_of_wp_defers hfn hb (wp_mono (ZgU F fu c _ s [] r T s1 ds h1 (Zai u2.ob ho) ι [] _ w (Ze2 ha hle) trivial he (hf.mono (Nat.le_refl _) u2.n)) ?_)
   rintro ex a1 w1 ⟨rfl, ι1, D1, g1, g2, g3, g4⟩
   have key := Zn7 F (u := .returning) h ho u1 g1 g2 hf g3 g4 rfl
   cases r <;> exact key
  ·split at h
   ·rename_i v1 T s1 ds h1
    have u1 := ZoF F (Zlw F fu) fu _ _ _ _ _ _ _ _ h1
    have u2 := ZkE F h
    refine calls_of_wp_defers hfn hb (wp_mono (ZnT F (Zlw F fu) fu c _ s [] v1 T s1 ds h1 (Zai u2.ob ho) ι [] _ w (Ze2 ha hle) trivial he (hf.mono (Nat.le_refl _) u2.n)) ?_)
    rintro ex a1 w1 ⟨rfl, ι1, D1, g1, g2, g3, g4⟩
    exact Zn7 F (u := .panicking (Ze0 v1)) h ho u1 g1 g2 hf g3 g4 rfl
   ·cases h
end
end Ev
end Go.Proofs.YtlbbiflodemagaaDoor
/- Functions of no body of their own. -/
namespace Go.Proofs.YtlbbiflodemagaaDoor
open Go.RowKit
namespace Ev
noncomputable section
def Zmt (P : Program) (e : Array Value → Sem Value) (args : Array Value) (s : St) : Out :=
 bif Z4 Zbv args.toList then match ZhB P (e args) with
  | some v => bif Zbv v then some (v, s) else none
  | none => none
  else none
def ZoG (args : Array Value) (s : St) : Out :=
 match args.toList with
 | [x] => some (x, s)
 | _ => none
end
section
variable {P : Program}
theorem Zqy {f : FuncId} {fn : Func} {e : Array Value → Sem Value} (hf : P.funcs[f]? = some fn) (hn : (fn.name == "runtime.NumGoroutine") = false) (hb : fn.body.isNone = true) (hx : Extern.findNext fn = none) (he : Extern.find fn = some e) : ZeT P f (Zmt P e) := by
 refine ⟨fun args s v s' h => ?_, fun args s v s' h ho ι w args' ha hE hF => .inr ?_⟩
 ·unfold Zmt at h
  replace h := (Zn h).2
  split at h
  ·replace h := (Zn h).2
   injection h with h; injection h with h1 h2; subst h2; exact Up.refl _
  ·cases h
 ·unfold Zmt at h
  replace h := Zn h
  obtain ⟨hfree, h⟩ := h
  split at h
  ·rename_i v1 hp
   replace h := Zn h
   obtain ⟨hfv, h⟩ := h
   injection h with h; injection h with h1 h2; subst h1 h2
   have hae : args' = args := ZeP ha.1 fun i x y hx1 hy1 => (ha.2 i x y hx1 hy1).eq_of_free (ZaF hfree i x hx1)
   subst hae
   refine ⟨v1, w, ?_, v1, ι, rfl, Step.refl hE, Dom.refl, VR.of_free hfv⟩
   rw [run_callFunc_extern hf hn hb hx he, Zf7 w hp]; rfl
  ·cases h
theorem Zvr {f : FuncId} {fn : Func} (hf : P.funcs[f]? = some fn) (hn : (fn.name == "runtime.NumGoroutine") = false) (hb : fn.body.isNone = true) (hx : Extern.findNext fn = none) (he : Extern.find fn = some Extern.AbiNoEscape.same) : ZeT P f ZoG := by
 refine ⟨fun args s v s' h => ?_, fun args s v s' h ho ι w args' ha hE hF => .inr ?_⟩
 ·unfold ZoG at h
  split at h
  ·injection h with h; injection h with h1 h2; subst h2; exact Up.refl _
  ·cases h
 ·unfold ZoG at h
  split at h
  ·rename_i x hx1
   injection h with h; injection h with h1 h2; subst h1 h2
   have hA : args = #[x] := by rw [← Array.toArray_toList (xs := args), hx1]
   subst hA
   obtain ⟨y, rfl⟩ : ∃ y, args' = #[y] := by
    have h1 : args'.size = 1 := ha.1.symm
    exact ⟨args'[0], by apply Array.ext; simp [h1]; intro i h1 h2; simp at h2; subst h2; rfl⟩
   refine ⟨y, w, ?_, y, ι, rfl, Step.refl hE, Dom.refl, ha.2 0 x y rfl rfl⟩
   rw [run_callFunc_extern hf hn hb hx he]; rfl
  ·cases h
end
end Ev
end Go.Proofs.YtlbbiflodemagaaDoor
/- Strings: what the library's functions do of them. -/
namespace Go.Proofs
open Go.Shelf
def YtlbbiflodemagaaDoor.Ev.lays156_ren : Go.Shelf.Ren := ⟨fun | 156 => 19 | 165 => 29 | 166 => 22 | 169 => 23 | 240 => 31 | 241 => 36 | 276 => 39 | 277 => 47 | n => n, fun | 31 => 44 | 9 => 9 | 3 => 3 | 4 => 4 | 0 => 0 | 20 => 20 | 72 => 62 | 76 => 65 | 70 => 60 | 37 => 40 | 75 => 64 | 127 => 79 | 164 => 90 | 5 => 5 | 80 => 67 | n => n, fun | n => n⟩
theorem YtlbbiflodemagaaDoor.Ev.lays156 : Go.Proofs.Lays.n156 Tryd.prog YtlbbiflodemagaaDoor.Ev.lays156_ren := {
  mixed := by kernel_rfl
  f156 := Tryd.func19.trans (congrArg some (by kernel_rfl))
  f165 := Tryd.func29.trans (congrArg some (by kernel_rfl))
  f166 := Tryd.func22.trans (congrArg some (by kernel_rfl))
  f169 := Tryd.func23.trans (congrArg some (by kernel_rfl))
  f240 := Tryd.func31.trans (congrArg some (by kernel_rfl))
  f241 := Tryd.func36.trans (congrArg some (by kernel_rfl))
  f276 := Tryd.func39.trans (congrArg some (by kernel_rfl))
  f277 := Tryd.func47.trans (congrArg some (by kernel_rfl))
  t0 := Tryd.underlying0
  a0 := Tryd.isAgg0
  z0 := Tryd.sizeOf0
  v0 := Tryd.zeroValue0
  t3 := Tryd.underlying3
  a3 := Tryd.isAgg3
  z3 := Tryd.sizeOf3
  v3 := Tryd.zeroValue3
  t4 := Tryd.underlying4
  a4 := Tryd.isAgg4
  z4 := Tryd.sizeOf4
  v4 := Tryd.zeroValue4
  t9 := Tryd.underlying9
  a9 := Tryd.isAgg9
  z9 := Tryd.sizeOf9
  v9 := Tryd.zeroValue9
  t20 := Tryd.underlying20
  a20 := Tryd.isAgg20
  z20 := Tryd.sizeOf20
  v20 := Tryd.zeroValue20
  t31 := Tryd.underlying44
  a31 := Tryd.isAgg44
  z31 := Tryd.sizeOf44
  v31 := Tryd.zeroValue44
  t37 := Tryd.underlying40
  a37 := Tryd.isAgg40
  z37 := Tryd.sizeOf40
  v37 := Tryd.zeroValue40
  t70 := Tryd.underlying60
  a70 := Tryd.isAgg60
  z70 := Tryd.sizeOf60
  v70 := Tryd.zeroValue60
  t72 := Tryd.underlying62
  a72 := Tryd.isAgg62
  z72 := Tryd.sizeOf62
  v72 := Tryd.zeroValue62
  t75 := Tryd.underlying64
  a75 := Tryd.isAgg64
  z75 := Tryd.sizeOf64
  v75 := Tryd.zeroValue64
  t76 := Tryd.underlying65
  a76 := Tryd.isAgg65
  z76 := Tryd.sizeOf65
  v76 := Tryd.zeroValue65
  t127 := Tryd.underlying79
  a127 := Tryd.isAgg79
  z127 := Tryd.sizeOf79
  v127 := Tryd.zeroValue79
  t164 := Tryd.underlying90
  a164 := Tryd.isAgg90
  z164 := Tryd.sizeOf90
  v164 := Tryd.zeroValue90 }
def YtlbbiflodemagaaDoor.Ev.lays105_ren : Go.Shelf.Ren := ⟨fun | 105 => 26 | 212 => 32 | 99 => 33 | 165 => 29 | 166 => 22 | 170 => 34 | 169 => 23 | 263 => 40 | 264 => 41 | 206 => 42 | 240 => 31 | 241 => 36 | 276 => 39 | 277 => 47 | n => n, fun | 9 => 9 | 3 => 3 | 4 => 4 | 20 => 20 | 0 => 0 | 46 => 81 | 109 => 82 | 5 => 5 | 72 => 62 | 76 => 65 | 51 => 92 | 146 => 93 | 53 => 95 | 148 => 96 | 70 => 60 | 37 => 40 | 75 => 64 | 127 => 79 | 164 => 90 | 80 => 67 | n => n, fun | n => n⟩
theorem YtlbbiflodemagaaDoor.Ev.lays105 : Go.Proofs.Lays.n105 Tryd.prog YtlbbiflodemagaaDoor.Ev.lays105_ren := {
  mixed := by kernel_rfl
  f99 := Tryd.func33.trans (congrArg some (by kernel_rfl))
  f105 := Tryd.func26.trans (congrArg some (by kernel_rfl))
  f165 := Tryd.func29.trans (congrArg some (by kernel_rfl))
  f166 := Tryd.func22.trans (congrArg some (by kernel_rfl))
  f169 := Tryd.func23.trans (congrArg some (by kernel_rfl))
  f170 := Tryd.func34.trans (congrArg some (by kernel_rfl))
  f206 := Tryd.func42.trans (congrArg some (by kernel_rfl))
  f212 := Tryd.func32.trans (congrArg some (by kernel_rfl))
  f240 := Tryd.func31.trans (congrArg some (by kernel_rfl))
  f241 := Tryd.func36.trans (congrArg some (by kernel_rfl))
  f263 := Tryd.func40.trans (congrArg some (by kernel_rfl))
  f264 := Tryd.func41.trans (congrArg some (by kernel_rfl))
  f276 := Tryd.func39.trans (congrArg some (by kernel_rfl))
  f277 := Tryd.func47.trans (congrArg some (by kernel_rfl))
  t0 := Tryd.underlying0
  a0 := Tryd.isAgg0
  z0 := Tryd.sizeOf0
  v0 := Tryd.zeroValue0
  t3 := Tryd.underlying3
  a3 := Tryd.isAgg3
  z3 := Tryd.sizeOf3
  v3 := Tryd.zeroValue3
  t4 := Tryd.underlying4
  a4 := Tryd.isAgg4
  z4 := Tryd.sizeOf4
  v4 := Tryd.zeroValue4
  t5 := Tryd.underlying5
  a5 := Tryd.isAgg5
  z5 := Tryd.sizeOf5
  v5 := Tryd.zeroValue5
  t9 := Tryd.underlying9
  a9 := Tryd.isAgg9
  z9 := Tryd.sizeOf9
  v9 := Tryd.zeroValue9
  t20 := Tryd.underlying20
  a20 := Tryd.isAgg20
  z20 := Tryd.sizeOf20
  v20 := Tryd.zeroValue20
  t37 := Tryd.underlying40
  a37 := Tryd.isAgg40
  z37 := Tryd.sizeOf40
  v37 := Tryd.zeroValue40
  t46 := Tryd.underlying81
  a46 := Tryd.isAgg81
  z46 := Tryd.sizeOf81
  v46 := Tryd.zeroValue81
  t51 := Tryd.underlying92
  a51 := Tryd.isAgg92
  z51 := Tryd.sizeOf92
  v51 := Tryd.zeroValue92
  t53 := Tryd.underlying95
  a53 := Tryd.isAgg95
  z53 := Tryd.sizeOf95
  v53 := Tryd.zeroValue95
  t70 := Tryd.underlying60
  a70 := Tryd.isAgg60
  z70 := Tryd.sizeOf60
  v70 := Tryd.zeroValue60
  t72 := Tryd.underlying62
  a72 := Tryd.isAgg62
  z72 := Tryd.sizeOf62
  v72 := Tryd.zeroValue62
  t75 := Tryd.underlying64
  a75 := Tryd.isAgg64
  z75 := Tryd.sizeOf64
  v75 := Tryd.zeroValue64
  t76 := Tryd.underlying65
  a76 := Tryd.isAgg65
  z76 := Tryd.sizeOf65
  v76 := Tryd.zeroValue65
  t109 := Tryd.underlying82
  a109 := Tryd.isAgg82
  z109 := Tryd.sizeOf82
  v109 := Tryd.zeroValue82
  t127 := Tryd.underlying79
  a127 := Tryd.isAgg79
  z127 := Tryd.sizeOf79
  v127 := Tryd.zeroValue79
  t146 := Tryd.underlying93
  a146 := Tryd.isAgg93
  z146 := Tryd.sizeOf93
  v146 := Tryd.zeroValue93
  t148 := Tryd.underlying96
  a148 := Tryd.isAgg96
  z148 := Tryd.sizeOf96
  v148 := Tryd.zeroValue96
  t164 := Tryd.underlying90
  a164 := Tryd.isAgg90
  z164 := Tryd.sizeOf90
  v164 := Tryd.zeroValue90 }
def YtlbbiflodemagaaDoor.Ev.lays171_ren : Go.Shelf.Ren := ⟨fun | 171 => 17 | 243 => 28 | 246 => 35 | 283 => 43 | 284 => 44 | 285 => 45 | 286 => 46 | 129 => 54 | 317 => 53 | 318 => 55 | 319 => 56 | 320 => 57 | 337 => 64 | 338 => 65 | n => n, fun | 3 => 3 | 9 => 9 | 2 => 2 | 4 => 4 | 171 => 98 | 0 => 0 | 53 => 95 | 37 => 40 | 5 => 5 | 173 => 101 | 212 => 109 | 51 => 92 | 20 => 20 | 213 => 110 | 46 => 81 | 232 => 127 | 233 => 128 | n => n, fun | 17 => 0 | 18 => 2 | 19 => 3 | n => n⟩
theorem YtlbbiflodemagaaDoor.Ev.lays171 : Go.Proofs.LaysM.n171 Tryd.prog YtlbbiflodemagaaDoor.Ev.lays171_ren := {
  mixed := by kernel_rfl
  f129 := Tryd.func54.trans (congrArg some (by kernel_rfl))
  f171 := Tryd.func17.trans (congrArg some (by kernel_rfl))
  f243 := Tryd.func28.trans (congrArg some (by kernel_rfl))
  f246 := Tryd.func35.trans (congrArg some (by kernel_rfl))
  f283 := Tryd.func43.trans (congrArg some (by kernel_rfl))
  f284 := Tryd.func44.trans (congrArg some (by kernel_rfl))
  f285 := Tryd.func45.trans (congrArg some (by kernel_rfl))
  f286 := Tryd.func46.trans (congrArg some (by kernel_rfl))
  f317 := Tryd.func53.trans (congrArg some (by kernel_rfl))
  f318 := Tryd.func55.trans (congrArg some (by kernel_rfl))
  f319 := Tryd.func56.trans (congrArg some (by kernel_rfl))
  f320 := Tryd.func57.trans (congrArg some (by kernel_rfl))
  f337 := Tryd.func64.trans (congrArg some (by kernel_rfl))
  f338 := Tryd.func65.trans (congrArg some (by kernel_rfl))
  t0 := Tryd.underlying0
  a0 := Tryd.isAgg0
  z0 := Tryd.sizeOf0
  v0 := Tryd.zeroValue0
  t2 := Tryd.underlying2
  a2 := Tryd.isAgg2
  z2 := Tryd.sizeOf2
  v2 := Tryd.zeroValue2
  t3 := Tryd.underlying3
  a3 := Tryd.isAgg3
  z3 := Tryd.sizeOf3
  v3 := Tryd.zeroValue3
  t4 := Tryd.underlying4
  a4 := Tryd.isAgg4
  z4 := Tryd.sizeOf4
  v4 := Tryd.zeroValue4
  t5 := Tryd.underlying5
  a5 := Tryd.isAgg5
  z5 := Tryd.sizeOf5
  v5 := Tryd.zeroValue5
  t9 := Tryd.underlying9
  a9 := Tryd.isAgg9
  z9 := Tryd.sizeOf9
  v9 := Tryd.zeroValue9
  t20 := Tryd.underlying20
  a20 := Tryd.isAgg20
  z20 := Tryd.sizeOf20
  v20 := Tryd.zeroValue20
  t37 := Tryd.underlying40
  a37 := Tryd.isAgg40
  z37 := Tryd.sizeOf40
  v37 := Tryd.zeroValue40
  t46 := Tryd.underlying81
  a46 := Tryd.isAgg81
  z46 := Tryd.sizeOf81
  v46 := Tryd.zeroValue81
  t51 := Tryd.underlying92
  a51 := Tryd.isAgg92
  z51 := Tryd.sizeOf92
  v51 := Tryd.zeroValue92
  t53 := Tryd.underlying95
  a53 := Tryd.isAgg95
  z53 := Tryd.sizeOf95
  v53 := Tryd.zeroValue95
  t171 := Tryd.underlying98
  a171 := Tryd.isAgg98
  z171 := Tryd.sizeOf98
  v171 := Tryd.zeroValue98
  t173 := Tryd.underlying101
  a173 := Tryd.isAgg101
  z173 := Tryd.sizeOf101
  v173 := Tryd.zeroValue101
  t212 := Tryd.underlying109
  a212 := Tryd.isAgg109
  z212 := Tryd.sizeOf109
  v212 := Tryd.zeroValue109
  t213 := Tryd.underlying110
  a213 := Tryd.isAgg110
  z213 := Tryd.sizeOf110
  t232 := Tryd.underlying127
  a232 := Tryd.isAgg127
  z232 := Tryd.sizeOf127
  v232 := Tryd.zeroValue127
  t233 := Tryd.underlying128
  a233 := Tryd.isAgg128
  z233 := Tryd.sizeOf128
  v233 := Tryd.zeroValue128
  g17 := by kernel_rfl
  g18 := by kernel_rfl
  g19 := by kernel_rfl
  i0 := by kernel_rfl
  i2 := by kernel_rfl
  i3 := by kernel_rfl
  i4 := by kernel_rfl
  i5 := by kernel_rfl
  i9 := by kernel_rfl
  i20 := by kernel_rfl
  i37 := by kernel_rfl
  i46 := by kernel_rfl
  i51 := by kernel_rfl
  i53 := by kernel_rfl
  i171 := by kernel_rfl
  i173 := by kernel_rfl
  i212 := by kernel_rfl
  i232 := by kernel_rfl
  i233 := by kernel_rfl
  m17 := by kernel_rfl
  m18 := by kernel_rfl
  m19 := by kernel_rfl }
end Go.Proofs
namespace Go.Proofs.YtlbbiflodemagaaDoor
open Go.RowKit
namespace Ev
set_option linter.unusedVariables false
def Zgo : Nat → Nat → List Int
 | 0, _ => []
 | f + 1, u => if u < 10 then [(48 + u : Nat)] else Zgo f (u / 10) ++ [((48 + u % 10 : Nat) : Int)]
def ZeX (n : Int) : List Int := if n < 0 then 45 :: Zgo 20 n.natAbs else Zgo 20 n.toNat
def u8s (l : List Int) : List UInt8 := l.map fun n => UInt8.ofNat n.toNat
theorem ZmT (a b : List Int) : u8s (a ++ b) = u8s a ++ u8s b := List.map_append
theorem Zuz (ns : List Int) : ∀ acc : ByteArray, (ns.foldl (fun r n => r.push (UInt8.ofNat n.toNat)) acc).data = acc.data ++ (u8s ns).toArray := by
 induction ns with
 | nil => intro acc; simp [u8s]
 | cons n ns ih => intro acc; rw [List.foldl_cons, ih]; simp [ByteArray.push, u8s]
theorem Zc7 (ns : List Int) : Za ns = ⟨(u8s ns).toArray⟩ := by
 apply ByteArray.ext
 unfold Za
 rw [Zuz]
 simp
theorem ZrS : ∀ (f u : Nat), u < 10 ^ f → u8s (Zgo f u) = if f = 0 then [] else Lib.decDigits u
 | 0, u, h => rfl
 | f + 1, u, h => by
  rw [if_neg (by omega)]
  unfold Zgo
  rw [Lib.decDigits]
  by_cases hu : u < 10
  ·rw [if_pos hu, dif_pos hu]; rfl
  ·rw [if_neg hu, dif_neg hu, ZmT]
   cases f with
   | zero => simp at h; omega
   | succ f =>
    rw [ZrS (f + 1) (u / 10) (by rw [Nat.pow_succ] at h; omega), if_neg (by omega)]
    rfl
theorem Zp4 {n : Int} (h0 : -9223372036854775808 ≤ n) (h1 : n ≤ 9223372036854775807) : Za (ZeX n) = ⟨(Lib.itoa n).toArray⟩ := by
 rw [Zc7]
 congr 2
 unfold ZeX Lib.itoa
 by_cases hn : n < 0
 ·rw [if_pos hn, if_pos hn]
  show (45 : UInt8) :: u8s (Zgo 20 n.natAbs) = _
  rw [ZrS 20 _ (by omega), if_neg (by decide)]
 ·rw [if_neg hn, if_neg hn, ZrS 20 _ (by omega), if_neg (by decide)]
def ZoH : List Value → Option (List ByteArray)
 | [] => some []
 | .string x :: l => match ZoH l with | some r => some (x :: r) | none => none
 | _ => none
theorem Zqz : ∀ {l : List Value} {r : List ByteArray}, ZoH l = some r → l = r.map Value.string
 | [], r, h => by injection h with h; subst h; rfl
 | v :: l, r, h => by
  unfold ZoH at h
  split at h
  ·rename_i e; cases e
  ·rename_i x l' e
   injection e with e1 e2
   subst e1 e2
   split at h
   ·rename_i r' hr
    injection h with h
    subst h
    rw [Zqz hr]; rfl
   ·cases h
  ·cases h
def ZmU (sep : ByteArray) : List ByteArray → ByteArray
 | [] => ByteArray.empty
 | x :: l => l.foldl (fun a y => a ++ sep ++ y) x
def Zp5 (x : ByteArray) : Nat → ByteArray
 | 0 => ByteArray.empty
 | n + 1 => x ++ Zp5 x n
theorem Zt5 (x : ByteArray) : x = ⟨x.data.toList.toArray⟩ := by cases x; simp
theorem Zq0 (sep : ByteArray) : ∀ (l : List ByteArray) (a : ByteArray), (l.foldl (fun a y => a ++ sep ++ y) a).data.toList = a.data.toList ++ Lib.joinTail sep.data.toList (l.map (·.data.toList))
 | [], a => by simp [Lib.joinTail]
 | y :: l, a => by
  rw [List.foldl_cons, Zq0 sep l]
  simp [Lib.joinTail, ByteArray.data_append]
theorem ZrT (sep : ByteArray) (xs : List ByteArray) : ZmU sep xs = ⟨(Lib.join (xs.map (·.data.toList)) sep.data.toList).toArray⟩ := by
 cases xs with
 | nil => rfl
 | cons x l =>
  rw [Zt5 (ZmU sep (x :: l))]
  unfold ZmU
  rw [Zq0, List.map_cons, Lib.join_cons]
theorem Zu0 (sep : ByteArray) (xs : List ByteArray) : (ZmU sep xs).size = (Lib.join (xs.map (·.data.toList)) sep.data.toList).length := by
 rw [ZrT]; simp [ByteArray.size]
noncomputable section
def Zre (args : Array Value) (s : St) : Out :=
 match args.toList with
 | [.int .i64 n] => match s.tst (decide (-9223372036854775808 ≤ n) && decide (n ≤ 9223372036854775807)) with
  | (true, s1) => some (.string (Za (ZeX n)), s1)
  | (false, _) => none
 | _ => none
def Zrf (args : Array Value) (s : St) : Out :=
 match args.toList with
 | [.slice (some ⟨k, o, none⟩) n c, .string sep] => match rowAt s k o n with
  | some l => match ZoH l with
   | some xs => bif Nat.ble n c && Nat.ble n 100000 then match s.tst (Nat.ble (ZmU sep xs).size 140737488355328) with
    | (true, s1) => some (.string (ZmU sep xs), s1)
    | (false, _) => none
    else none
   | none => none
  | none => none
 | _ => none
def ZmV (args : Array Value) (s : St) : Out :=
 match args.toList with
 | [.string x, .int .i64 (.ofNat n)] => bif Nat.ble n 100000 then match s.tst (Nat.ble (x.size * n) 140737488355328) with
  | (true, s1) => some (.string (Zp5 x n), s1)
  | (false, _) => none
  else none
 | _ => none
end
section
variable {P : Program}
theorem ZkF {f : FuncId} {fn : Func} {c : Code} {g : Array Value → St → Out} (hf : P.funcs[f]? = some fn) (hb : fn.body = some c) (up : ∀ args s v s', g args s = some (v, s') → Up s s')
  (h : ∀ args s v s', g args s = some (v, s') → (∀ p ∈ s'.ob, p.1 = p.2) → s'.h = s.h ∧ s'.n = s.n ∧ Zbv v = true ∧ ∀ ι w args', VRs ι args args' → Emb P ι s.h.get w → Calls P f args' w fun e w' => e = .returned v ∧ Below w.heap.size w w') : ZeT P f g := by
 refine ⟨up, fun args s v s' hg ho ι w args' ha he hF => .inl ⟨⟨fn, c, hf, hb⟩, ?_⟩⟩
 obtain ⟨q1, q2, q3, q4⟩ := h args s v s' hg ho
 refine (q4 ι w args' ha he).mono ?_
 rintro e w' ⟨rfl, hB⟩
 refine ⟨v, ι, rfl, ?_, ?_, VR.of_free q3⟩
 ·rw [q1]; exact Step.below he hB
 ·rw [q2]; exact Dom.refl
theorem ZnV {s s1 : St} {t : Bool} (h : s.tst t = (true, s1)) (ho : ∀ p ∈ s1.ob, p.1 = p.2) : t = true ∧ s1.h = s.h ∧ s1.n = s.n := by
 unfold St.tst at h
 split at h
 ·injection h with h1 h2; subst h2; exact ⟨h1, rfl, rfl⟩
 ·injection h with h1 h2; subst h2; exact ⟨h1, rfl, rfl⟩
 ·injection h with h1 h2; subst h1 h2
  exact ⟨ho (t, true) (List.mem_cons_self ..), rfl, rfl⟩
end
theorem Zl0 {w w' : World} (h : ∃ k os, w' = Go.Sort.grow (w.drewN k) os) : Below w.heap.size w w' := by
 obtain ⟨k, os, rfl⟩ := h
 refine ⟨rfl, rfl, rfl, by show w.heap.size ≤ (w.heap ++ os).size; rw [Array.size_append]; omega, fun j hj => ?_⟩
 show (w.heap ++ os)[j]? = w.heap[j]?
 exact Array.getElem?_append_left hj
theorem tabItoa {w : World} (h : TabW w) : Lib.TabIs Tryd.prog w "internal/strconv.uint64pow10" .u64 Lib.pow10Tab := by
  obtain ⟨C, t, fr, hw, hC⟩ := h _ (List.mem_cons_self ..)
  obtain rfl : C = _ := hC
  unfold Lib.TabIs World.var?
  rw [show Tryd.prog.globalNamed "internal/strconv.uint64pow10" = some 0 from by kernel_rfl]
  simp only [Option.bind_some]
  rw [hw]
  rfl
theorem itoa_does : ZeT Tryd.prog 17 Zre := by
  refine ZkF Tryd.func17 rfl (fun args s v s' h => ?_) fun args s v s' h ho => ?_
  · unfold Zre at h
    split at h
    · split at h
      · rename_i s1 hs; injection h with h; injection h with h1 h2; subst h2; exact Zfg hs
      · cases h
    · cases h
  · unfold Zre at h
    split at h
    · rename_i n hl
      split at h
      · rename_i s1 hs
        injection h with h; injection h with h1 h2; subst h1 h2
        obtain ⟨t1, t2, t3⟩ := ZnV hs ho
        simp only [Bool.and_eq_true, decide_eq_true_eq] at t1
        refine ⟨t2, t3, rfl, fun ι w args' ha he => ?_⟩
        have hA : args = #[.int .i64 n] := by rw [← Array.toArray_toList (xs := args), hl]
        subst hA
        obtain rfl : args' = #[.int .i64 n] := ZeP ha.1 fun i x y hx1 hy1 => (ha.2 i x y hx1 hy1).eq_of_free (ZaF (p := Zbv) (a := #[.int .i64 n]) rfl i x hx1)
        refine (Any.strconv_Itoa lays171 n t1.1 t1.2 w (tabItoa he.tabw)).mono ?_
        rintro e w' ⟨rfl, hw⟩
        exact ⟨by rw [Zp4 t1.1 t1.2], Zl0 hw⟩
      · cases h
    · cases h
theorem Zvs {ι : Ren} {a b : Value} {args' : Array Value} (h : VRs ι #[a, b] args') : ∃ x' y', args' = #[x', y'] ∧ VR ι a x' ∧ VR ι b y' := by
 obtain ⟨l⟩ := args'
 match l, h with
 | [x, y], h => exact ⟨x, y, rfl, h.2 0 a x rfl rfl, h.2 1 b y rfl rfl⟩
 | [], h => exact absurd h.1 (by simp)
 | [_], h => exact absurd h.1 (by simp)
 | _ :: _ :: _ :: _, h => exact absurd h.1 (by simp)
theorem ZwZ (x : ByteArray) (n : Nat) : Zp5 x n = ⟨(Lib.repeatL x.data.toList n).toArray⟩ := by
 have : ∀ n : Nat, (Zp5 x n).data.toList = Lib.repeatL x.data.toList n := fun n => by
  induction n with
  | zero => rfl
  | succ n ih => unfold Zp5; rw [ByteArray.data_append, Array.toList_append, ih]; rfl
 rw [Zt5 (Zp5 x n), this]
theorem extra156 : Builder.Extra Tryd.prog lays156_ren := { sizeBuilder := by kernel_rfl, liesBuilder := by kernel_rfl, t5 := Tryd.underlying5, a5 := Tryd.isAgg5, z5 := Tryd.sizeOf5, v5 := Tryd.zeroValue5, infoByte := by kernel_rfl, cellsByte := by kernel_rfl, sizeByte := by kernel_rfl, neB5 := by decide }
theorem join_does : ZeT Tryd.prog 19 Zrf := by
  refine ZkF Tryd.func19 rfl (fun args s v s' h => ?_) fun args s v s' h ho => ?_
  · unfold Zrf at h
    split at h
    · split at h
      · split at h
        · replace h := (Zn h).2
          split at h
          · rename_i s1 hs; injection h with h; injection h with h1 h2; subst h2; exact Zfg hs
          · cases h
        · cases h
      · cases h
    · cases h
  · unfold Zrf at h
    split at h
    · rename_i k o n c sep hl
      split at h
      · rename_i l hr
        split at h
        · rename_i xs hx
          obtain ⟨hnc, h⟩ := Zn h
          simp only [Bool.and_eq_true] at hnc
          split at h
          · rename_i s1 hs
            injection h with h; injection h with h1 h2; subst h1 h2
            obtain ⟨t1, t2, t3⟩ := ZnV hs ho
            refine ⟨t2, t3, rfl, fun ι w args' ha he => ?_⟩
            have hA : args = #[.slice (some ⟨k, o, none⟩) n c, .string sep] := by rw [← Array.toArray_toList (xs := args), hl]
            subst hA
            obtain ⟨b, cs, hb, hcl, hll, hcs, hvv⟩ := Zjz he hr
            have hxl := Zqz hx
            subst hxl
            have hcell : ∀ (j : Nat) x, xs[j]? = some x → w.cell? ⟨b.1, o + j, none⟩ = some (.string x) := fun j x hj => by
              have hjl : j < xs.length := (List.getElem?_eq_some_iff.1 hj).1
              have hjc : j < cs.length := by rw [hcl, ← hll, List.length_map]; exact hjl
              have h1 := hcs j cs[j] (List.getElem?_eq_getElem hjc)
              have h2 := (hvv j (.string x) cs[j] (by rw [List.getElem?_map, hj]; rfl) (List.getElem?_eq_getElem hjc)).eq_of_atom rfl
              rw [h2, Addr.add_lit] at h1
              exact h1
            have hln : xs.length = n := by simpa using hll
            obtain ⟨x', y', rfl, hv1, hv2⟩ := Zvs ha
            obtain rfl := hv2.eq_of_atom rfl
            have hsz : (Lib.join (xs.map (·.data.toList)) sep.data.toList).length ≤ 140737488355328 := by rw [← Zu0]; exact Nat.le_of_ble_eq_true t1
            have hle : n ≤ c := Nat.le_of_ble_eq_true hnc.1
            have hN : n ≤ 100000 := Nat.le_of_ble_eq_true hnc.2
            cases hv1 with
            | atom h => exact (Bool.false_ne_true h).elim
            | slice hb2 hn hc hq =>
              rename_i b2 c'
              rw [hb] at hb2; injection hb2 with hb2; subst hb2
              subst hln
              refine (Any.strings_Join lays156 extra156 b.1 o c' xs sep w hcell (he.lt _ _ hb) (by omega) (by omega) hsz).mono ?_
              rintro e w' ⟨rfl, hB⟩
              exact ⟨by rw [ZrT], hB⟩
            | slice0 _h0 =>
              rename_i a'
              have : xs = [] := List.eq_nil_of_length_eq_zero hln
              subst this
              refine (Any.strings_Join_none lays156 extra156 a' 0 sep w).mono ?_
              rintro e w' ⟨rfl, rfl⟩
              exact ⟨rfl, Below.refl _ _⟩
          · cases h
        · cases h
      · cases h
    · cases h
theorem extra105 : Builder.Extra Tryd.prog lays105_ren := { sizeBuilder := by kernel_rfl, liesBuilder := by kernel_rfl, t5 := Tryd.underlying5, a5 := Tryd.isAgg5, z5 := Tryd.sizeOf5, v5 := Tryd.zeroValue5, infoByte := by kernel_rfl, cellsByte := by kernel_rfl, sizeByte := by kernel_rfl, neB5 := by decide }
theorem repeat_does : ZeT Tryd.prog 26 ZmV := by
  refine ZkF Tryd.func26 rfl (fun args s v s' h => ?_) fun args s v s' h ho => ?_
  · unfold ZmV at h
    split at h
    · replace h := (Zn h).2
      split at h
      · rename_i s1 hs; injection h with h; injection h with h1 h2; subst h2; exact Zfg hs
      · cases h
    · cases h
  · unfold ZmV at h
    split at h
    · rename_i x n hl
      obtain ⟨hn, h⟩ := Zn h
      split at h
      · rename_i s1 hs
        injection h with h; injection h with h1 h2; subst h1 h2
        obtain ⟨t1, t2, t3⟩ := ZnV hs ho
        refine ⟨t2, t3, rfl, fun ι w args' ha he => ?_⟩
        have hA : args = #[.string x, .int .i64 (.ofNat n)] := by rw [← Array.toArray_toList (xs := args), hl]
        subst hA
        obtain rfl : args' = #[.string x, .int .i64 (.ofNat n)] := ZeP ha.1 fun i y z hx1 hy1 => (ha.2 i y z hx1 hy1).eq_of_free (ZaF (p := Zbv) (a := #[.string x, .int .i64 (.ofNat n)]) rfl i y hx1)
        have hn2 := Nat.le_of_ble_eq_true hn
        refine (Any.strings_Repeat lays105 extra105 x n w (by omega) (Nat.le_of_ble_eq_true t1)).mono ?_
        rintro e w' ⟨rfl, hB⟩
        exact ⟨by rw [ZwZ], hB⟩
      · cases h
    · cases h
end Ev
end Go.Proofs.YtlbbiflodemagaaDoor
/- A strings.Builder's text. -/
namespace Go.Proofs.YtlbbiflodemagaaDoor
open Go.RowKit Go.Shelf
namespace Ev
set_option linter.unusedVariables false
section
variable {P : Program}
theorem ZkG (w : World) : ∀ (l : List Int) (a : Addr) (acc : ByteArray), (∀ j x, l[j]? = some x → w.cell? (a.add j) = some (.int .u8 x)) → (loadBytes a acc l.length).run P w = .ok (l.foldl (fun r n => r.push (UInt8.ofNat n.toNat)) acc) w
 | [], a, acc, _ => rfl
 | x :: l, a, acc, h => by
  have h0 : w.cell? a = some (.int .u8 x) := by
   have := h 0 x rfl
   simpa [Addr.add] using this
  have ih := ZkG w l (a.add 1) (acc.push (UInt8.ofNat x.toNat)) (fun j y hy => by
   have := h (j + 1) y (by simpa using hy)
   have e : (a.add 1).add j = a.add (j + 1) := by
    unfold Addr.add
    by_cases hj : j = 0
    ·subst hj; simp
    ·simp [hj]; omega
   rw [e]; exact this)
  simp only [List.length_cons, loadBytes, Sem.run_bind, run_load, h0, Result.andThen]
  exact ih
theorem Zne (w : World) (pt it ty e : TypeId) (hp : P.underlying pt = some (.pointer e)) (hc : P.cellsOf e = 1) (g cells : Nat) (hsh : w.shape? g = some (e, cells)) (l : List Int) (h0 : l ≠ []) (hn : l.length ≤ cells) (h63 : l.length ≤ 9223372036854775807)
  (hcell : ∀ j x, l[j]? = some x → w.cell? ((⟨g, 0, none⟩ : Addr).add j) = some (.int .u8 x)) :
  (Builtin.unsafeString_ #[pt, it] ty #[.pointer (some ⟨g, 0, none⟩), .int .i64 l.length]).run P w = .ok (.string (Za l)) (w.freeze ⟨g, 0, none⟩ l.length) := by
 have hl : l.length ≠ 0 := by simpa using h0
 have hlb := ZkG (P := P) w l ⟨g, 0, none⟩ .empty hcell
 have hlies := Lib.liesAt_bytes (P := P) hc (cells / P.cellsOf e) l.length (by rw [hc]; simpa using hn)
 have h63' : ¬ (9223372036854775807 : Int) < (l.length : Int) := by omega
 have hneg : ¬ (l.length : Int) < 0 := by omega
 have hmax : IntKind.i64.max = 9223372036854775807 := rfl
 rw [show Builtin.unsafeString_ #[pt, it] ty #[.pointer (some ⟨g, 0, none⟩), .int .i64 l.length] = asInt (.int .i64 l.length) >>= _ from rfl]
 simp [asInt, asIntOf, hmax, h63', hneg, hl, variablesAt, hsh, elemOf, run_underlying hp, hlies, hlb, Za]
end
set_option maxHeartbeats 1000000 in
set_option maxRecDepth 100000 in
theorem Zwl {tb : TypeId} {b g n cap : Nat} {cur : Array Value} {l : List Int} {w : World} {C : Array Value} {fr fr2 : Nat × Nat} (hb : w.heap[b]? = some (.cells C tb fr)) (hC : C[1]? = some (.slice (some ⟨g, 0, none⟩) n cap)) (hg : w.heap[g]? = some (.cells cur 5 fr2)) (hn : l.length = n) (h0 : l ≠ []) (hc : cap ≠ 0) (h63 : l.length ≤ 9223372036854775807) (hl : ∀ (j : Nat) (x : Int), l[j]? = some x → cur[j]? = some (Value.int .u8 x)) :
  Calls Tryd.prog 23 #[.pointer (some ⟨b, 0, none⟩)] w fun e w' => e = .returned (.string (Za l)) ∧ w' = w.drew.freeze ⟨g, 0, none⟩ l.length := by
 subst hn
 have hsz : l.length ≤ cur.size := by
  rcases Nat.lt_or_ge cur.size l.length with h | h
  ·have := hl cur.size l[cur.size] (List.getElem?_eq_getElem h)
   simp at this
  ·exact h
 have c1 : w.drew.cell? ⟨b, 1, none⟩ = some (.slice (some ⟨g, 0, none⟩) l.length cap) := by
  have : w.drew.heap[b]? = some (.cells C tb fr) := hb
  rw [Lib.cell_of_heap this]; exact hC
 have hSD : (Builtin.unsafeSliceData_ #[40] 79 #[.slice (some ⟨g, 0, none⟩) l.length cap]).run Tryd.prog w.drew = .ok (.pointer (some ⟨g, 0, none⟩)) w.drew :=
  Lib.run_unsafeSliceData_row _ _ _ _ _ _ hc
 have hUS : (Builtin.unsafeString_ #[79, 3] 9 #[.pointer (some ⟨g, 0, none⟩), .int .i64 l.length]).run Tryd.prog w.drew = .ok (.string (Za l)) (w.drew.freeze ⟨g, 0, none⟩ l.length) := by
  refine Zne w.drew 79 3 9 5 Tryd.underlying79 (by kernel_rfl) g cur.size (by have hg' : w.drew.heap[g]? = some (.cells cur 5 fr2) := hg; simp [World.shape?, hg']) l h0 hsz h63 ?_
  intro j x hx
  have h1 := hl j x hx
  have h2 : w.drew.heap[g]? = some (.cells cur 5 fr2) := hg
  rw [Addr.add_lit, Lib.cell_of_heap h2, Nat.zero_add]; exact h1
 have mixed : Tryd.prog.follows .mixedOrders = true := by kernel_rfl
 go_enter Tryd.func23, Tryd.ntmps23
 go_wp2
 go_region_o
 all_goals (go_wp2; go_ret; exact ⟨rfl, rfl⟩)
theorem Zwm {tb : TypeId} {b : Nat} {C : Array Value} {fr : Nat × Nat} {w : World} (hb : w.heap[b]? = some (.cells C tb fr)) (hC : C[1]? = some (.slice none 0 0)) :
  Calls Tryd.prog 23 #[.pointer (some ⟨b, 0, none⟩)] w fun e w' => e = .returned (.string ByteArray.empty) ∧ w' = w.drew := by
 have c1 : w.drew.cell? ⟨b, 1, none⟩ = some (.slice none 0 0) := by
  have : w.drew.heap[b]? = some (.cells C tb fr) := hb
  rw [Lib.cell_of_heap this]; exact hC
 have hSD : (Builtin.unsafeSliceData_ #[40] 79 #[.slice none 0 0]).run Tryd.prog w.drew = .ok (.pointer none) w.drew := rfl
 have hUS : (Builtin.unsafeString_ #[79, 3] 9 #[.pointer none, .int .i64 0]).run Tryd.prog w.drew = .ok (.string .empty) w.drew := Lib.run_unsafeString_none w.drew _ _ _ none
 have mixed : Tryd.prog.follows .mixedOrders = true := by kernel_rfl
 go_enter Tryd.func23, Tryd.ntmps23
 go_wp2
 go_region_o
 all_goals (go_wp2; go_ret; exact ⟨rfl, rfl⟩)
theorem Step.gone {P : Program} {ι : Ren} {h : AH} {w w' : World} (e : Emb P ι h w) {k0 : Nat} {b : Nat × Nat} (hl : isC (h k0) = true) (hb : ι k0 = some b) (hO : ∀ i, i ≠ b.1 → w'.heap[i]? = w.heap[i]?) (hs : w'.heap.size = w.heap.size) (ho : w'.os = w.os) (ht : w'.tape = w.tape) (hp : w'.output = w.output) :
  Step P ι h w ι (upd h k0 none) w' := by
 have ne : ∀ k o, upd h k0 none k = some o → k ≠ k0 ∧ h k = some o := fun k o hk => by
  have h1 := (ZlW (h := h) (k0 := k0) (k := k) (by rw [hk]; rfl)).1
  rw [Zm h1] at hk
  exact ⟨h1, hk⟩
 have far_ : ∀ k c, sol (h k) → k ≠ k0 → ι k = some c → c.1 ≠ b.1 := fun k c h1 h2 h3 h4 => h2 (e.inj k0 k b c hl h1 hb h3 h4.symm).symm
 refine ⟨fun _ _ h => h, ⟨fun k c t q hk => ?_, fun k O hk => ?_, fun k k' b1 b2 h1 h2 => e.inj k k' b1 b2 (ZeH h1).2 (ZhE h2).2, fun k b hk => by rw [hs]; exact e.lt k b hk, e.marks (fun _ _ h => h) (fun i _ hno => hO i fun e1 => hno k0 b hl hb e1.symm) (fun _ _ _ _ h => h) (fun k d hk hd => .inr ⟨k, d, (ZeH hk).2, hd, rfl⟩), e.tb⟩,
  ho, ht, hp, by rw [hs]; exact Nat.le_refl _, fun i _ hno => hO i fun e1 => hno k0 b hl hb e1.symm, fun k b h1 h2 => (by rw [h1] at h2; cases h2), fun k h1 _ => (ZhE h1).2, fun k h1 _ => (ZeH h1).2⟩
 ·obtain ⟨h1, h2⟩ := ne k _ hk
  obtain ⟨b1, q1, hz | ⟨q0, C1, q2, q3, q4⟩⟩ := e.obj k c t q h2
  ·exact ⟨b1, q1, .inl hz⟩
  ·exact ⟨b1, q1, .inr ⟨q0, C1, q2.on (hO _ (far_ k b1 (by rw [h2]; exact Zgc q0) h1 q1)), q3, q4⟩⟩
 ·obtain ⟨h1, h2⟩ := ne k _ hk
  obtain ⟨b1, q1, q2⟩ := e.ro k O h2
  exact ⟨b1, q1, q2.on (hO _ (far_ k b1 (by rw [h2]; rfl) h1 q1))⟩
noncomputable section
def St.kill (s : St) (k : Nat) : St := ⟨s.h.set k none, s.n, k :: s.wr, s.orc, s.ob⟩
def Zrg (args : Array Value) (s : St) : Out :=
 match args.toList with
 | [.pointer (some ⟨k, 0, none⟩)] => match s.h.get k with
  | some (.cells (_ :: q :: _) _) => match q with
   | .slice none 0 0 => some (.string ByteArray.empty, s)
   | .slice (some ⟨j, 0, none⟩) n c => match s.h.get j with
    | some (.cells cs t') => bif Nat.beq t' 5 && !Nat.beq j k then match s.nextW with
     | (some (.bs ns), s1) => some (.string (Za ns), (s1.kill j).told (dP (Z8 n cs = some (ns.map (Value.int .u8)) ∧ 0 < n ∧ n ≤ c ∧ n ≤ 1000000000)))
     | (some _, _) => none
     | (none, s1) => match Z8 n cs with
      | some l => match Zjd l with
       | some ns => bif Nat.blt 0 n && Nat.ble n c && Nat.ble n 1000000000 then some (.string (Za ns), s1.kill j) else none
       | none => none
      | none => none
     else none
    | _ => none
   | _ => none
  | _ => none
 | _ => none
end
theorem Zt6 {s : St} {k : Nat} : Up s (s.kill k) := ⟨Nat.le_refl _, List.suffix_refl _, [k], rfl, fun j hj _ => by
 show (s.h.set k none).get j = _
 rw [Tr.get_set, Zm (by simpa using hj)]⟩
theorem Zt7 {tb : TypeId} {ι : Ren} {s : St} {w : World} {k j n c : Nat} {x : Value} {r cs : List Value} {ns : List Int} {s' : St} (he : Emb Tryd.prog ι s.h.get w) (hk : s.h.get k = some (.cells (x :: .slice (some ⟨j, 0, none⟩) n c :: r) tb)) (hj : s.h.get j = some (.cells cs 5)) (ht : Z8 n cs = some (ns.map (Value.int .u8))) (h0 : 0 < n) (hc : n ≤ c) (hn : n ≤ 1000000000) {args' : Array Value} (ha : VRs ι #[.pointer (some ⟨k, 0, none⟩)] args') (e1 : s'.h = s.h.set j none) (e2 : s'.n = s.n) :
  Calls Tryd.prog 23 args' w (ZiT Tryd.prog ι s w (.string (Za ns)) s') := by
 obtain ⟨b, C, q1, q2, q3, _⟩ := he.objF k _ _ hk
 obtain ⟨g, D, r1, r2, r3, _⟩ := he.objF j _ _ hj
 obtain ⟨fr1, q2, _⟩ := q2
 obtain ⟨fr2, r2, _⟩ := r2
 obtain ⟨t1, t2⟩ := ZdY ht
 have hC1 : ∃ y, C[1]? = some y ∧ VR ι (.slice (some ⟨j, 0, none⟩) n c) y := by
  have hl := q3.1
  simp only [List.length_cons] at hl
  exact ⟨C[1]'(by omega), Array.getElem?_eq_getElem (by omega), q3.2 1 _ _ rfl (Array.getElem?_eq_getElem (by omega))⟩
 obtain ⟨y, hy, hv⟩ := hC1
 have hne : ns.length = n := by
  have := congrArg List.length t1
  simp at this; omega
 have hcell : ∀ (i : Nat) (z : Int), ns[i]? = some z → D[i]? = some (Value.int .u8 z) := fun i z hz => by
  have hi : i < n := by have := (List.getElem?_eq_some_iff.1 hz).1; omega
  have h1 : cs[i]? = some (.int .u8 z) := by
   have h2 : (cs.take n)[i]? = some (.int .u8 z) := by rw [← t1, List.getElem?_map, hz]; rfl
   rwa [List.getElem?_take_of_lt hi] at h2
  have hil := (List.getElem?_eq_some_iff.1 h1).1
  have hD : D[i]? = some (D[i]'(by have := r3.1; omega)) := Array.getElem?_eq_getElem _
  rw [hD, (r3.2 i _ _ h1 hD).int_inv]
 have hA : args' = #[.pointer (some ⟨b.1, 0, none⟩)] := by
  obtain ⟨l⟩ := args'
  match l, ha with
  | [z], ha =>
   have := ha.2 0 _ z rfl rfl
   cases this with
   | atom h => exact (Bool.false_ne_true h).elim
   | ptr h => rw [q1] at h; injection h with h; subst h; rfl
  | [], ha => exact absurd ha.1 (by simp)
  | _ :: _ :: _, ha => exact absurd ha.1 (by simp)
 subst hA
 cases hv with
 | atom h => exact (Bool.false_ne_true h).elim
 | slice0 _ => omega
 | slice hb2 hn2 hc2 hq =>
  rename_i b2 c'
  rw [r1] at hb2; injection hb2 with hb2; subst hb2
  refine (Zwl (l := ns) q2 hy r2 hne (fun e => by subst e; simp at hne; omega) (by omega) (by omega) hcell).mono ?_
  rintro e w' ⟨rfl, rfl⟩
  refine ⟨_, ι, rfl, ?_, by rw [e2]; exact Dom.refl, .atom rfl⟩
  rw [e1, Tr.get_set]
  have hns : ns.length ≠ 0 := by omega
  refine Step.gone he (by rw [hj]; rfl) r1 (fun i hi => ?_) ?_ ?_ ?_ ?_
  ·unfold World.freeze
   rw [if_neg hns]
   show (w.heap.modify g.1 _)[i]? = _
   rw [Array.getElem?_modify, if_neg (fun e => hi e.symm)]
  ·unfold World.freeze
   rw [if_neg hns]
   show (w.heap.modify g.1 _).size = _
   rw [Array.size_modify]
  all_goals (unfold World.freeze; rw [if_neg hns]; rfl)
theorem Zvt : ZeT Tryd.prog 23 Zrg := by
 refine ⟨fun args s v s' h => ?_, fun args s v s' h ho ι w args' ha he hF => .inl ⟨⟨_, _, Tryd.func23, rfl⟩, ?_⟩⟩
 ·unfold Zrg at h
  split at h
  ·split at h
   ·split at h
    ·injection h with h; injection h with h1 h2; subst h2; exact Up.refl _
    ·split at h
     ·replace h := (Zn h).2
      split at h
      ·rename_i hw; injection h with h; injection h with h1 h2; subst h2; exact ((ZQ hw).trans Zt6).trans (Zam _)
      ·cases h
      ·rename_i hw
       split at h
       ·split at h
        ·replace h := (Zn h).2
         injection h with h; injection h with h1 h2; subst h2; exact (ZQ hw).trans Zt6
        ·cases h
       ·cases h
     ·cases h
    ·cases h
   ·cases h
  ·cases h
 ·unfold Zrg at h
  split at h
  ·rename_i k hl
   have hA : args = #[.pointer (some ⟨k, 0, none⟩)] := by rw [← Array.toArray_toList (xs := args), hl]
   subst hA
   split at h
   ·rename_i x q r t hk
    split at h
    ·injection h with h; injection h with h1 h2; subst h1 h2
     obtain ⟨b, C, q1, q2, q3, _⟩ := he.objF k _ _ hk
     obtain ⟨fr1, q2, _⟩ := q2
     have hC1 : C[1]? = some (.slice none 0 0) := by
      have hl := q3.1
      simp only [List.length_cons] at hl
      have h2 : C[1]? = some (C[1]'(by omega)) := Array.getElem?_eq_getElem (by omega)
      rw [h2, (q3.2 1 _ _ rfl h2).eq_of_atom rfl]
     have hA : args' = #[.pointer (some ⟨b.1, 0, none⟩)] := by
      obtain ⟨l⟩ := args'
      match l, ha with
      | [z], ha =>
       have := ha.2 0 _ z rfl rfl
       cases this with
       | atom h => exact (Bool.false_ne_true h).elim
       | ptr h => rw [q1] at h; injection h with h; subst h; rfl
      | [], ha => exact absurd ha.1 (by simp)
      | _ :: _ :: _, ha => exact absurd ha.1 (by simp)
     subst hA
     refine (Zwm q2 hC1).mono ?_
     rintro e w' ⟨rfl, rfl⟩
     exact ⟨_, ι, rfl, Step.still he rfl rfl rfl rfl, Dom.refl, .atom rfl⟩
    ·rename_i j n c
     split at h
     ·rename_i cs t' hj
      replace h := Zn h; obtain ⟨hb2, h⟩ := h
      simp only [Bool.and_eq_true] at hb2
      obtain rfl := Nat.eq_of_beq_eq_true hb2.1
      split at h
      ·rename_i ns s1 hw
       injection h with h; injection h with h1 h2; subst h1 h2
       obtain ⟨w1, w2, _⟩ := ZV hw
       have hq := Zab.1 (ho _ (List.mem_cons_self ..))
       exact Zt7 he hk hj hq.1 hq.2.1 hq.2.2.1 hq.2.2.2 ha (by show s1.h.set j none = _; rw [w1]) (by show s1.n = _; rw [w2])
      ·cases h
      ·rename_i s1 hw
       obtain ⟨w1, w2, _⟩ := ZV hw
       split at h
       ·rename_i l htk
        split at h
        ·rename_i ns hns
         replace h := Zn h; obtain ⟨hg, h⟩ := h
         simp only [Bool.and_eq_true] at hg
         injection h with h; injection h with h1 h2; subst h1 h2
         have hbs := Zj1 hns
         exact Zt7 he hk hj (by rw [htk, hbs]) (Nat.le_of_ble_eq_true hg.1.1) (Nat.le_of_ble_eq_true hg.1.2) (Nat.le_of_ble_eq_true hg.2) ha (by show s1.h.set j none = _; rw [w1]) (by show s1.n = _; rw [w2])
        ·cases h
       ·cases h
     ·cases h
    ·cases h
   ·cases h
  ·cases h
end Ev
end Go.Proofs.YtlbbiflodemagaaDoor
/- Strings cut at a byte: lists of their bytes, and what the library's functions do of them. -/
namespace Go.Proofs
open Go.Shelf Go.RowKit Go.Lib
section
variable {P : Program} {ρ : Ren}
set_option maxHeartbeats 2000000 in
set_option maxRecDepth 100000 in
theorem Zxa (L : Lays.n220 P ρ) (s : ByteArray) (c : UInt8) (w : World) (hs : s.size < 4294967281) :
  Calls P (ρ.f 220) #[.string s, .string ⟨#[c]⟩] w fun e w' => e = .returned (.tuple #[.string ⟨(Lib.cut s.data.toList [c]).1.toArray⟩, .string ⟨(Lib.cut s.data.toList [c]).2.1.toArray⟩, .bool (Lib.cut s.data.toList [c]).2.2]) ∧ ∃ n, w' = w.drewN n := by
 have hone : Lib.indexB s ⟨#[c]⟩ = Lib.indexByte s.data.toList c := Lib.index_one _ _
 rcases Lib.indexB_cases s ⟨#[c]⟩ with hix | ⟨i, hix, hroom⟩
 ·obtain ⟨e1, e2, e3⟩ := Lib.cutB_miss s ⟨#[c]⟩ hix
  rw [show (⟨#[c]⟩ : ByteArray).data.toList = [c] from rfl] at e1 e2 e3
  rw [e1, e2, e3]
  have hix' : Lib.indexByte s.data.toList c = -1 := hone ▸ hix
  have t3 := L.t3; have t4 := L.t4; have t9 := L.t9
  have a3 : ∀ w, (isAgg (ρ.t 3)).run P w = .ok false w := run_isAgg_plain L.t3 rfl; have a4 : ∀ w, (isAgg (ρ.t 4)).run P w = .ok false w := run_isAgg_plain L.t4 rfl; have a9 : ∀ w, (isAgg (ρ.t 9)).run P w = .ok false w := run_isAgg_plain L.t9 rfl
  have e219 : ∀ args w, (callFunc (ρ.f 219) args).run P w = .ok (.enter (ρ.f 219) args) w := enters_of L.f219 (by kernel_rfl) rfl
  have mixed := L.mixed; have z3 := L.z3; have v3 := L.v3; have z4 := L.z4; have v4 := L.v4; have z9 := L.z9; have v9 := L.v9
  go_enter L.f220, Body.n220_ntmps ρ
  go_wp2_with (go_at_fn (ρ.f 219); refine (Any.stringslite_Index_one { L with } _ _ _).mono ?_; rintro e w' ⟨rfl, rfl⟩; rw [hix'])
  go_ret3
  exact ⟨rfl, 0, rfl⟩
 ·obtain ⟨e1, e2, e3⟩ := Lib.cutB_hit s ⟨#[c]⟩ i hix
  rw [show (⟨#[c]⟩ : ByteArray).data.toList = [c] from rfl] at e1 e2 e3
  rw [e1, e2, e3]
  have hix' : Lib.indexByte s.data.toList c = i := hone ▸ hix
  have hz : (⟨#[c]⟩ : ByteArray).size = 1 := rfl
  rw [hz] at hroom ⊢
  have c1 : (0 : Int) ≤ ↑i := by omega
  have c2 : (↑i : Int) ≤ ↑s.size := by omega
  have c3 : (0 : Int) ≤ ↑i + 1 := by omega
  have c4 : (↑i + 1 : Int) ≤ ↑s.size := by omega
  have t3 := L.t3; have t4 := L.t4; have t9 := L.t9
  have a3 : ∀ w, (isAgg (ρ.t 3)).run P w = .ok false w := run_isAgg_plain L.t3 rfl; have a4 : ∀ w, (isAgg (ρ.t 4)).run P w = .ok false w := run_isAgg_plain L.t4 rfl; have a9 : ∀ w, (isAgg (ρ.t 9)).run P w = .ok false w := run_isAgg_plain L.t9 rfl
  have e219 : ∀ args w, (callFunc (ρ.f 219) args).run P w = .ok (.enter (ρ.f 219) args) w := enters_of L.f219 (by kernel_rfl) rfl
  have mixed := L.mixed; have z3 := L.z3; have v3 := L.v3; have z4 := L.z4; have v4 := L.v4; have z9 := L.z9; have v9 := L.v9
  go_enter L.f220, Body.n220_ntmps ρ
  go_wp2_with (go_at_fn (ρ.f 219); refine (Any.stringslite_Index_one { L with } _ _ _).mono ?_; rintro e w' ⟨rfl, rfl⟩; rw [hix'])
  go_region_o
  go_wp2
  go_ret3
  exact ⟨rfl, 1, rfl⟩
set_option maxHeartbeats 1000000 in
theorem Zvu (L : Lays.n145 P ρ) (s : ByteArray) (c : UInt8) (w : World) (hs : s.size < 4294967281) :
  Calls P (ρ.f 145) #[.string s, .string ⟨#[c]⟩] w fun e w' => e = .returned (.tuple #[.string ⟨(Lib.cut s.data.toList [c]).1.toArray⟩, .string ⟨(Lib.cut s.data.toList [c]).2.1.toArray⟩, .bool (Lib.cut s.data.toList [c]).2.2]) ∧ ∃ n, w' = w.drewN n := by
 have t4 := L.t4; have t9 := L.t9; have t59 := L.t59
 have a4 : ∀ w, (isAgg (ρ.t 4)).run P w = .ok false w := run_isAgg_plain L.t4 rfl; have a9 : ∀ w, (isAgg (ρ.t 9)).run P w = .ok false w := run_isAgg_plain L.t9 rfl; have a59 : ∀ w, (isAgg (ρ.t 59)).run P w = .ok false w := run_isAgg_plain L.t59 rfl
 have e220 : ∀ args w, (callFunc (ρ.f 220) args).run P w = .ok (.enter (ρ.f 220) args) w := enters_of L.f220 (by kernel_rfl) rfl
 have mixed := L.mixed; have z4 := L.z4; have v4 := L.v4; have z9 := L.z9; have v9 := L.v9; have z59 := L.z59; have v59 := L.v59
 go_enter L.f145, Body.n145_ntmps ρ
 go_wp2_with (go_at_fn (ρ.f 220); refine (Zxa { L with } _ _ _ hs).mono ?_; rintro e w' ⟨rfl, n, rfl⟩)
 go_ret3
 exact ⟨rfl, n, rfl⟩
set_option maxHeartbeats 1000000 in
theorem Zwn (L : Lays.n143 P ρ) (s : ByteArray) (c : UInt8) (w : World) :
  Calls P (ρ.f 143) #[.string s, .string ⟨#[c]⟩] w fun e w' => e = .returned (.int .i64 (Lib.indexB s ⟨#[c]⟩)) ∧ w' = w := by
 have hone : Lib.indexB s ⟨#[c]⟩ = Lib.indexByte s.data.toList c := Lib.index_one _ _
 rw [hone]
 have t3 := L.t3; have t9 := L.t9
 have a3 : ∀ w, (isAgg (ρ.t 3)).run P w = .ok false w := run_isAgg_plain L.t3 rfl; have a9 : ∀ w, (isAgg (ρ.t 9)).run P w = .ok false w := run_isAgg_plain L.t9 rfl
 have e219 : ∀ args w, (callFunc (ρ.f 219) args).run P w = .ok (.enter (ρ.f 219) args) w := enters_of L.f219 (by kernel_rfl) rfl
 have mixed := L.mixed; have z3 := L.z3; have v3 := L.v3; have z9 := L.z9; have v9 := L.v9
 go_enter L.f143, Body.n143_ntmps ρ
 go_wp2_with (go_at_fn (ρ.f 219); refine (Any.stringslite_Index_one { L with } _ _ _).mono ?_; rintro e w' ⟨rfl, rfl⟩)
 go_ret
 exact ⟨rfl, rfl⟩
theorem Zwo (L : Lays.n138 P ρ) (s : ByteArray) (c : UInt8) (w : World) :
  Calls P (ρ.f 138) #[.string s, .string ⟨#[c]⟩] w fun e w' => e = .returned (.int .i64 (Lib.countB s ⟨#[c]⟩)) ∧ w' = w := by
 refine (Any.strings_Count_one L s c w).mono fun e w' ⟨he, hw⟩ => ⟨?_, hw⟩
 rw [he]
 show _ = Ending.returned (Value.int .i64 ((Lib.count s.data.toList [c] : Nat) : Int))
 rw [Lib.count_one]
 rfl
set_option maxHeartbeats 1000000 in
theorem Zwp (L : Lays.n146 P ρ) (hi9 : (P.info? (ρ.t 9)).map (fun i => (i.zero, i.size, i.bytes)) = some (some (.string ByteArray.empty), 1, 16)) (s : ByteArray) (b : UInt8) (w : World) (hs : s.size < 4294967281) :
  Calls P (ρ.f 146) #[.string s, .string ⟨#[b]⟩] w fun e w' =>
   e = .returned (.slice (some ⟨w.heap.size, 0, none⟩) (Lib.countB s ⟨#[b]⟩ + 1) (Lib.countB s ⟨#[b]⟩ + 1)) ∧ w' = w.alloc (.cells ((Lib.splitB ⟨#[b]⟩ 0 (Lib.countB s ⟨#[b]⟩) s).map Value.string).toArray (ρ.t 9)) := by
 have h1 : 1 ≤ (⟨#[b]⟩ : ByteArray).size := Nat.le_refl _
 have hle := Lib.countB_le ⟨#[b]⟩ h1 s.size s (Nat.le_refl _)
 have hlen := Lib.splitB_all ⟨#[b]⟩ h1 0 _ s rfl
 have c := Any.strings_genSplit_core { L with } hi9 s ⟨#[b]⟩ 0 (-1) (Lib.countB s ⟨#[b]⟩ + 1) w hs h1 (Nat.zero_le _)
  (fun x cc _ => Zwn { L with } x b _) (Zwo { L with } s b w) (by decide) (by decide) (by rw [if_pos (by decide)]; omega)
 rw [Nat.add_sub_cancel, hlen] at c
 have e2 : Lib.cellsOf (Lib.splitB ⟨#[b]⟩ 0 (Lib.countB s ⟨#[b]⟩) s) (Lib.countB s ⟨#[b]⟩ + 1) = ((Lib.splitB ⟨#[b]⟩ 0 (Lib.countB s ⟨#[b]⟩) s).map Value.string).toArray := by rw [← hlen]; exact Lib.cellsOf_full _
 rw [e2] at c
 have t3 := L.t3; have t9 := L.t9; have t31 := L.t31
 have a3 := L.a3; have a9 := L.a9; have a31 := L.a31
 have z3 := L.z3; have v3 := L.v3; have z9 := L.z9; have v9 := L.v9; have z31 := L.z31; have v31 := L.v31
 have e221 : ∀ args w, (callFunc (ρ.f 221) args).run P w = .ok (.enter (ρ.f 221) args) w := enters_of L.f221 (by kernel_rfl) rfl
 go_enter L.f146, Body.n146_ntmps ρ
 go_wp2_with (go_at_fn (ρ.f 221); refine c.mono ?_; rintro e w' ⟨rfl, hw⟩; rw [hw])
 go_ret
 exact ⟨rfl, rfl⟩
end
def YtlbbiflodemagaaDoor.Ev.lays145_ren : Go.Shelf.Ren := ⟨fun | 145 => 58 | 220 => 66 | 219 => 69 | 217 => 75 | 225 => 76 | 224 => 77 | 267 => 78 | 266 => 85 | 314 => 86 | n => n, fun | 9 => 9 | 4 => 4 | 59 => 114 | 3 => 3 | 5 => 5 | 46 => 81 | 146 => 93 | 51 => 92 | n => n, fun | 1 => 1 | n => n⟩
theorem YtlbbiflodemagaaDoor.Ev.lays145 : Go.Proofs.Lays.n145 Tryd.prog YtlbbiflodemagaaDoor.Ev.lays145_ren := {
  mixed := by kernel_rfl
  f145 := Tryd.func58.trans (congrArg some (by kernel_rfl))
  f217 := Tryd.func75.trans (congrArg some (by kernel_rfl))
  f219 := Tryd.func69.trans (congrArg some (by kernel_rfl))
  f220 := Tryd.func66.trans (congrArg some (by kernel_rfl))
  f224 := Tryd.func77.trans (congrArg some (by kernel_rfl))
  f225 := Tryd.func76.trans (congrArg some (by kernel_rfl))
  f266 := Tryd.func85.trans (congrArg some (by kernel_rfl))
  f267 := Tryd.func78.trans (congrArg some (by kernel_rfl))
  f314 := Tryd.func86.trans (congrArg some (by kernel_rfl))
  t3 := Tryd.underlying3
  a3 := Tryd.isAgg3
  z3 := Tryd.sizeOf3
  v3 := Tryd.zeroValue3
  t4 := Tryd.underlying4
  a4 := Tryd.isAgg4
  z4 := Tryd.sizeOf4
  v4 := Tryd.zeroValue4
  t5 := Tryd.underlying5
  a5 := Tryd.isAgg5
  z5 := Tryd.sizeOf5
  v5 := Tryd.zeroValue5
  t9 := Tryd.underlying9
  a9 := Tryd.isAgg9
  z9 := Tryd.sizeOf9
  v9 := Tryd.zeroValue9
  t46 := Tryd.underlying81
  a46 := Tryd.isAgg81
  z46 := Tryd.sizeOf81
  v46 := Tryd.zeroValue81
  t51 := Tryd.underlying92
  a51 := Tryd.isAgg92
  z51 := Tryd.sizeOf92
  v51 := Tryd.zeroValue92
  t59 := Tryd.underlying114
  a59 := Tryd.isAgg114
  z59 := Tryd.sizeOf114
  v59 := Tryd.zeroValue114
  t146 := Tryd.underlying93
  a146 := Tryd.isAgg93
  z146 := Tryd.sizeOf93
  v146 := Tryd.zeroValue93
  g1 := by kernel_rfl }
def YtlbbiflodemagaaDoor.Ev.lays146_ren : Go.Shelf.Ren := ⟨fun | 146 => 60 | 221 => 67 | 268 => 70 | 138 => 71 | 143 => 72 | 195 => 79 | 197 => 80 | 218 => 81 | 219 => 69 | 260 => 87 | 217 => 75 | 225 => 76 | 224 => 77 | 267 => 78 | 266 => 85 | 314 => 86 | n => n, fun | 9 => 9 | 31 => 44 | 3 => 3 | 4 => 4 | 0 => 0 | 105 => 134 | 21 => 21 | 5 => 5 | 46 => 81 | 119 => 144 | 139 => 147 | 138 => 146 | 146 => 93 | 51 => 92 | n => n, fun | 1 => 1 | 3 => 4 | 4 => 5 | n => n⟩
theorem YtlbbiflodemagaaDoor.Ev.lays146 : Go.Proofs.Lays.n146 Tryd.prog YtlbbiflodemagaaDoor.Ev.lays146_ren := {
  mixed := by kernel_rfl
  f138 := Tryd.func71.trans (congrArg some (by kernel_rfl))
  f143 := Tryd.func72.trans (congrArg some (by kernel_rfl))
  f146 := Tryd.func60.trans (congrArg some (by kernel_rfl))
  f195 := Tryd.func79.trans (congrArg some (by kernel_rfl))
  f197 := Tryd.func80.trans (congrArg some (by kernel_rfl))
  f217 := Tryd.func75.trans (congrArg some (by kernel_rfl))
  f218 := Tryd.func81.trans (congrArg some (by kernel_rfl))
  f219 := Tryd.func69.trans (congrArg some (by kernel_rfl))
  f221 := Tryd.func67.trans (congrArg some (by kernel_rfl))
  f224 := Tryd.func77.trans (congrArg some (by kernel_rfl))
  f225 := Tryd.func76.trans (congrArg some (by kernel_rfl))
  f260 := Tryd.func87.trans (congrArg some (by kernel_rfl))
  f266 := Tryd.func85.trans (congrArg some (by kernel_rfl))
  f267 := Tryd.func78.trans (congrArg some (by kernel_rfl))
  f268 := Tryd.func70.trans (congrArg some (by kernel_rfl))
  f314 := Tryd.func86.trans (congrArg some (by kernel_rfl))
  t0 := Tryd.underlying0
  a0 := Tryd.isAgg0
  z0 := Tryd.sizeOf0
  v0 := Tryd.zeroValue0
  t3 := Tryd.underlying3
  a3 := Tryd.isAgg3
  z3 := Tryd.sizeOf3
  v3 := Tryd.zeroValue3
  t4 := Tryd.underlying4
  a4 := Tryd.isAgg4
  z4 := Tryd.sizeOf4
  v4 := Tryd.zeroValue4
  t5 := Tryd.underlying5
  a5 := Tryd.isAgg5
  z5 := Tryd.sizeOf5
  v5 := Tryd.zeroValue5
  t9 := Tryd.underlying9
  a9 := Tryd.isAgg9
  z9 := Tryd.sizeOf9
  v9 := Tryd.zeroValue9
  t21 := Tryd.underlying21
  a21 := Tryd.isAgg21
  z21 := Tryd.sizeOf21
  v21 := Tryd.zeroValue21
  t31 := Tryd.underlying44
  a31 := Tryd.isAgg44
  z31 := Tryd.sizeOf44
  v31 := Tryd.zeroValue44
  t46 := Tryd.underlying81
  a46 := Tryd.isAgg81
  z46 := Tryd.sizeOf81
  v46 := Tryd.zeroValue81
  t51 := Tryd.underlying92
  a51 := Tryd.isAgg92
  z51 := Tryd.sizeOf92
  v51 := Tryd.zeroValue92
  t105 := Tryd.underlying134
  a105 := Tryd.isAgg134
  z105 := Tryd.sizeOf134
  v105 := Tryd.zeroValue134
  t119 := Tryd.underlying144
  a119 := Tryd.isAgg144
  z119 := Tryd.sizeOf144
  t138 := Tryd.underlying146
  a138 := Tryd.isAgg146
  z138 := Tryd.sizeOf146
  v138 := Tryd.zeroValue146
  t139 := Tryd.underlying147
  a139 := Tryd.isAgg147
  z139 := Tryd.sizeOf147
  v139 := Tryd.zeroValue147
  t146 := Tryd.underlying93
  a146 := Tryd.isAgg93
  z146 := Tryd.sizeOf93
  v146 := Tryd.zeroValue93
  g1 := by kernel_rfl
  g3 := by kernel_rfl
  g4 := by kernel_rfl }
def YtlbbiflodemagaaDoor.Ev.lays101_ren : Go.Shelf.Ren := ⟨fun | 101 => 73 | 208 => 82 | 206 => 42 | n => n, fun | 9 => 9 | 4 => 4 | 3 => 3 | n => n, fun | n => n⟩
theorem YtlbbiflodemagaaDoor.Ev.lays101 : Go.Proofs.Lays.n101 Tryd.prog YtlbbiflodemagaaDoor.Ev.lays101_ren := {
  mixed := by kernel_rfl
  f101 := Tryd.func73.trans (congrArg some (by kernel_rfl))
  f206 := Tryd.func42.trans (congrArg some (by kernel_rfl))
  f208 := Tryd.func82.trans (congrArg some (by kernel_rfl))
  t3 := Tryd.underlying3
  a3 := Tryd.isAgg3
  z3 := Tryd.sizeOf3
  v3 := Tryd.zeroValue3
  t4 := Tryd.underlying4
  a4 := Tryd.isAgg4
  z4 := Tryd.sizeOf4
  v4 := Tryd.zeroValue4
  t9 := Tryd.underlying9
  a9 := Tryd.isAgg9
  z9 := Tryd.sizeOf9
  v9 := Tryd.zeroValue9 }
def YtlbbiflodemagaaDoor.Ev.laysC172_ren : Go.Shelf.Ren := ⟨fun | 172 => 74 | 244 => 83 | 245 => 84 | 247 => 88 | 279 => 89 | 280 => 90 | 281 => 91 | 282 => 92 | 287 => 93 | 316 => 94 | 171 => 17 | 205 => 95 | 321 => 96 | 322 => 97 | 243 => 28 | 246 => 35 | 283 => 43 | 284 => 44 | 285 => 45 | 286 => 46 | 129 => 54 | 317 => 53 | 318 => 55 | 319 => 56 | 320 => 57 | 337 => 64 | 338 => 65 | n => n, fun | 9 => 9 | 3 => 3 | 75 => 64 | 76 => 65 | 4 => 4 | 5 => 5 | 167 => 138 | 37 => 40 | 0 => 0 | 85 => 139 | 2 => 2 | 168 => 141 | 53 => 95 | 175 => 148 | 46 => 81 | 210 => 151 | 127 => 79 | 145 => 156 | 143 => 154 | 21 => 21 | 171 => 98 | 173 => 101 | 212 => 109 | 51 => 92 | 20 => 20 | 213 => 110 | 232 => 127 | 233 => 128 | 80 => 67 | n => n, fun | 15 => 6 | 16 => 7 | 17 => 0 | 18 => 2 | 19 => 3 | n => n⟩
theorem YtlbbiflodemagaaDoor.Ev.laysC172 : Go.Proofs.LaysC.n172 Tryd.prog YtlbbiflodemagaaDoor.Ev.laysC172_ren := {
  mixed := by kernel_rfl
  f129 := Tryd.func54.trans (congrArg some (by kernel_rfl))
  f171 := Tryd.func17.trans (congrArg some (by kernel_rfl))
  f172 := Tryd.func74.trans (congrArg some (by kernel_rfl))
  f205 := Tryd.func95.trans (congrArg some (by kernel_rfl))
  f243 := Tryd.func28.trans (congrArg some (by kernel_rfl))
  f244 := Tryd.func83.trans (congrArg some (by kernel_rfl))
  f245 := Tryd.func84.trans (congrArg some (by kernel_rfl))
  f246 := Tryd.func35.trans (congrArg some (by kernel_rfl))
  f247 := Tryd.func88.trans (congrArg some (by kernel_rfl))
  f279 := Tryd.func89.trans (congrArg some (by kernel_rfl))
  f280 := Tryd.func90.trans (congrArg some (by kernel_rfl))
  f281 := Tryd.func91.trans (congrArg some (by kernel_rfl))
  f282 := Tryd.func92.trans (congrArg some (by kernel_rfl))
  f283 := Tryd.func43.trans (congrArg some (by kernel_rfl))
  f284 := Tryd.func44.trans (congrArg some (by kernel_rfl))
  f285 := Tryd.func45.trans (congrArg some (by kernel_rfl))
  f286 := Tryd.func46.trans (congrArg some (by kernel_rfl))
  f287 := Tryd.func93.trans (congrArg some (by kernel_rfl))
  f316 := Tryd.func94.trans (congrArg some (by kernel_rfl))
  f317 := Tryd.func53.trans (congrArg some (by kernel_rfl))
  f318 := Tryd.func55.trans (congrArg some (by kernel_rfl))
  f319 := Tryd.func56.trans (congrArg some (by kernel_rfl))
  f320 := Tryd.func57.trans (congrArg some (by kernel_rfl))
  f321 := Tryd.func96.trans (congrArg some (by kernel_rfl))
  f322 := Tryd.func97.trans (congrArg some (by kernel_rfl))
  f337 := Tryd.func64.trans (congrArg some (by kernel_rfl))
  f338 := Tryd.func65.trans (congrArg some (by kernel_rfl))
  t0 := Tryd.underlying0
  a0 := Tryd.isAgg0
  z0 := Tryd.sizeOf0
  v0 := Tryd.zeroValue0
  t2 := Tryd.underlying2
  a2 := Tryd.isAgg2
  z2 := Tryd.sizeOf2
  v2 := Tryd.zeroValue2
  t3 := Tryd.underlying3
  a3 := Tryd.isAgg3
  z3 := Tryd.sizeOf3
  v3 := Tryd.zeroValue3
  t4 := Tryd.underlying4
  a4 := Tryd.isAgg4
  z4 := Tryd.sizeOf4
  v4 := Tryd.zeroValue4
  t5 := Tryd.underlying5
  a5 := Tryd.isAgg5
  z5 := Tryd.sizeOf5
  v5 := Tryd.zeroValue5
  t9 := Tryd.underlying9
  a9 := Tryd.isAgg9
  z9 := Tryd.sizeOf9
  v9 := Tryd.zeroValue9
  t20 := Tryd.underlying20
  a20 := Tryd.isAgg20
  z20 := Tryd.sizeOf20
  v20 := Tryd.zeroValue20
  t21 := Tryd.underlying21
  a21 := Tryd.isAgg21
  z21 := Tryd.sizeOf21
  v21 := Tryd.zeroValue21
  t37 := Tryd.underlying40
  a37 := Tryd.isAgg40
  z37 := Tryd.sizeOf40
  v37 := Tryd.zeroValue40
  t46 := Tryd.underlying81
  a46 := Tryd.isAgg81
  z46 := Tryd.sizeOf81
  v46 := Tryd.zeroValue81
  t51 := Tryd.underlying92
  a51 := Tryd.isAgg92
  z51 := Tryd.sizeOf92
  v51 := Tryd.zeroValue92
  t53 := Tryd.underlying95
  a53 := Tryd.isAgg95
  z53 := Tryd.sizeOf95
  v53 := Tryd.zeroValue95
  t75 := Tryd.underlying64
  a75 := Tryd.isAgg64
  z75 := Tryd.sizeOf64
  v75 := Tryd.zeroValue64
  t76 := Tryd.underlying65
  a76 := Tryd.isAgg65
  z76 := Tryd.sizeOf65
  v76 := Tryd.zeroValue65
  t85 := Tryd.underlying139
  a85 := Tryd.isAgg139
  z85 := Tryd.sizeOf139
  v85 := Tryd.zeroValue139
  t127 := Tryd.underlying79
  a127 := Tryd.isAgg79
  z127 := Tryd.sizeOf79
  v127 := Tryd.zeroValue79
  t143 := Tryd.underlying154
  a143 := Tryd.isAgg154
  z143 := Tryd.sizeOf154
  v143 := Tryd.zeroValue154
  t145 := Tryd.underlying156
  a145 := Tryd.isAgg156
  z145 := Tryd.sizeOf156
  v145 := Tryd.zeroValue156
  t167 := Tryd.underlying138
  a167 := Tryd.isAgg138
  z167 := Tryd.sizeOf138
  v167 := Tryd.zeroValue138
  t168 := Tryd.underlying141
  a168 := Tryd.isAgg141
  z168 := Tryd.sizeOf141
  v168 := Tryd.zeroValue141
  t171 := Tryd.underlying98
  a171 := Tryd.isAgg98
  z171 := Tryd.sizeOf98
  v171 := Tryd.zeroValue98
  t173 := Tryd.underlying101
  a173 := Tryd.isAgg101
  z173 := Tryd.sizeOf101
  v173 := Tryd.zeroValue101
  t175 := Tryd.underlying148
  a175 := Tryd.isAgg148
  z175 := Tryd.sizeOf148
  v175 := Tryd.zeroValue148
  t210 := Tryd.underlying151
  a210 := Tryd.isAgg151
  z210 := Tryd.sizeOf151
  v210 := Tryd.zeroValue151
  t212 := Tryd.underlying109
  a212 := Tryd.isAgg109
  z212 := Tryd.sizeOf109
  v212 := Tryd.zeroValue109
  t213 := Tryd.underlying110
  a213 := Tryd.isAgg110
  z213 := Tryd.sizeOf110
  t232 := Tryd.underlying127
  a232 := Tryd.isAgg127
  z232 := Tryd.sizeOf127
  v232 := Tryd.zeroValue127
  t233 := Tryd.underlying128
  a233 := Tryd.isAgg128
  z233 := Tryd.sizeOf128
  v233 := Tryd.zeroValue128
  g15 := by kernel_rfl
  g16 := by kernel_rfl
  g17 := by kernel_rfl
  g18 := by kernel_rfl
  g19 := by kernel_rfl
  t80 := Tryd.underlying67
  a80 := Tryd.isAgg67
  z80 := Tryd.sizeOf67
  v80 := Tryd.zeroValue67
  i0 := by kernel_rfl
  i2 := by kernel_rfl
  i3 := by kernel_rfl
  i4 := by kernel_rfl
  i5 := by kernel_rfl
  i9 := by kernel_rfl
  i20 := by kernel_rfl
  i21 := by kernel_rfl
  i37 := by kernel_rfl
  i46 := by kernel_rfl
  i51 := by kernel_rfl
  i53 := by kernel_rfl
  i75 := by kernel_rfl
  i76 := by kernel_rfl
  i80 := by kernel_rfl
  i85 := by kernel_rfl
  i127 := by kernel_rfl
  i143 := by kernel_rfl
  i145 := by kernel_rfl
  i167 := by kernel_rfl
  i168 := by kernel_rfl
  i171 := by kernel_rfl
  i173 := by kernel_rfl
  i175 := by kernel_rfl
  i210 := by kernel_rfl
  i212 := by kernel_rfl
  i232 := by kernel_rfl
  i233 := by kernel_rfl
  m15 := by kernel_rfl
  m16 := by kernel_rfl
  m17 := by kernel_rfl
  m18 := by kernel_rfl
  m19 := by kernel_rfl
  c0 := by kernel_rfl
  c2 := by kernel_rfl
  c3 := by kernel_rfl
  c4 := by kernel_rfl
  c5 := by kernel_rfl
  c9 := by kernel_rfl
  c20 := by kernel_rfl
  c21 := by kernel_rfl
  c37 := by kernel_rfl
  c46 := by kernel_rfl
  c51 := by kernel_rfl
  c53 := by kernel_rfl
  c75 := by kernel_rfl
  c76 := by kernel_rfl
  c80 := by kernel_rfl
  c85 := by kernel_rfl
  c127 := by kernel_rfl
  c143 := by kernel_rfl
  c145 := by kernel_rfl
  c167 := by kernel_rfl
  c168 := by kernel_rfl
  c171 := by kernel_rfl
  c173 := by kernel_rfl
  c175 := by kernel_rfl
  c210 := by kernel_rfl
  c212 := by kernel_rfl
  c213 := by kernel_rfl
  c232 := by kernel_rfl
  c233 := by kernel_rfl }
end Go.Proofs
namespace Go.Proofs.YtlbbiflodemagaaDoor
open Go.RowKit
namespace Ev
set_option linter.unusedVariables false
def ZL (l : List Int) : Bool := l.all fun n => decide (0 ≤ n) && decide (n ≤ 255)
theorem ZeJ {l : List Int} (h : ZL l = true) {n : Int} (hn : n ∈ l) : 0 ≤ n ∧ n ≤ 255 := by
 have := List.all_eq_true.1 h n hn
 simpa using this
theorem ZeY {x : Int} {l : List Int} : ZL (x :: l) = true ↔ (0 ≤ x ∧ x ≤ 255) ∧ ZL l = true := by simp [ZL]
def Z5 (c : Int) : List Int → List Int
 | [] => []
 | x :: l => if x = c then [] else x :: Z5 c l
def ZO (c : Int) : List Int → List Int
 | [] => []
 | x :: l => if x = c then l else ZO c l
def Zbc (c : Int) : List Int → Bool
 | [] => false
 | x :: l => decide (x = c) || Zbc c l
def Zao (c : Int) : List Int → List (List Int)
 | [] => [[]]
 | x :: l => if x = c then [] :: Zao c l else (x :: (Zao c l).headD []) :: (Zao c l).tail
theorem Zw7 {x : Int} {b : UInt8} (h0 : 0 ≤ x) (h1 : x ≤ 255) : (UInt8.ofNat x.toNat == b) = decide (x = (b.toNat : Int)) := by
 rw [Bool.eq_iff_iff, beq_iff_eq, decide_eq_true_eq]
 constructor
 ·rintro rfl
  rw [UInt8.toNat_ofNat']; omega
 ·intro h
  apply UInt8.toNat.inj
  rw [UInt8.toNat_ofNat']
  have := b.toNat_lt
  omega
theorem ZiY {c : Int} : ∀ {M : List Int}, Zbc c M = true → M = Z5 c M ++ c :: ZO c M
 | [], h => by cases h
 | x :: l, h => by
  unfold Zbc at h
  unfold Z5 ZO
  by_cases hx : x = c
  ·rw [if_pos hx, if_pos hx, hx]; rfl
  ·rw [if_neg hx, if_neg hx]
   rw [decide_eq_false hx, Bool.false_or] at h
   exact congrArg (x :: ·) (ZiY h)
theorem ZkH {b : UInt8} : ∀ {M : List Int}, ZL M = true → Lib.indexByte (u8s M) b = if Zbc b.toNat M then ((Z5 b.toNat M).length : Int) else -1
 | [], _ => rfl
 | x :: l, h => by
  obtain ⟨⟨h0, h1⟩, h2⟩ := ZeY.1 h
  show (if (UInt8.ofNat x.toNat == b) = true then (0 : Int) else if (Lib.indexByte (u8s l) b == -1) = true then -1 else Lib.indexByte (u8s l) b + 1) = _
  rw [Zw7 h0 h1]
  unfold Zbc Z5
  by_cases hx : x = b.toNat
  ·simp [hx]
  ·rw [decide_eq_false hx, if_neg (by simp), Bool.false_or, if_neg hx, ZkH h2]
   cases Zbc (b.toNat : Int) l with
   | false => simp
   | true =>
    simp only [if_true]
    rw [if_neg (by rw [beq_iff_eq]; omega)]
    simp
theorem Zxb {b : UInt8} {M : List Int} (hb : ZL M = true) (h : Zbc b.toNat M = true) : Lib.cut (u8s M) [b] = (u8s (Z5 b.toNat M), u8s (ZO b.toNat M), true) := by
 have hi := ZkH (b := b) hb
 rw [h, if_pos rfl] at hi
 unfold Lib.cut
 rw [Lib.index_one, hi, if_pos (by omega)]
 have e := ZiY h
 have e2 : u8s M = u8s (Z5 b.toNat M) ++ (UInt8.ofNat (b.toNat : Int).toNat :: u8s (ZO b.toNat M)) := by
  conv => lhs; rw [e]
  rw [ZmT]; rfl
 have hl : (u8s (Z5 b.toNat M)).length = (Z5 b.toNat M).length := by unfold u8s; rw [List.length_map]
 rw [Int.toNat_natCast, e2, ← hl]
 refine Prod.ext ?_ (Prod.ext ?_ rfl)
 ·simp
 ·show List.drop ((u8s (Z5 b.toNat M)).length + 1) _ = _
  rw [List.drop_append]
  simp
theorem Zxc {b : UInt8} {M : List Int} (hb : ZL M = true) (h : Zbc b.toNat M = false) : Lib.cut (u8s M) [b] = (u8s M, [], false) := by
 have hi := ZkH (b := b) hb
 rw [h] at hi
 unfold Lib.cut
 rw [Lib.index_one, hi]
 rfl
theorem ZhZ {c : Int} : ∀ {M : List Int}, ZL M = true → ZL (Z5 c M) = true ∧ ZL (ZO c M) = true
 | [], _ => ⟨rfl, rfl⟩
 | x :: l, h => by
  obtain ⟨h1, h2⟩ := ZeY.1 h
  obtain ⟨i1, i2⟩ := ZhZ (c := c) h2
  unfold Z5 ZO
  by_cases hx : x = c
  ·rw [if_pos hx, if_pos hx]; exact ⟨rfl, h2⟩
  ·rw [if_neg hx, if_neg hx]; exact ⟨ZeY.2 ⟨h1, i1⟩, i2⟩
theorem Zte (c x : Int) (l : List Int) : Zao c (x :: l) = if x = c then [] :: Zao c l else (x :: (Zao c l).headD []) :: (Zao c l).tail := rfl
theorem ZoI {c : Int} : ∀ {M : List Int}, Zbc c M = false → Zao c M = [M]
 | [], _ => rfl
 | x :: l, h => by
  unfold Zbc at h
  rw [Bool.or_eq_false_iff] at h
  unfold Zao
  rw [if_neg (of_decide_eq_false h.1), ZoI h.2]
  rfl
theorem ZoJ {c : Int} : ∀ {M : List Int}, Zbc c M = true → Zao c M = Z5 c M :: Zao c (ZO c M)
 | [], h => by cases h
 | x :: l, h => by
  unfold Zbc at h
  rw [Zte]
  unfold Z5 ZO
  by_cases hx : x = c
  ·rw [if_pos hx, if_pos hx, if_pos hx]
  ·rw [decide_eq_false hx, Bool.false_or] at h
   rw [if_neg hx, if_neg hx, if_neg hx, ZoJ h]
   rfl
theorem Zwq {c : Int} {M : List Int} (h : Zbc c M = true) : (ZO c M).length < M.length := by
 have := congrArg List.length (ZiY h)
 simp only [List.length_append, List.length_cons] at this
 omega
theorem Zcd (l : List Int) : (Za l).data.toList = u8s l := by rw [Zc7]
theorem Zkb (l : List Int) : (Za l).size = l.length := by
 show (Za l).data.size = l.length
 rw [Zc7]; simp [u8s]
theorem Zmu {x y : ByteArray} (h : x.data.toList = y.data.toList) : x = y := ByteArray.ext (Array.toList_inj.1 h)
theorem Zvv {b : UInt8} : ∀ (n : Nat) (M : List Int), M.length ≤ n → ZL M = true → Lib.splitB ⟨#[b]⟩ 0 (Lib.countB (Za M) ⟨#[b]⟩) (Za M) = (Zao b.toNat M).map Za ∧ Lib.countB (Za M) ⟨#[b]⟩ + 1 = (Zao b.toNat M).length := by
 have h1 : 1 ≤ (⟨#[b]⟩ : ByteArray).size := Nat.le_refl _
 intro n
 induction n with
 | zero =>
  intro M hM hb
  have : M = [] := List.length_eq_zero_iff.1 (by omega)
  subst this
  have hi : Lib.indexB (Za []) ⟨#[b]⟩ = -1 := by
   show Lib.index (Za []).data.toList [b] = -1
   rw [Lib.index_one, Zcd, ZkH rfl]; rfl
  rw [Lib.countB_miss _ _ hi]
  exact ⟨rfl, rfl⟩
 | succ n ih =>
  intro M hM hb
  have hx : Lib.indexB (Za M) ⟨#[b]⟩ = if Zbc b.toNat M then ((Z5 b.toNat M).length : Int) else -1 := by
   show Lib.index (Za M).data.toList [b] = _
   rw [Lib.index_one, Zcd, ZkH hb]
  cases hh : Zbc b.toNat M with
  | false =>
   rw [hh] at hx
   rw [Lib.countB_miss _ _ hx, ZoI hh]
   exact ⟨rfl, rfl⟩
  | true =>
   rw [hh, if_pos rfl] at hx
   have e := ZiY hh
   have hl := Zwq hh
   have d : (Za M).data.toList = u8s (Z5 b.toNat M) ++ (UInt8.ofNat (b.toNat : Int).toNat :: u8s (ZO b.toNat M)) := by
    rw [Zcd]
    conv => lhs; rw [e]
    rw [ZmT]; rfl
   have hbl : (u8s (Z5 b.toNat M)).length = (Z5 b.toNat M).length := by unfold u8s; rw [List.length_map]
   have q1 : (Za M).extract 0 ((Z5 b.toNat M).length + 0) = Za (Z5 b.toNat M) := by
    apply Zmu
    rw [Nat.add_zero, Lib.extract_from_zero, d, Zcd, ← hbl]
    simp
   have q2 : (Za M).extract ((Z5 b.toNat M).length + (⟨#[b]⟩ : ByteArray).size) (Za M).size = Za (ZO b.toNat M) := by
    apply Zmu
    rw [Lib.extract_to_end, d, Zcd, ← hbl]
    show List.drop ((u8s (Z5 b.toNat M)).length + 1) _ = _
    rw [List.drop_append]
    simp
   obtain ⟨i1, i2⟩ := ih (ZO b.toNat M) (by omega) (ZhZ hb).2
   rw [Lib.countB_hit _ _ _ h1 hx, Nat.add_comm 1, Lib.splitB_hit _ _ _ _ _ hx, q1, q2, ZoJ hh, List.map_cons, List.length_cons, i1, ← i2]
   exact ⟨rfl, rfl⟩
def Zl1 (x : ByteArray) : List Int := x.data.toList.map fun u => (u.toNat : Int)
theorem ZoK (x : ByteArray) : ZL (Zl1 x) = true := by
 unfold ZL Zl1
 rw [List.all_eq_true]
 intro n hn
 obtain ⟨u, _, rfl⟩ := List.mem_map.1 hn
 have := u.toNat_lt
 simp only [Bool.and_eq_true, decide_eq_true_eq]
 omega
theorem Zq1 (x : ByteArray) : x = Za (Zl1 x) := by
 apply Zmu
 rw [Zcd]
 unfold u8s Zl1
 rw [List.map_map]
 have : ∀ l : List UInt8, l.map ((fun n : Int => UInt8.ofNat n.toNat) ∘ fun u : UInt8 => (u.toNat : Int)) = l := fun l => by
  induction l with
  | nil => rfl
  | cons a l ih => rw [List.map_cons, ih]; simp
 rw [this]
def Zkp : Nat → List Int → Nat
 | acc, [] => acc
 | acc, x :: l => Zkp (acc * 10 + (x - 48).toNat) l
def ZP : List Int → Int
 | [] => 0
 | x :: l => if x = 45 then -(Zkp 0 l : Int) else (Zkp 0 (x :: l) : Int)
def ZcF (M : List Int) : Bool := decide (M = ZeX (ZP M)) && (decide (-10000000000000 < ZP M) && decide (ZP M < 10000000000000))
noncomputable section
def Zu1 (y : ByteArray) : Option UInt8 := match y.data.toList with | [c] => some c | _ => none
def ZoL (x : ByteArray) (s : St) : Option (List Int × St) :=
 match s.nextW with
 | (some (.bs M), s1) => some (M, s1.told (dP (x = Za M ∧ ZL M = true ∧ M.length ≤ 1000000)))
 | (some _, _) => none
 | (none, s1) => bif Nat.ble (Zl1 x).length 1000000 then some (Zl1 x, s1) else none
def Zu2 (args : Array Value) (s : St) : Out :=
 match args.toList with
 | [.string x, .string y] => match Zu1 y with
  | some b => match ZoL x s with
   | some (M, s1) => match s1.tst (Zbc (b.toNat : Int) M) with
    | (true, s2) => some (.tuple #[.string (Za (Z5 (b.toNat : Int) M)), .string (Za (ZO (b.toNat : Int) M)), .bool true], s2)
    | (false, s2) => some (.tuple #[.string (Za M), .string ByteArray.empty, .bool false], s2)
   | none => none
  | none => none
 | _ => none
def ZoM (args : Array Value) (s : St) : Out :=
 match args.toList with
 | [.string x, .string y] => match Zu1 y with
  | some b => match ZoL x s with
   | some (M, s1) => some (.slice (some ⟨s1.n, 0, none⟩) (Zao (b.toNat : Int) M).length (Zao (b.toNat : Int) M).length, s1.add ((Zao (b.toNat : Int) M).flatMap fun l => ZF [.s (Za l)]) 9)
   | none => none
  | none => none
 | _ => none
def Zu3 (args : Array Value) (s : St) : Out :=
 match args.toList with
 | [.string x] => match ZoL x s with
  | some (M, s1) => match s1.tst (ZcF M) with
   | (true, s2) => some (.tuple #[.int .i64 (ZP M), .bool true], s2)
   | (false, s2) => some (.tuple #[.int .i64 0, .bool false], s2)
  | none => none
 | _ => none
end
theorem Zed {x : ByteArray} {s s1 : St} {M : List Int} (h : ZoL x s = some (M, s1)) : Up s s1 ∧ s1.h = s.h ∧ s1.n = s.n ∧ ((∀ p ∈ s1.ob, p.1 = p.2) → x = Za M ∧ ZL M = true ∧ M.length ≤ 1000000) := by
 unfold ZoL at h
 split at h
 ·rename_i M' s2 hw
  injection h with h; injection h with h1 h2; subst h1 h2
  obtain ⟨e1, e2, e3⟩ := ZV hw
  exact ⟨(ZQ hw).trans (Zam _), e1, e2, fun ho => Zab.1 (ho _ List.mem_cons_self)⟩
 ·cases h
 ·rename_i s2 hw
  obtain ⟨hl, h⟩ := Zn h
  injection h with h; injection h with h1 h2; subst h1 h2
  obtain ⟨e1, e2, e3⟩ := ZV hw
  exact ⟨ZQ hw, e1, e2, fun _ => ⟨Zq1 x, ZoK x, Nat.le_of_ble_eq_true hl⟩⟩
theorem ZgV {s s1 : St} {t b : Bool} (h : s.tst t = (b, s1)) : Up s s1 ∧ s1.h = s.h ∧ s1.n = s.n ∧ ((∀ p ∈ s1.ob, p.1 = p.2) → t = b) ∧ s.ob <:+ s1.ob := by
 have hu := Zfg h
 unfold St.tst at h
 split at h
 ·injection h with h1 h2; subst h1 h2; exact ⟨hu, rfl, rfl, fun _ => rfl, List.suffix_refl _⟩
 ·injection h with h1 h2; subst h1 h2; exact ⟨hu, rfl, rfl, fun _ => rfl, List.suffix_refl _⟩
 ·injection h with h1 h2; subst h1 h2; exact ⟨hu, rfl, rfl, fun ho => ho (t, _) List.mem_cons_self, List.suffix_cons _ _⟩
theorem ZoN {a b : List (Bool × Bool)} (h : a <:+ b) (ho : ∀ p ∈ b, p.1 = p.2) : ∀ p ∈ a, p.1 = p.2 := fun p hp => ho p (h.subset hp)
theorem ZoO {w w' : World} (h : ∃ n, w' = w.drewN n) : Below w.heap.size w w' := by
 obtain ⟨n, rfl⟩ := h
 exact ⟨rfl, rfl, rfl, Nat.le_refl _, fun j hj => rfl⟩
theorem Zq2 {y : ByteArray} {b : UInt8} (h : Zu1 y = some b) : y = ⟨#[b]⟩ := by
 unfold Zu1 at h
 split at h
 ·rename_i c hc
  injection h with h; subst h
  exact Zmu hc
 ·cases h
theorem cut_does : ZeT Tryd.prog 58 Zu2 := by
  refine ZkF Tryd.func58 rfl (fun args s v s' h => ?_) fun args s v s' h ho => ?_
  · unfold Zu2 at h
    split at h
    · split at h
      · split at h
        · rename_i M s1 h1
          split at h
          · rename_i s2 h2; injection h with h; injection h with q1 q2; subst q2; exact (Zed h1).1.trans (ZgV h2).1
          · rename_i s2 h2; injection h with h; injection h with q1 q2; subst q2; exact (Zed h1).1.trans (ZgV h2).1
        · cases h
      · cases h
    · cases h
  · unfold Zu2 at h
    split at h
    · rename_i x y hl
      have hA : args = #[.string x, .string y] := by rw [← Array.toArray_toList (xs := args), hl]
      subst hA
      split at h
      · rename_i b hb
        obtain rfl := Zq2 hb
        have hargs : ∀ (ι : Ren) (args' : Array Value), VRs ι #[.string x, .string ⟨#[b]⟩] args' → args' = #[.string x, .string ⟨#[b]⟩] := fun ι args' ha => ZeP ha.1 fun i u z hx1 hy1 => (ha.2 i u z hx1 hy1).eq_of_free (ZaF (p := Zbv) (a := #[.string x, .string ⟨#[b]⟩]) rfl i u hx1)
        split at h
        · rename_i M s1 h1
          obtain ⟨_, e1, e2, e3⟩ := Zed h1
          split at h
          · rename_i s2 h2
            obtain ⟨_, f1, f2, f3, f4⟩ := ZgV h2
            injection h with h; injection h with q1 q2; subst q1 q2
            obtain ⟨rfl, hM, hlM⟩ := e3 (ZoN f4 ho)
            refine ⟨f1.trans e1, f2.trans e2, rfl, fun ι w args' ha he => ?_⟩
            obtain rfl := hargs ι args' ha
            refine (Zvu lays145 (Za M) b w (by rw [Zkb]; omega)).mono ?_
            rintro e w' ⟨rfl, hw⟩
            rw [Zcd, Zxb hM (f3 ho)]
            exact ⟨by simp only [Zc7], ZoO hw⟩
          · rename_i s2 h2
            obtain ⟨_, f1, f2, f3, f4⟩ := ZgV h2
            injection h with h; injection h with q1 q2; subst q1 q2
            obtain ⟨rfl, hM, hlM⟩ := e3 (ZoN f4 ho)
            refine ⟨f1.trans e1, f2.trans e2, rfl, fun ι w args' ha he => ?_⟩
            obtain rfl := hargs ι args' ha
            refine (Zvu lays145 (Za M) b w (by rw [Zkb]; omega)).mono ?_
            rintro e w' ⟨rfl, hw⟩
            rw [Zcd, Zxc hM (f3 ho)]
            exact ⟨by simp only [Zc7]; rfl, ZoO hw⟩
        · cases h
      · cases h
    · cases h
theorem split_does : ZeT Tryd.prog 60 ZoM := by
  refine ⟨fun args s v s' h => ?_, fun args s v s' h ho ι w args' ha he hF => .inl ⟨⟨_, _, Tryd.func60, rfl⟩, ?_⟩⟩
  · unfold ZoM at h
    split at h
    · split at h
      · split at h
        · rename_i M s1 h1
          injection h with h; injection h with q1 q2; subst q2; exact (Zed h1).1.trans up_add
        · cases h
      · cases h
    · cases h
  · unfold ZoM at h
    split at h
    · rename_i x y hl
      have hA : args = #[.string x, .string y] := by rw [← Array.toArray_toList (xs := args), hl]
      subst hA
      split at h
      · rename_i b hb
        obtain rfl := Zq2 hb
        obtain rfl : args' = #[.string x, .string ⟨#[b]⟩] := ZeP ha.1 fun i u z hx1 hy1 => (ha.2 i u z hx1 hy1).eq_of_free (ZaF (p := Zbv) (a := #[.string x, .string ⟨#[b]⟩]) rfl i u hx1)
        split at h
        · rename_i M s1 h1
          obtain ⟨_, e1, e2, e3⟩ := Zed h1
          injection h with h; injection h with q1 q2; subst q1 q2
          obtain ⟨rfl, hM, hlM⟩ := e3 ho
          refine (Zwp lays146 (by kernel_rfl) (Za M) b w (by rw [Zkb]; omega)).mono ?_
          rintro e w' ⟨rfl, rfl⟩
          obtain ⟨r1, r2⟩ := Zvv (b := b) M.length M (Nat.le_refl _) hM
          rw [r1, r2]
          have hn : ι s.n = none := hF.2 s.n (Nat.le_refl _) (by show s.n < s1.n + 1; omega)
          have hnf : s.n < 1000000000 := Nat.lt_of_lt_of_le (by show s.n < s1.n + 1; omega) hF.1
          have hcells : ((Zao (b.toNat : Int) M).flatMap fun l => ZF [.s (Za l)]) = ((Zao (b.toNat : Int) M).map Za).map Value.string := by
            rw [List.map_map]
            generalize Zao (b.toNat : Int) M = W
            induction W with
            | nil => rfl
            | cons a W ih => rw [List.flatMap_cons, ih]; rfl
          have hst := Step.alloc he hnf hn (c := ((Zao (b.toNat : Int) M).map Za).map Value.string) (C := (((Zao (b.toNat : Int) M).map Za).map Value.string).toArray) 9 ⟨by simp, fun i u z hx1 hy1 => by
            rw [List.getElem?_toArray, hx1] at hy1; injection hy1 with hy1; subst hy1
            obtain ⟨q, _, rfl⟩ := List.mem_map.1 (List.mem_of_getElem? hx1)
            exact .atom rfl⟩ (Zao (b.toNat : Int) M).length (fun i hi => by
              rw [show Tryd.prog.info? 9 = _ from rfl] at hi
              have h1 : i.size = 1 := by
                have : (Tryd.prog.info? 9).map (·.size) = some 1 := by kernel_rfl
                rw [hi] at this; simpa using this
              rw [h1]; simp)
          have hh : (s1.add ((Zao (b.toNat : Int) M).flatMap fun l => ZF [.s (Za l)]) 9).h.get = upd s.h.get s.n (some (.cells (((Zao (b.toNat : Int) M).map Za).map Value.string) 9)) := by
            show (s1.h.set s1.n _).get = _
            rw [Tr.get_set, e1, e2, hcells]
          refine ⟨_, upd ι s.n (some (w.heap.size, (Zao (b.toNat : Int) M).length)), rfl, by rw [hh]; exact hst, fun k hk => ?_, ?_⟩
          · by_cases hk0 : k = s.n
            · exact .inr (.inl ⟨by omega, by show k < s1.n + 1; omega⟩)
            · rw [Zm hk0] at hk; exact .inl hk
          · rw [e2]
            exact .slice (b := (w.heap.size, (Zao (b.toNat : Int) M).length)) Zw (Nat.le_refl _) (Nat.le_refl _) fun _ => .inl (Nat.le_refl _)
        · cases h
      · cases h
    · cases h
end Ev
end Go.Proofs.YtlbbiflodemagaaDoor
