/- Part 3. -/
import Derived.Test.YtaifklllpehnmaaGreatDoorZab
import Derived.Test.YtaifklllpehnmaaGreatDoorRows
import Derived.WalkKit
import Derived.WalkLawsBesides
import Derived.WalkSpells
import Derived.ProofKit
import Derived.OpenShut
import Derived.Outline
import Derived.BigQuiet
import Derived.BigGuardPart
import Derived.Lib.Hide
import Derived.Lib.SmallJoins
import Derived.SizedLaws
import Derived.Deep.Slices
import Derived.Deep.Fields
import Derived.Carry
import Derived.RangeFuncLeaves
import Derived.OrdersIn
import Derived.LoopNIn
import Derived.TacticsIn
import Derived.RangeFuncRecord
import Derived.Recover
import Derived.WalkSmall
import Derived.Laws.Externs
import Derived.Shelf.Strings.OnBuilder
import Derived.Shelf.Strings.Repeat
import Derived.Shelf.Strconv.Itoa3
import Derived.Lib.UnsafeStr
import Derived.RegionTactic
import Derived.Shelf.RegionOpenPlain
set_option linter.unusedSimpArgs false
set_option linter.unusedVariables false
/- Loops by induction: a round by the runner, between rounds the blocks are numbered anew. -/
namespace Go.Proofs.YtaifklllpehnmaaGreatDoor
open Go.RowKit
namespace Ev
def renA (ρ : Nat → Nat) : Value → Value
 | .pointer (some ⟨k, o, none⟩) => .pointer (some ⟨ρ k, o, none⟩)
 | .slice (some ⟨k, o, none⟩) n c => .slice (some ⟨ρ k, o, none⟩) n c
 | .map (some k) => .map (some (ρ k))
 | v => v
def Zdn (f : Value → Value) (a : Array Value) : Array Value := (a.toList.map f).toArray
theorem Zq3 (f : Value → Value) (a : Array Value) : Zdn f a = a.map f := by
 unfold Zdn
 apply Array.ext' 
 simp
def Za2 (ρ : Nat → Nat) : Nat → Value → Value
 | d + 1, .agg cs => .agg (Zdn (Za2 ρ d) cs)
 | d + 1, .tuple cs => .tuple (Zdn (Za2 ρ d) cs)
 | d + 1, .func f a b => .func f (Zdn (Za2 ρ d) a) (Zdn (Za2 ρ d) b)
 | _, v => renA ρ v
def Zam : Nat → Value → Bool
 | d + 1, .agg cs => Z4 (Zam d) cs.toList
 | d + 1, .tuple cs => Z4 (Zam d) cs.toList
 | d + 1, .func _ a b => Z4 (Zam d) a.toList && Z4 (Zam d) b.toList
 | 0, .agg _ => false
 | 0, .tuple _ => false
 | 0, .func _ a b => a.isEmpty && b.isEmpty
 | _, _ => true
section
variable {P : Program} {ext : FuncId → Option Ext}
theorem Zez {ι : Ren} {f : Value → Value} {a a' : Array Value} (hs : a.size = a'.size) (h : ∀ (i : Nat) x y, a[i]? = some x → a'[i]? = some y → VR ι (f x) y) : (Zdn f a).size = a'.size ∧ ∀ (i : Nat) x y, (Zdn f a)[i]? = some x → a'[i]? = some y → VR ι x y := by
 rw [Zq3]
 refine ⟨by simpa using hs, fun i x y hx hy => ?_⟩
 rw [Array.getElem?_map] at hx
 cases ha : a[i]? with
 | none => rw [ha] at hx; cases hx
 | some z => rw [ha] at hx; injection hx with hx; subst hx; exact h i z y ha hy
theorem ZlU {ρ : Nat → Nat} {v : Value} (h : atom v = true) : renA ρ v = v := by
 cases v with
 | pointer a => cases a with
  | none => rfl
  | some a => simp [atom] at h
 | slice a n c => cases a with
  | none => rfl
  | some a => simp [atom] at h
 | map a => cases a with
  | none => rfl
  | some a => simp [atom] at h
 | _ => rfl
theorem ZdQ {ρ : Nat → Nat} (d : Nat) {v : Value} (h : atom v = true) : Za2 ρ d v = v := by
 cases d with
 | zero => exact ZlU h
 | succ d =>
  cases v with
  | agg cs => simp [atom] at h
  | tuple cs => simp [atom] at h
  | func f a b =>
   cases f <;> simp [atom] at h
   obtain ⟨h1, h2⟩ := h
   subst h1 h2
   simp [Za2, Zdn]
  | _ => exact ZlU h
theorem Zd6 {ι ι2 : Ren} {ρ : Nat → Nat} (hι : ∀ k b, ι k = some b → ι2 (ρ k) = some b) (hm : ∀ b base id, ρ (Zaq b base id) = Zaq b base id) : ∀ (d : Nat) (v v' : Value), VR ι v v' → Zam d v = true → VR ι2 (Za2 ρ d v) v'
 | d, v, v', h, hd => by
  cases h with
  | atom h => rw [ZdQ d h]; exact .atom h
  | glob h => cases d <;> exact .glob h
  | ptr h => cases d <;> exact .ptr (hι _ _ h)
  | map h => cases d <;> exact .map (hι _ _ h)
  | slice h hn hc hq => cases d <;> exact .slice (hι _ _ h) hn hc hq
  | slice0 h =>
   rename_i A _
   obtain ⟨k, o, sp⟩ := A
   cases sp <;> cases d <;> exact .slice0 h
  | mptr h =>
   have h' := hι _ _ h
   rw [hm] at h'
   cases d <;> exact .mptr h'
  | mslice h hn hc =>
   have h' := hι _ _ h
   rw [hm] at h'
   cases d <;> exact .mslice h' hn hc
  | func hs ht h1 h2 =>
   cases d with
   | zero =>
    simp only [Zam, Bool.and_eq_true, Array.isEmpty_iff] at hd
    obtain ⟨rfl, rfl⟩ := hd
    exact .func hs ht (fun i x y hx => by simp at hx) (fun i x y hx => by simp at hx)
   | succ d =>
    simp only [Zam, Bool.and_eq_true] at hd
    obtain ⟨q1, q2⟩ := Zez (f := Za2 ρ d) hs fun i x y hx hy => Zd6 hι hm d x y (h1 i x y hx hy) (ZaB hd.1 i x hx)
    obtain ⟨q3, q4⟩ := Zez (f := Za2 ρ d) ht fun i x y hx hy => Zd6 hι hm d x y (h2 i x y hx hy) (ZaB hd.2 i x hx)
    exact .func q1 q3 q2 q4
  | agg hs h1 =>
   cases d with
   | zero => simp [Zam] at hd
   | succ d =>
    simp only [Zam] at hd
    obtain ⟨q1, q2⟩ := Zez (f := Za2 ρ d) hs fun i x y hx hy => Zd6 hι hm d x y (h1 i x y hx hy) (ZaB hd i x hx)
    exact .agg q1 q2
  | tuple hs h1 =>
   cases d with
   | zero => simp [Zam] at hd
   | succ d =>
    simp only [Zam] at hd
    obtain ⟨q1, q2⟩ := Zez (f := Za2 ρ d) hs fun i x y hx hy => Zd6 hι hm d x y (h1 i x y hx hy) (ZaB hd i x hx)
    exact .tuple q1 q2
theorem Zrk {ι ι2 : Ren} {ρ : Nat → Nat} (hι : ∀ k b, ι k = some b → ι2 (ρ k) = some b) (hm : ∀ b base id, ρ (Zaq b base id) = Zaq b base id) {v v' : Value} (h : VR ι v v') : ∃ u, VR ι2 u v' := by
 have arr : ∀ {a a' : Array Value}, a.size = a'.size → (∀ (i : Nat) x y, a[i]? = some x → a'[i]? = some y → ∃ u, VR ι2 u y) → ∃ c : Array Value, c.size = a'.size ∧ ∀ (i : Nat) x y, c[i]? = some x → a'[i]? = some y → VR ι2 x y := fun {a a'} hs hx => by
  have each : ∀ i : Fin a'.size, ∃ u, VR ι2 u a'[i] := fun i => hx i a[i] a'[i] (Array.getElem?_eq_getElem (by omega)) (Array.getElem?_eq_getElem i.2)
  refine ⟨Array.ofFn fun i => (each i).choose, by simp, fun i x y h1 h2 => ?_⟩
  obtain ⟨hlt, rfl⟩ := Array.getElem?_eq_some_iff.1 h2
  rw [Array.getElem?_ofFn, dif_pos hlt] at h1
  injection h1 with h1
  subst h1
  exact (each ⟨i, hlt⟩).choose_spec
 induction h with
 | atom h => exact ⟨_, .atom h⟩
 | glob h => exact ⟨_, .glob (g := 0) h⟩
 | ptr h => exact ⟨_, .ptr (hι _ _ h)⟩
 | map h => exact ⟨_, .map (hι _ _ h)⟩
 | slice h hn hc hq => exact ⟨_, .slice (hι _ _ h) hn hc hq⟩
 | slice0 h => exact ⟨_, .slice0 (A := ⟨0, 0, none⟩) h⟩
 | mptr h =>
  have h' := hι _ _ h
  rw [hm] at h'
  exact ⟨_, .mptr (z := 0) h'⟩
 | mslice h hn hc =>
  have h' := hι _ _ h
  rw [hm] at h'
  exact ⟨_, .mslice (z := 0) h' hn hc⟩
 | func hs ht h1 h2 ih1 ih2 =>
  obtain ⟨c, q1, q2⟩ := arr hs ih1
  obtain ⟨d, q3, q4⟩ := arr ht ih2
  exact ⟨_, .func q1 q3 q2 q4⟩
 | agg hs h1 ih =>
  obtain ⟨c, q1, q2⟩ := arr hs ih
  exact ⟨_, .agg q1 q2⟩
 | tuple hs h1 ih =>
  obtain ⟨c, q1, q2⟩ := arr hs ih
  exact ⟨_, .tuple q1 q2⟩
noncomputable def Zog : Nat → Nat → (Nat → Option Value) → (Nat → Value) → Tr Value → Tr Value
 | 0, _, _, _, T => T
 | n + 1, t, L, gv, T => Zog n (t + 1) L gv (T.set t (some (match L t with | some v => v | none => gv t)))
noncomputable def tmps (nt : Nat) (L : Nat → Option Value) (gv : Nat → Value) : Tr Value := Zog nt 0 L gv .nil
theorem ZlV (L : Nat → Option Value) (gv : Nat → Value) : ∀ (n t : Nat) (T : Tr Value) (k : Nat), (Zog n t L gv T).get k = if t ≤ k ∧ k < t + n then some (match L k with | some v => v | none => gv k) else T.get k
 | 0, t, T, k => by rw [if_neg (by omega)]; rfl
 | n + 1, t, T, k => by
  show (Zog n (t + 1) L gv _).get k = _
  rw [ZlV L gv n (t + 1), Tr.get_set]
  by_cases hk : k = t
  ·subst hk
   rw [if_neg (by omega), Zz, if_pos (by omega)]
  ·rw [Zu hk]
   by_cases h : t + 1 ≤ k ∧ k < t + 1 + n
   ·rw [if_pos h, if_pos (by omega)]
   ·rw [if_neg h, if_neg (by omega)]
theorem ZoN (nt : Nat) (L : Nat → Option Value) (gv : Nat → Value) (k : Nat) : (tmps nt L gv).get k = if k < nt then some (match L k with | some v => v | none => gv k) else none := by
 unfold tmps
 rw [ZlV]
 by_cases h : k < nt
 ·rw [if_pos (by omega), if_pos h]
 ·rw [if_neg (by omega), if_neg h]; rfl
def At (P : Program) (nt : Nat) (T : Tr Value) (h : AH) (m M : Nat) (ι0 : Ren) (h0 : AH) (w0 : World) (a : Act) (w : World) : Prop :=
 ∃ ι, TR ι nt [] T a ∧ Step P ι0 h0 w0 ι h w ∧ ∀ k, m ≤ k → k < M → ι k = none
def ZcV (k : Nat) : Prop := 1000000000 ≤ k ∧ k % 2 = 0
theorem ZkZ (b base id : Nat) : ZcV (Zaq b base id) := Zdx b base id
def rho (live : List Nat) (M : Nat) (k : Nat) : Nat := if M ≤ k ∧ k % 2 = 0 then k else if k ∈ live then live.idxOf k else if k < M then M + 2 * k + 1 else k + 2 * M
def sig (live : List Nat) (M : Nat) (j : Nat) : Option Nat :=
 if j < live.length then live[j]?
 else if M ≤ j then
  (if j % 2 = 0 then some j else if j < 3 * M then (if (j - M - 1) / 2 ∉ live then some ((j - M - 1) / 2) else none) else if j - 2 * M ∉ live then some (j - 2 * M) else none)
 else none
theorem ZtB {live : List Nat} {M : Nat} (hM : live.length ≤ M) (h2 : M % 2 = 0) (hl : ∀ k ∈ live, k < M) (k : Nat) : sig live M (rho live M k) = some k := by
 unfold rho
 split
 ·rename_i h
  unfold sig
  rw [if_neg (by omega), if_pos h.1, if_pos h.2]
 ·rename_i h
  split
  ·rename_i hk
   have hlt := List.idxOf_lt_length_of_mem hk
   unfold sig
   rw [if_pos hlt, List.getElem?_eq_getElem hlt]
   simp
  ·rename_i hk
   split
   ·rename_i hkM
    unfold sig
    have e : (M + 2 * k + 1 - M - 1) / 2 = k := by omega
    rw [if_neg (by omega), if_pos (by omega), if_neg (by omega), if_pos (by omega), e, if_pos hk]
   ·rename_i hkM
    unfold sig
    have e : k + 2 * M - 2 * M = k := by omega
    rw [if_neg (by omega), if_pos (by omega), if_neg (by omega), if_neg (by omega), e, if_pos hk]
theorem ZgS {live : List Nat} {M : Nat} (hn : live.Nodup) (h2 : M % 2 = 0) (hl : ∀ k ∈ live, k < M) {j k : Nat} (h : sig live M j = some k) : rho live M k = j := by
 unfold sig at h
 split at h
 ·rename_i hlt
  rw [List.getElem?_eq_getElem hlt] at h
  injection h with h
  subst h
  have hm : live[j] ∈ live := List.getElem_mem hlt
  have := hl _ hm
  unfold rho
  rw [if_neg (by omega), if_pos hm]
  exact hn.idxOf_getElem j hlt
 ·split at h
  ·split at h
   ·injection h with h
    subst h
    unfold rho
    rw [if_pos ⟨by assumption, by assumption⟩]
   ·split at h
    ·split at h
     ·rename_i hc
      injection h with h
      subst h
      unfold rho
      rw [if_neg (by omega), if_neg hc, if_pos (by omega)]
      omega
     ·cases h
    ·split at h
     ·rename_i hc
      injection h with h
      subst h
      unfold rho
      rw [if_neg (by omega), if_neg hc, if_neg (by omega)]
      omega
     ·cases h
  ·cases h
theorem FzC.ren {ι ι2 : Ren} {ρ : Nat → Nat} (hι : ∀ k b, ι k = some b → ι2 (ρ k) = some b) (hm : ∀ b base id, ρ (Zaq b base id) = Zaq b base id) {w : World} {b base id : Nat} (h : FzC ι w b base id) : FzC ι2 w b base id := by
 obtain ⟨c, C, t, fr, h1, h2, h3, h4, h5⟩ := h
 refine ⟨c, C, t, fr, h1, h2, h3, fun i x y hx hy => ?_, h5⟩
 have hv := h4 i x y hx hy
 unfold ZJ at hx
 rw [List.getElem?_map] at hx
 cases hb : c[i]? with
 | none => rw [hb] at hx; cases hx
 | some z =>
  rw [hb] at hx
  injection hx with hx
  subst hx
  have := Zd6 hι hm 0 _ _ hv (by cases z <;> rfl)
  have e : Za2 ρ 0 (Zbv z) = Zbv z := by cases z <;> rfl
  rwa [e] at this
theorem ZsO {nt : Nat} {ι0 ι : Ren} {h0 h : AH} {w0 w : World} {T : Tr Value} {a : Act} (hT : TR ι nt [] T a) (hS : Step P ι0 h0 w0 ι h w)
  (live : List Nat) (m M : Nat) (hM : M = 1000000000) (hll : ∀ k ∈ live, k < M) (hlen : live.length = m) (hmM : m ≤ M) (hn : live.Nodup) (h3 : ∀ k, ι0 k ≠ none → live[k]? = some k ∨ ZcV k)
  (L : Nat → Option Value) (hL : ∀ t v, t < nt → L t = some v → v = Za2 (rho live M) 3 ((T.get t).getD undef) ∧ Zam 3 ((T.get t).getD undef) = true)
  (g : AH) (hg : ∀ j o, g j = some o → ∃ k, live[j]? = some k ∧ match o with
   | .ro O m => h k = some (.ro O m)
   | .cells c t => ∃ c' r, h k = some (.cells c' t) ∧ c'.map (Za2 (rho live M) 1) = c ++ r ∧ Z4 (Zam 1) c' = true) :
  ∃ gv ι', TR ι' nt [] (tmps nt L gv) a ∧ Step P ι0 h0 w0 ι' g w ∧ (∀ k, m ≤ k → k < M → ι' k = none) ∧ ∀ j b, ι' j = some b → ∃ k, ι k = some b := by
 have h2M : M % 2 = 0 := by omega
 have s1 := fun k => ZtB (live := live) (M := M) (by omega) h2M hll k
 have rm : ∀ b base id, rho live M (Zaq b base id) = Zaq b base id := fun b base id => by
  have := Zdx b base id
  unfold rho
  rw [if_pos ⟨by omega, this.2⟩]
 have hι : ∀ k b, ι k = some b → (fun j => (sig live M j).bind ι) (rho live M k) = some b := fun k b hk => by
  simp only [s1 k, Option.bind_some, hk]
 have hlive : ∀ j k, live[j]? = some k → sig live M j = some k := fun j k hk => by
  have hlt := (List.getElem?_eq_some_iff.1 hk).1
  unfold sig
  rw [if_pos hlt]
  exact hk
 have back : ∀ j b, (sig live M j).bind ι = some b → ∃ k, sig live M j = some k ∧ ι k = some b := fun j b hj => by
  cases hs : sig live M j with
  | none => rw [hs] at hj; cases hj
  | some k => rw [hs] at hj; exact ⟨k, rfl, hj⟩
 have sm : ∀ k, ZcV k → sig live M k = some k := fun k hk => by
  unfold ZcV at hk
  unfold sig
  rw [if_neg (by omega), if_pos (by omega), if_pos hk.2]
 have old : ∀ k, ι0 k ≠ none → sig live M k = some k := fun k hk => (h3 k hk).elim (hlive k k) (sm k)
 have gC : ∀ j, isC (g j) = true → ∃ k, sig live M j = some k ∧ isC (h k) = true := fun j hj => by
  cases hx : g j with
  | none => rw [hx] at hj; cases hj
  | some o =>
   obtain ⟨k, hk, ho⟩ := hg j o hx
   cases o with
   | ro O m1 => rw [hx] at hj; exact ⟨k, hlive j k hk, by rw [show h k = some (.ro O m1) from ho]; exact hj⟩
   | cells c t => obtain ⟨c', r, hc, _⟩ := ho; exact ⟨k, hlive j k hk, by rw [hc]; rfl⟩
 have gS : ∀ j, (g j).isSome → ∃ k, sig live M j = some k ∧ (h k).isSome := fun j hj => by
  cases hx : g j with
  | none => rw [hx] at hj; cases hj
  | some o =>
   obtain ⟨k, hk, ho⟩ := hg j o hx
   cases o with
   | ro O m1 => exact ⟨k, hlive j k hk, by rw [show h k = some (.ro O m1) from ho]; rfl⟩
   | cells c t => obtain ⟨c', r, hc, _⟩ := ho; exact ⟨k, hlive j k hk, by rw [hc]; rfl⟩
 have garb : ∀ t, ∃ u, VR (fun j => (sig live M j).bind ι) u (a.tmps.getD t undef) := fun t => Zrk hι rm (hT.2.2 t)
 refine ⟨fun t => (garb t).choose, fun j => (sig live M j).bind ι, ⟨hT.1, hT.2.1, fun t => ?_⟩, ⟨fun k b hk => ?_, ⟨fun j c t hj => ?_, fun j O hj => ?_, fun j j' b b' h1 h2 h4 h5 h6 => ?_, fun j b hj => ?_, fun b base id q hq => ?_, fun x hx => (hS.emb.tb x hx).imp fun q hq => by
  show (sig live M (Zaq x.1 0 (code x.2))).bind ι = some q
  rw [sm _ (ZkZ x.1 0 (code x.2))]; exact hq⟩, hS.os, hS.tape, hS.output, hS.size, hS.frame, fun j b h1 h2 => ?_, fun j h1 h2 => ?_, fun j h1 h2 => ?_⟩, fun j h1 h2 => ?_, fun j b hj => (back j b hj).imp fun k h => h.2⟩
 ·rw [ZoN]
  by_cases ht : t < nt
  ·rw [if_pos ht]
   cases hl : L t with
   | none => exact (garb t).choose_spec
   | some v =>
    obtain ⟨e, hd⟩ := hL t v ht hl
    subst e
    exact Zd6 hι rm 3 _ _ (hT.2.2 t) hd
  ·rw [if_neg ht]
   have : a.tmps.getD t undef = undef := by
    have := hT.1
    simp [Array.getD, show ¬ t < a.tmps.size by omega]
   rw [this]
   exact VR.undef'
 ·show (sig live M k).bind ι = some b
  rw [old k (by rw [hk]; simp)]
  exact hS.ext k b hk
 ·obtain ⟨k, hk, c', r, hc, hcr, hd⟩ := hg j _ hj
  obtain ⟨b, C, hb, hB, hC, hQ⟩ := hS.emb.obj k c' t hc
  have hle : c.length ≤ c'.length := by
   have := congrArg List.length hcr
   simp at this
   omega
  refine ⟨b, C, by show (sig live M j).bind ι = some b; rw [hlive j k hk]; exact hb, hB, ⟨Nat.le_trans hle hC.1, fun i x y hx hy => ?_⟩, hQ⟩
  have hx' : (c'.map (Za2 (rho live M) 1))[i]? = some x := by
   rw [hcr, List.getElem?_append_left (List.getElem?_eq_some_iff.1 hx).1]
   exact hx
  rw [List.getElem?_map] at hx'
  cases hz : c'[i]? with
  | none => rw [hz] at hx'; cases hx'
  | some z =>
   rw [hz] at hx'
   injection hx' with hx'
   subst hx'
   exact Zd6 hι rm 1 z y (hC.2 i z y hz hy) (Zao hd z (List.mem_of_getElem? hz))
 ·obtain ⟨k, hk, hr⟩ := hg j _ hj
  obtain ⟨b, hb, hB⟩ := hS.emb.ro k O hr
  exact ⟨b, by show (sig live M j).bind ι = some b; rw [hlive j k hk]; exact hb, hB⟩
 ·obtain ⟨k, q1, q2⟩ := gC j h1
  obtain ⟨k', q3, q4⟩ := gS j' h2
  obtain ⟨_, e1, e2⟩ := back j b h4
  rw [q1] at e1; injection e1 with e1; subst e1
  obtain ⟨_, e3, e4⟩ := back j' b' h5
  rw [q3] at e3; injection e3 with e3; subst e3
  have := hS.emb.inj k k' b b' q2 q4 e2 e4 h6
  subst this
  rw [← ZgS hn h2M hll q1, ← ZgS hn h2M hll q3]
 ·obtain ⟨k, _, e2⟩ := back j b hj
  exact hS.emb.lt k b e2
 ·obtain ⟨k, e1, e2⟩ := back _ q hq
  rw [sm _ (ZkZ b base id)] at e1; injection e1 with e1; subst e1
  obtain ⟨m1, m2, m3⟩ := hS.emb.mks b base id q e2
  refine ⟨m1, ⟨m2.1.ren hι rm, fun o c hc => by
   have := hι _ _ (m2.2 o c hc)
   rw [rm] at this
   exact this⟩, fun k d hk hd => ?_⟩
  obtain ⟨k', q1, q2⟩ := gC k hk
  obtain ⟨k2, e3, e4⟩ := back k d hd
  rw [q1] at e3; injection e3 with e3; subst e3
  exact m3 k' d q2 e4
 ·obtain ⟨k, e1, e2⟩ := back j b h2
  refine hS.new k b ?_ e2
  cases hk : ι0 k with
  | none => rfl
  | some c =>
   have := ZgS hn h2M hll (old k (by rw [hk]; simp))
   have e3 := ZgS hn h2M hll e1
   rw [this] at e3
   subst e3
   rw [h1] at hk; cases hk
 ·obtain ⟨k, e1, e2⟩ := gS j h1
  rw [old j h2] at e1; injection e1 with e1; subst e1
  exact hS.alive j e2 h2
 ·obtain ⟨k, e1, e2⟩ := gC j h1
  rw [old j h2] at e1; injection e1 with e1; subst e1
  exact hS.kind j e2 h2
 ·show (sig live M j).bind ι = none
  unfold sig
  rw [if_neg (by omega), if_neg (by omega)]
  rfl
theorem Zq4 {nt : Nat} {ι0 ι : Ren} {h0 h : AH} {w0 w : World} {T : Tr Value} {a : Act} (hT : TR ι nt [] T a) (hS : Step P ι0 h0 w0 ι h w)
  (live : List Nat) (m M : Nat) (hM : M = 1000000000) (hll : ∀ k ∈ live, k < M) (hlen : live.length = m) (hmM : m ≤ M) (hn : live.Nodup) (h3 : ∀ k, ι0 k ≠ none → live[k]? = some k ∨ ZcV k)
  (L : Nat → Option Value) (hL : ∀ t v, t < nt → L t = some v → v = Za2 (rho live M) 3 ((T.get t).getD undef) ∧ Zam 3 ((T.get t).getD undef) = true)
  (g : AH) (hg : ∀ j o, g j = some o → ∃ k, live[j]? = some k ∧ match o with
   | .ro O m => h k = some (.ro O m)
   | .cells c t => ∃ c' r, h k = some (.cells c' t) ∧ c'.map (Za2 (rho live M) 1) = c ++ r ∧ Z4 (Zam 1) c' = true) :
  ∃ gv, At P nt (tmps nt L gv) g m M ι0 h0 w0 a w := by
 obtain ⟨gv, ι', a1, a2, a3, _⟩ := ZsO hT hS live m M hM hll hlen hmM hn h3 L hL g hg
 exact ⟨gv, ι', a1, a2, a3⟩
theorem Ztp (F : Fit P ext) {fu nt : Nat} {c : Code} {T T' : Tr Value} {s s' : St} {e : Ex} (h : ZY P ext nt fu c T s = some (e, T', s')) (ho : ∀ p ∈ s'.ob, p.1 = p.2) {ι : Ren} {D : List Deferred} {a : Act} {w : World} (hT : TR ι nt D T a) (he : Emb P ι s.h.get w) (hf : Fresh ι s.n s'.n) :
  c.wp P (Zch P ι s w nt D e T' s') a w := (Zbh F fu).1 nt c T s e T' s' h ho ι D a w hT he hf
end
end Ev
end Go.Proofs.YtaifklllpehnmaaGreatDoor
/- Functions with loops: a run stands ahead of a loop, at a round's end, or at the function's end. -/
namespace Go.Proofs.YtaifklllpehnmaaGreatDoor
open Go.RowKit
namespace Ev
inductive Zbi where
 | seq (b : Code)
 | blk (id : Nat)
 | scp
 | rnd (i : Nat)
inductive Stop where
 | fin (v : Value) (s : St)
 | head (a : Code) (K : List Zbi) (T : Tr Value) (s : St)
 | next (i : Nat) (T : Tr Value) (s : St)
noncomputable section
def Stop.s : Stop → St
 | .fin _ s => s
 | .head _ _ _ s => s
 | .next _ _ s => s
def Zrl (P : Program) (fn : Func) (T : Tr Value) (s : St) : Option Value :=
 match ZaA P T s fn.results.toList with
 | some [v] => some v
 | some vs => some (.tuple vs.toArray)
 | none => none
def Zrm (s : St) : Option Value → Option Stop
 | some v => some (.fin v s)
 | none => none
def Ztq (P : Program) (fn : Func) (e : Ex) (T : Tr Value) (s : St) : Option Stop :=
 match e with
 | .exit _ => none
 | .normal => Zrm s (Zrl P fn T s)
 | .ret => Zrm s (Zrl P fn T s)
mutual
def ZcW (P : Program) (ext : FuncId → Option Ext) (fn : Func) (nt : Nat) : Nat → Code → List Zbi → Tr Value → St → Option Stop
 | 0, _, _, _, _ => none
 | fu + 1, c, K, T, s => match c with
  | .seq a b => ZcW P ext fn nt fu a (.seq b :: K) T s
  | .scope a => ZcW P ext fn nt fu a (.scp :: K) T s
  | .block id a => ZcW P ext fn nt fu a (.blk id :: K) T s
  | .cond x a b => match opnd T x with
   | .bool t => match t with
    | true => ZcW P ext fn nt fu a K T s
    | false => ZcW P ext fn nt fu b K T s
   | _ => none
  | .loop a => some (.head a K T s)
  | c => match ZY P ext nt fu c T s with
   | some (e, T', s') => Zb7 P ext fn nt fu K e T' s'
   | none => none
termination_by structural fu _ _ _ _ => fu
def Zb7 (P : Program) (ext : FuncId → Option Ext) (fn : Func) (nt : Nat) : Nat → List Zbi → Ex → Tr Value → St → Option Stop
 | 0, _, _, _, _ => none
 | fu + 1, K, e, T, s => match K with
  | [] => Ztq P fn e T s
  | .seq b :: K => match e with
   | .normal => ZcW P ext fn nt fu b K T s
   | .exit i => Zb7 P ext fn nt fu K (.exit i) T s
   | .ret => Zb7 P ext fn nt fu K .ret T s
  | .blk id :: K => match e with
   | .exit i => bif Nat.beq i id then Zb7 P ext fn nt fu K .normal T s else Zb7 P ext fn nt fu K (.exit i) T s
   | .normal => Zb7 P ext fn nt fu K .normal T s
   | .ret => Zb7 P ext fn nt fu K .ret T s
  | .scp :: K => Zb7 P ext fn nt fu K e T s
  | .rnd i :: K => match e with
   | .normal => some (.next i T s)
   | .exit j => Zb7 P ext fn nt fu K (.exit j) T s
   | .ret => Zb7 P ext fn nt fu K .ret T s
termination_by structural fu _ _ _ _ => fu
end
end
section
variable {P : Program} {ext : FuncId → Option Ext}
theorem Zq5 {s : St} {o : Option Value} {st : Stop} (h : Zrm s o = some st) : ∃ v, st = .fin v s ∧ o = some v := by
 cases o with
 | none => cases h
 | some v => injection h with h; exact ⟨v, h.symm, rfl⟩
theorem Zq6 {fn : Func} {e : Ex} {T : Tr Value} {s : St} {st : Stop} (h : Ztq P fn e T s = some st) : ∃ v, st = .fin v s ∧ (match e with | .exit _ => False | _ => True) ∧ (match ZaA P T s fn.results.toList with | some [v] => some v | some vs => some (.tuple vs.toArray) | none => none) = some v := by
 cases e with
 | exit i => cases h
 | normal => obtain ⟨v, h1, h2⟩ := Zq5 h; exact ⟨v, h1, trivial, h2⟩
 | ret => obtain ⟨v, h1, h2⟩ := Zq5 h; exact ⟨v, h1, trivial, h2⟩
theorem up_to (F : Fit P ext) {fn : Func} {nt : Nat} : ∀ fu : Nat, (∀ c K T s st, ZcW P ext fn nt fu c K T s = some st → Up s st.s) ∧ (∀ K e T s st, Zb7 P ext fn nt fu K e T s = some st → Up s st.s) := by
 intro fu
 induction fu with
 | zero => exact ⟨fun _ _ _ _ _ h => by simp [ZcW] at h, fun _ _ _ _ _ h => by simp [Zb7] at h⟩
 | succ fu ih =>
  obtain ⟨ihT, ihB⟩ := ih
  have other : ∀ c K T s st, (match ZY P ext nt fu c T s with | some (e, T', s') => Zb7 P ext fn nt fu K e T' s' | none => none) = some st → Up s st.s := fun c K T s st h => by
   split at h
   ·exact ((ZaF (P := P) (ext := ext) (fun f g hg => (F.hp f g hg).up) fu).1 _ _ _ _ _ _ _ (by assumption)).trans (ihB _ _ _ _ _ h)
   ·cases h
  refine ⟨fun c K T s st h => ?_, fun K e T s st h => ?_⟩
  ·cases c <;> simp only [ZcW] at h
   case seq a b => exact ihT _ _ _ _ _ h
   case scope a => exact ihT _ _ _ _ _ h
   case block id a => exact ihT _ _ _ _ _ h
   case cond x a b =>
    split at h
    ·split at h
     ·exact ihT _ _ _ _ _ h
     ·exact ihT _ _ _ _ _ h
    ·cases h
   case loop a => injection h with h; subst h; exact Up.refl _
   all_goals exact other _ _ _ _ _ h
  ·cases K with
   | nil => simp only [Zb7] at h; obtain ⟨v, rfl, _⟩ := Zq6 h; exact Up.refl _
   | cons k K =>
    cases k <;> simp only [Zb7] at h
    ·cases e <;> simp only at h
     ·exact ihT _ _ _ _ _ h
     ·exact ihB _ _ _ _ _ h
     ·exact ihB _ _ _ _ _ h
    ·cases e <;> simp only at h
     ·exact ihB _ _ _ _ _ h
     ·rename_i id i
      cases hb : Nat.beq i id <;> rw [hb] at h <;> exact ihB _ _ _ _ _ h
     ·exact ihB _ _ _ _ _ h
    ·exact ihB _ _ _ _ _ h
    ·cases e <;> simp only at h
     ·injection h with h; subst h; exact Up.refl _
     ·exact ihB _ _ _ _ _ h
     ·exact ihB _ _ _ _ _ h
def post (P : Program) (fn : Func) (R : Ending → World → Prop) (Nx : Nat → Act → World → Prop) : List Zbi → Exit → Act → World → Prop
 | [] => bodyPost P fn R
 | .seq b :: K => Exit.then (b.wp P (post P fn R Nx K)) (post P fn R Nx K)
 | .blk id :: K => Exit.inBlock id (post P fn R Nx K)
 | .scp :: K => Exit.noGoto (post P fn R Nx K)
 | .rnd i :: K => Exit.then (Nx i) (post P fn R Nx K)
def Zoh (P : Program) (fn : Func) (R : Ending → World → Prop) (Nx : Nat → Act → World → Prop) (nt : Nat) (ι : Ren) (a : Act) (w : World) : Stop → Prop
 | .fin v _ => ∀ v', VR ι v v' → R (.returned v') w
 | .head b K T _ => TR ι nt [] T a → (Code.loop b).wp P (post P fn R Nx K) a w
 | .next i T _ => TR ι nt [] T a → Nx i a w
theorem ZsP (F : Fit P ext) {fn : Func} {nt : Nat} {R : Ending → World → Prop} {Nx : Nat → Act → World → Prop} : ∀ fu : Nat,
  (∀ c K T s st, ZcW P ext fn nt fu c K T s = some st → (∀ p ∈ st.s.ob, p.1 = p.2) → ∀ ι a w, TR ι nt [] T a → Emb P ι s.h.get w → Fresh ι s.n st.s.n →
   (∀ ι' a' w', Step P ι s.h.get w ι' st.s.h.get w' → Dom ι ι' s.n st.s.n → Zoh P fn R Nx nt ι' a' w' st) → c.wp P (post P fn R Nx K) a w) ∧
  (∀ K e T s st, Zb7 P ext fn nt fu K e T s = some st → (∀ p ∈ st.s.ob, p.1 = p.2) → ∀ ι a w, TR ι nt [] T a → Emb P ι s.h.get w → Fresh ι s.n st.s.n →
   (∀ ι' a' w', Step P ι s.h.get w ι' st.s.h.get w' → Dom ι ι' s.n st.s.n → Zoh P fn R Nx nt ι' a' w' st) → post P fn R Nx K e.out a w) := by
 intro fu
 induction fu with
 | zero => exact ⟨fun _ _ _ _ _ h => by simp [ZcW] at h, fun _ _ _ _ _ h => by simp [Zb7] at h⟩
 | succ fu ih =>
  obtain ⟨ihT, ihB⟩ := ih
  have other : ∀ c K T s st, (match ZY P ext nt fu c T s with | some (e, T', s') => Zb7 P ext fn nt fu K e T' s' | none => none) = some st → (∀ p ∈ st.s.ob, p.1 = p.2) → ∀ ι a w, TR ι nt [] T a → Emb P ι s.h.get w → Fresh ι s.n st.s.n →
   (∀ ι' a' w', Step P ι s.h.get w ι' st.s.h.get w' → Dom ι ι' s.n st.s.n → Zoh P fn R Nx nt ι' a' w' st) → c.wp P (post P fn R Nx K) a w := fun c K T s st h ho ι a w hT he hf hQ => by
   split at h
   ·rename_i e T1 s1 h1
    have u1 := (ZaF (P := P) (ext := ext) (fun f g hg => (F.hp f g hg).up) fu).1 _ _ _ _ _ _ _ h1
    have u2 := (up_to F (fn := fn) (nt := nt) fu).2 _ _ _ _ _ h
    refine wp_mono (Ztp F h1 (ZV u2.ob ho) hT he (hf.mono (Nat.le_refl _) u2.n)) ?_
    rintro ex a1 w1 ⟨rfl, ι1, g1, g2, g3⟩
    exact ihB K e T1 s1 st h ho ι1 a1 w1 g3 g1.emb (hf.after g2 u1.n) fun ι' a' w' k1 k2 => hQ ι' a' w' (g1.trans k1) (g2.trans k2 u1.n u2.n)
   ·cases h
  refine ⟨fun c K T s st h ho ι a w hT he hf hQ => ?_, fun K e T s st h ho ι a w hT he hf hQ => ?_⟩
  ·have h0 := h
   cases c <;> simp only [ZcW] at h
   case seq x y => exact wp_seq (ihT x (.seq y :: K) T s st h ho ι a w hT he hf hQ)
   case scope x => exact wp_scope_straight (ihT x (.scp :: K) T s st h ho ι a w hT he hf hQ)
   case block id x => exact wp_block (ihT x (.blk id :: K) T s st h ho ι a w hT he hf hQ)
   case cond x y z =>
    split at h
    ·rename_i t ht
     have hx : a.eval x = .bool t := Zbw ((ht ▸ hT.opnd x : VR ι (.bool t) (ZaI a x)).bool_inv)
     split at h
     ·exact wp_cond_true hx (ihT y K T s st h ho ι a w hT he hf hQ)
     ·exact wp_cond_false hx (ihT z K T s st h ho ι a w hT he hf hQ)
    ·cases h
   case loop x =>
    injection h with h
    subst h
    exact hQ ι a w (Step.refl he) Dom.refl hT
   all_goals exact other _ K T s st h ho ι a w hT he hf hQ
  ·cases K with
   | nil =>
    simp only [Zb7] at h
    obtain ⟨v, rfl, hne, hr⟩ := Zq6 h
    obtain ⟨v', hrun, hv⟩ := Zbb hT he hr
    have := hQ ι a w (Step.refl he) Dom.refl v' hv
    cases e with
    | normal => exact ⟨hT.2.1, v', hrun, this⟩
    | ret => exact ⟨hT.2.1, v', hrun, this⟩
    | exit i => exact hne.elim
   | cons k K =>
    cases k with
    | seq b =>
     simp only [Zb7] at h
     cases e with
     | normal => exact ihT b K T s st h ho ι a w hT he hf hQ
     | exit i => exact ihB K (.exit i) T s st h ho ι a w hT he hf hQ
     | ret => exact ihB K .ret T s st h ho ι a w hT he hf hQ
    | blk id =>
     simp only [Zb7] at h
     cases e with
     | normal => exact ihB K .normal T s st h ho ι a w hT he hf hQ
     | ret => exact ihB K .ret T s st h ho ι a w hT he hf hQ
     | exit i =>
      simp only at h
      show if i = id then _ else _
      cases hb : Nat.beq i id with
      | true =>
       rw [hb] at h
       rw [if_pos (Nat.eq_of_beq_eq_true hb)]
       exact ihB K .normal T s st h ho ι a w hT he hf hQ
      | false =>
       rw [hb] at h
       rw [if_neg (fun e => by rw [Zdk e] at hb; cases hb)]
       exact ihB K (.exit i) T s st h ho ι a w hT he hf hQ
    | scp =>
     simp only [Zb7] at h
     have := ihB K e T s st h ho ι a w hT he hf hQ
     cases e <;> exact this
    | rnd i =>
     simp only [Zb7] at h
     cases e with
     | normal =>
      injection h with h
      subst h
      exact hQ ι a w (Step.refl he) Dom.refl hT
     | exit j => exact ihB K (.exit j) T s st h ho ι a w hT he hf hQ
     | ret => exact ihB K .ret T s st h ho ι a w hT he hf hQ
def ZsQ (nt m : Nat) (L : Nat → Option Value) (H : Tr AObj) (T : Tr Value) (s : St) (live : List Nat) : Prop :=
 live.length = m ∧ live.Nodup ∧
  (∀ t v, t < nt → L t = some v → v = Za2 (rho live far) 3 ((T.get t).getD undef) ∧ Zam 3 ((T.get t).getD undef) = true) ∧
  ∀ j o, H.get j = some o → ∃ k, live[j]? = some k ∧ match o with
   | .ro O m => s.h.get k = some (.ro O m)
   | .cells c t => ∃ c' r, s.h.get k = some (.cells c' t) ∧ c'.map (Za2 (rho live far) 1) = c ++ r ∧ Z4 (Zam 1) c' = true
def Zcy (n : Nat) (live : List Nat) : Bool := (live.take n == List.range n) && Z4 (fun k => Nat.blt k 1000000000) live
theorem Zkj {n : Nat} {live : List Nat} (h : Zcy n live = true) {k : Nat} (hk : k < n) : live[k]? = some k := by
 unfold Zcy at h
 rw [Bool.and_eq_true] at h
 have h := beq_iff_eq.1 h.1
 have : (live.take n)[k]? = some k := by rw [h]; simp [hk]
 rwa [List.getElem?_take_of_lt hk] at this
theorem ZoO {n : Nat} {live : List Nat} (h : Zcy n live = true) : ∀ k ∈ live, k < far := fun k hk => by
 unfold Zcy at h
 rw [Bool.and_eq_true] at h
 have := Zao h.2 k hk
 rw [Nat.blt_eq] at this
 exact this
theorem Zla {nt m n0 : Nat} {L : Nat → Option Value} {H : Tr AObj} {T : Tr Value} {s : St} {live : List Nat} (hm : m ≤ far) (h : ZsQ nt m L H T s live) (hk : Zcy n0 live = true) {ι0 ι : Ren} (hd : ∀ k, ι0 k ≠ none → k < n0 ∨ ZcV k) {h0 : AH} {w0 w : World} {a : Act} (hT : TR ι nt [] T a) (hS : Step P ι0 h0 w0 ι s.h.get w) :
  ∃ gv, At P nt (tmps nt L gv) H.get m far ι0 h0 w0 a w :=
 Zq4 hT hS live m far rfl (ZoO hk) h.1 hm h.2.1 (fun k hk2 => (hd k hk2).imp (Zkj hk) id) L h.2.2.1 H.get h.2.2.2
end
end Ev
end Go.Proofs.YtaifklllpehnmaaGreatDoor
/- What is known of a function, in blocks' numbers of its own; and what that says at a call. -/
namespace Go.Proofs.YtaifklllpehnmaaGreatDoor
open Go.RowKit
namespace Ev
noncomputable section
def Zcj : Nat → List AObj → Tr AObj
 | _, [] => .nil
 | i, o :: l => (Zcj (i + 1) l).set i (some o)
theorem ZlW : ∀ (l : List AObj) (i k : Nat), (Zcj i l).get k = if i ≤ k then l[k - i]? else none
 | [], i, k => by
  show (Tr.nil : Tr AObj).get k = _
  rw [Tr.get_nil]
  split <;> simp
 | o :: l, i, k => by
  show ((Zcj (i + 1) l).set i (some o)).get k = _
  rw [Tr.get_set]
  by_cases hk : k = i
  ·subst hk; rw [Zz, if_pos (Nat.le_refl _)]; simp
  ·rw [Zu hk, ZlW l (i + 1) k]
   by_cases h : i + 1 ≤ k
   ·rw [if_pos h, if_pos (by omega)]
    have : k - i = (k - (i + 1)) + 1 := by omega
    rw [this, List.getElem?_cons_succ]
   ·rw [if_neg h, if_neg (by omega)]
end
def lk (l : List AObj) : AH := fun k => l[k]?
def lkO (l : List (Option AObj)) : AH := fun k => (l[k]?).join
theorem Zd7 (l : List AObj) : (Zcj 0 l).get = lk l := funext fun k => by rw [ZlW]; simp [lk]
section
variable {P : Program} {ext : FuncId → Option Ext}
def Fin (P : Program) (ι : Ren) (pre : List AObj) (w : World) (v : Value) (post : List (Option AObj)) (e : Ending) (w' : World) : Prop :=
 ∃ v' ι', e = .returned v' ∧ Step P ι (lk pre) w ι' (lkO post) w' ∧ (∀ k, ι' k ≠ none → k < post.length ∨ far ≤ k) ∧ VR ι' v v'
def LSpec (P : Program) (f : FuncId) (A : Array Value) (pre : List AObj) (v : Value) (post : List (Option AObj)) : Prop :=
 ∀ ι w args', (∀ k, ι k ≠ none → k < pre.length ∨ ZcV k) → VRs ι A args' → Emb P ι (lk pre) w → Calls P f args' w (Fin P ι pre w v post)
def Zkk (n0 : Nat) (v : Value) (post : List (Option AObj)) (u : Value) (s : St) (live : List Nat) : Prop :=
 live.length = post.length ∧ live.Nodup ∧ Zcy n0 live = true ∧ (v = Za2 (rho live far) 3 u ∧ Zam 3 u = true) ∧
  ∀ j o, lkO post j = some o → ∃ k, live[j]? = some k ∧ match o with
   | .ro O m => s.h.get k = some (.ro O m)
   | .cells c t => ∃ c' r, s.h.get k = some (.cells c' t) ∧ c'.map (Za2 (rho live far) 1) = c ++ r ∧ Z4 (Zam 1) c' = true
theorem ZoP {ι0 ι : Ren} {pre : List AObj} {w0 w : World} {u v v' : Value} {post : List (Option AObj)} {s : St} {live : List Nat} (hle : post.length ≤ far) (hd : ∀ k, ι0 k ≠ none → k < pre.length ∨ ZcV k) (h : Zkk pre.length v post u s live) (hS : Step P ι0 (lk pre) w0 ι s.h.get w) (hv : VR ι u v') : Fin P ι0 pre w0 v post (.returned v') w := by
 obtain ⟨h1, h2, h3, h4, h5⟩ := h
 have hT : TR ι 1 [] ((Tr.nil : Tr Value).set 0 (some u)) { tmps := #[v'], defers := [] } := ⟨rfl, rfl, fun t => by
  rw [Tr.get_set]
  by_cases ht : t = 0
  ·subst ht; rw [Zz]; exact hv
  ·rw [Zu ht, Tr.get_nil]
   have : (#[v'] : Array Value).getD t undef = undef := by simp [Array.getD, show ¬ t < 1 by omega]
   rw [this]
   exact VR.undef'⟩
 obtain ⟨gv, ι', hT', hS', hfr⟩ := Zq4 hT hS live post.length far rfl (ZoO h3) h1 hle h2 (fun k hk => (hd k hk).imp (Zkj h3) id) (fun _ => some v) (fun t x ht hx => by
  injection hx with hx
  subst hx
  obtain rfl : t = 0 := by omega
  rw [Tr.get_set, Zz]
  exact h4) (lkO post) h5
 refine ⟨v', ι', rfl, hS', fun k hk => ?_, ?_⟩
 ·rcases Nat.lt_or_ge k post.length with h | h
  ·exact .inl h
  ·rcases Nat.lt_or_ge k far with h' | h'
   ·exact absurd (hfr k h h') hk
   ·exact .inr h'
 ·have := hT'.2.2 0
  rw [ZoN, if_pos (by omega)] at this
  exact this
theorem ZsR (F : Fit P ext) {f : FuncId} {fn : Func} {c : Code} (hfn : P.funcs[f]? = some fn) (hb : fn.body = some c) {A : Array Value} {pre : List AObj} {v : Value} {post : List (Option AObj)} (hA : Nat.ble A.size fn.ntmps = true) {fu : Nat} {orc : Orc} {st : Stop}
  (hev : ZcW P ext fn fn.ntmps fu c [] (Zbq 0 A.toList .nil) ⟨Zcj 0 pre, pre.length, [], orc, []⟩ = some st) (ho : ∀ p ∈ st.s.ob, p.1 = p.2) (hn : st.s.n ≤ far)
  (hto : ∀ ι0 w0, (∀ k, ι0 k ≠ none → k < pre.length ∨ ZcV k) → ∀ ι' a' w', Step P ι0 (lk pre) w0 ι' st.s.h.get w' → Zoh P fn (Fin P ι0 pre w0 v post) (fun _ _ _ => False) fn.ntmps ι' a' w' st) : LSpec P f A pre v post := by
 intro ι w args' hd ha he
 refine calls_of_wp hfn hb ?_
 have := (ZsP F (R := Fin P ι pre w v post) (Nx := fun _ _ _ => False) fu).1 c [] _ _ st hev ho ι _ w (ZbT ha (Nat.le_of_ble_eq_true hA)) (by show Emb P ι (Zcj 0 pre).get w; rw [Zd7]; exact he)
  ⟨hn, fun k h1 h2 => by
   cases hk : ι k with
   | none => rfl
   | some b => exact absurd (hd k (by rw [hk]; simp)) (by have h3 : pre.length ≤ k := h1; have h4 : st.s.n ≤ 1000000000 := hn; have h5 : k < st.s.n := h2; unfold ZcV; omega)⟩
  (fun ι' a' w' g1 _ => hto ι w hd ι' a' w' (by have := g1; simp only [Zd7] at this; exact this))
 exact this
theorem ZrZ (F : Fit P ext) {f : FuncId} {fn : Func} {c : Code} (hfn : P.funcs[f]? = some fn) (hb : fn.body = some c) {A : Array Value} {pre : List AObj} {v u : Value} {post : List (Option AObj)} (hA : Nat.ble A.size fn.ntmps = true) {fu : Nat} {orc : Orc} {s : St}
  (hev : ZcW P ext fn fn.ntmps fu c [] (Zbq 0 A.toList .nil) ⟨Zcj 0 pre, pre.length, [], orc, []⟩ = some (.fin u s)) (ho : ∀ p ∈ s.ob, p.1 = p.2) (hn : s.n ≤ far) (hle : post.length ≤ far) (live : List Nat) (h : Zkk pre.length v post u s live) : LSpec P f A pre v post :=
 ZsR F hfn hb hA hev ho hn fun _ _ hd _ _ _ hS _ hv => ZoP hle hd h hS hv
/-! ### At a call -/
def Zbm (m : Nat) : Nat → Value → Bool
 | d + 1, .agg cs => Z4 (Zbm m d) cs.toList
 | d + 1, .tuple cs => Z4 (Zbm m d) cs.toList
 | _, .pointer (some ⟨k, _, none⟩) => Nat.blt k m
 | _, .slice (some ⟨k, _, none⟩) _ _ => Nat.blt k m
 | _, .pointer (some ⟨_, _, some _⟩) => true
 | _, .slice (some ⟨_, _, some _⟩) _ _ => true
 | _, .map (some k) => Nat.blt k m
 | _, v => atom v
theorem Zem {ι ι2 : Ren} {ρ : Nat → Nat} {m : Nat} (hι : ∀ k b, k < m → ι k = some b → ι2 (ρ k) = some b) (hmk : ∀ b base id q, ι (Zaq b base id) = some q → ι2 (Zaq b base id) = some q) : ∀ (d : Nat) (v v' : Value), VR ι v v' → Zbm m d v = true → VR ι2 (Za2 ρ d v) v'
 | d, v, v', h, hd => by
  cases h with
  | atom h => rw [ZdQ d h]; exact .atom h
  | glob h => cases d <;> simp [Zbm, Ev.atom] at hd
  | ptr h => cases d <;> exact .ptr (hι _ _ (Nat.le_of_ble_eq_true hd) h)
  | map h => cases d <;> exact .map (hι _ _ (Nat.le_of_ble_eq_true hd) h)
  | slice h hn hc hq => cases d <;> exact .slice (hι _ _ (Nat.le_of_ble_eq_true hd) h) hn hc hq
  | slice0 h =>
   rename_i A _
   obtain ⟨k, o, sp⟩ := A
   cases sp <;> cases d <;> exact .slice0 h
  | mptr h => cases d <;> exact .mptr (hmk _ _ _ _ h)
  | mslice h hn hc => cases d <;> exact .mslice (hmk _ _ _ _ h) hn hc
  | func hs ht h1 h2 =>
   rename_i fn a a' b b'
   have ha : atom (.func fn a b) = true := by cases d <;> exact hd
   have e := VR.eq_of_atom ha (.func hs ht h1 h2)
   rw [e, ZdQ d ha]
   exact .atom ha
  | agg hs h1 =>
   cases d with
   | zero => simp [Zbm, Ev.atom] at hd
   | succ d =>
    simp only [Zbm] at hd
    obtain ⟨q1, q2⟩ := Zez (f := Za2 ρ d) hs fun i x y hx hy => Zem hι hmk d x y (h1 i x y hx hy) (ZaB hd i x hx)
    exact .agg q1 q2
  | tuple hs h1 =>
   cases d with
   | zero => simp [Zbm, Ev.atom] at hd
   | succ d =>
    simp only [Zbm] at hd
    obtain ⟨q1, q2⟩ := Zez (f := Za2 ρ d) hs fun i x y hx hy => Zem hι hmk d x y (h1 i x y hx hy) (ZaB hd i x hx)
    exact .tuple q1 q2
theorem Zin {ι ι2 : Ren} {f : Value → Value} {a a' : Array Value} (h : VRs ι (Zdn f a) a') (g : ∀ (i : Nat) x y, a[i]? = some x → VR ι (f x) y → VR ι2 x y) : VRs ι2 a a' := by
 rw [Zq3] at h
 refine ⟨by simpa using h.1, fun i x y hx hy => g i x y hx (h.2 i _ y (by rw [Array.getElem?_map, hx]; rfl) hy)⟩
theorem VR.agg_of {ι : Ren} {a : Array Value} {v' : Value} (h : VR ι (.agg a) v') : ∃ a', v' = .agg a' ∧ VRs ι a a' := by
 cases h with
 | atom h => simp [Ev.atom] at h
 | agg hs h1 => exact ⟨_, rfl, hs, h1⟩
theorem VR.tuple_of {ι : Ren} {a : Array Value} {v' : Value} (h : VR ι (.tuple a) v') : ∃ a', v' = .tuple a' ∧ VRs ι a a' := by
 cases h with
 | atom h => simp [Ev.atom] at h
 | tuple hs h1 => exact ⟨_, rfl, hs, h1⟩
theorem Zoi {ι ι2 : Ren} {ρ : Nat → Nat} {m : Nat} (hι : ∀ k b, k < m → ι (ρ k) = some b → ι2 k = some b) (hmk : ∀ b base id q, ι (Zaq b base id) = some q → ι2 (Zaq b base id) = some q) : ∀ (d : Nat) (v v' : Value), VR ι (Za2 ρ d v) v' → Zbm m d v = true → VR ι2 v v'
 | d, v, v', h, hd => by
  have at_ : atom v = true → VR ι2 v v' := fun ha => by
   rw [ZdQ d ha] at h
   rw [h.eq_of_atom ha]
   exact .atom ha
  cases v with
  | pointer a =>
   cases a with
   | none => exact at_ rfl
   | some a =>
    obtain ⟨k, o, sp⟩ := a
    cases sp with
    | some sp =>
     have h' : VR ι (.pointer (some ⟨k, o, some sp⟩)) v' := by cases d <;> exact h
     cases h' with
     | atom q => simp [Ev.atom] at q
     | mptr q => exact .mptr (hmk _ _ _ _ q)
    | none =>
     have hk : k < m := by cases d <;> exact Nat.le_of_ble_eq_true hd
     have h' : VR ι (.pointer (some ⟨ρ k, o, none⟩)) v' := by cases d <;> exact h
     cases h' with
     | atom q => simp [Ev.atom] at q
     | ptr q => exact .ptr (hι k _ hk q)
  | slice a n c =>
   cases a with
   | none =>
    have ha : atom (.slice none n c) = true := by cases d <;> exact hd
    exact at_ ha
   | some a =>
    obtain ⟨k, o, sp⟩ := a
    cases sp with
    | some sp =>
     have h' : VR ι (.slice (some ⟨k, o, some sp⟩) n c) v' := by cases d <;> exact h
     cases h' with
     | atom q => simp [Ev.atom] at q
     | mslice q hn hc => exact .mslice (hmk _ _ _ _ q) hn hc
     | slice0 h0 => exact .slice0 h0
    | none =>
     have hk : k < m := by cases d <;> exact Nat.le_of_ble_eq_true hd
     have h' : VR ι (.slice (some ⟨ρ k, o, none⟩) n c) v' := by cases d <;> exact h
     cases h' with
     | atom q => simp [Ev.atom] at q
     | slice q hn hc hq => exact .slice (hι k _ hk q) hn hc hq
     | slice0 h0 => exact .slice0 h0
  | map a =>
   cases a with
   | none =>
    have ha : atom (.map none) = true := rfl
    exact at_ ha
   | some k =>
    have hk : k < m := by cases d <;> exact Nat.le_of_ble_eq_true hd
    have h' : VR ι (.map (some (ρ k))) v' := by cases d <;> exact h
    cases h' with
    | atom q => simp [Ev.atom] at q
    | map q => exact .map (hι k _ hk q)
  | agg cs =>
   cases d with
   | zero => simp [Zbm, Ev.atom] at hd
   | succ d =>
    simp only [Zbm] at hd
    obtain ⟨a', rfl, ha⟩ := VR.agg_of (a := Zdn (Za2 ρ d) cs) h
    have := Zin ha fun i x y hx hv => Zoi hι hmk d x y hv (ZaB hd i x hx)
    exact .agg this.1 this.2
  | tuple cs =>
   cases d with
   | zero => simp [Zbm, Ev.atom] at hd
   | succ d =>
    simp only [Zbm] at hd
    obtain ⟨a', rfl, ha⟩ := VR.tuple_of (a := Zdn (Za2 ρ d) cs) h
    have := Zin ha fun i x y hx hv => Zoi hι hmk d x y hv (ZaB hd i x hx)
    exact .tuple this.1 this.2
  | _ => exact at_ (by cases d <;> exact hd)
def kap (κ : List Nat) (n j : Nat) : Nat := match κ[j]? with | some k => k | none => n + (j - κ.length)
theorem Zkl {κ : List Nat} {n j : Nat} (h : j < κ.length) : κ[j]? = some (kap κ n j) := by
 unfold kap
 rw [List.getElem?_eq_getElem h]
theorem Zsa {κ : List Nat} {n j : Nat} (h : κ.length ≤ j) : kap κ n j = n + (j - κ.length) := by
 unfold kap
 rw [List.getElem?_eq_none h]
def ZfG (ρ : Nat → Nat) : AObj → AObj
 | .cells c t => .cells (c.map (Za2 ρ 1)) t
 | .ro O m => .ro O m
def Zfy (m : Nat) : AObj → Bool
 | .cells c _ => Z4 (Zbm m 1) c
 | .ro _ _ => true
theorem ZcE {ρ : Nat → Nat} {o : AObj} : isC (some (ZfG ρ o)) = isC (some o) := by cases o <;> rfl
theorem Zio : ∀ (n : Nat) (l : List Nat), l.Nodup → (∀ k ∈ l, k < n) → l.length ≤ n
 | 0, l, _, h => by
  cases l with
  | nil => exact Nat.le_refl _
  | cons x l => exact absurd (h x (List.mem_cons_self ..)) (Nat.not_lt_zero _)
 | n + 1, l, hn, h => by
  by_cases hm : n ∈ l
  ·have := Zio n (l.erase n) (hn.erase n) (fun k hk => by
    have h1 := h k (List.mem_of_mem_erase hk)
    have hne : k ≠ n := fun e => by subst e; exact (hn.mem_erase_iff.1 hk).1 rfl
    omega)
   rw [List.length_erase_of_mem hm] at this
   omega
  ·have := Zio n l hn (fun k hk => by
    have h1 := h k hk
    have : k ≠ n := fun e => hm (e ▸ hk)
    omega)
   omega
theorem LSpec.call {f : FuncId} {A : Array Value} {pre : List AObj} {v : Value} {post : List (Option AObj)} (h : LSpec P f A pre v post) (κ : List Nat) (n : Nat) (hκ : κ.length = pre.length) (hnd : κ.Nodup) (hlt : ∀ k ∈ κ, k < n) (hle : pre.length ≤ post.length)
  (hA : Z4 (Zbm pre.length 3) A.toList = true) (hpre : ∀ o ∈ pre, Zfy pre.length o = true) (hv : Zbm post.length 3 v = true) (hpost : ∀ o, some o ∈ post → Zfy post.length o = true)
  {A' : Array Value} {pre' : List (Nat × AObj)} {v' : Value} {post' : List (Nat × Option AObj)} {dn : Nat} (eA : A' = Zdn (Za2 (kap κ n) 3) A) (ev : v' = Za2 (kap κ n) 3 v) (edn : pre.length + dn = post.length)
  (e1 : ∀ j o, pre[j]? = some o → Za6 (kap κ n j) pre' = some (ZfG (kap κ n) o)) (e2 : ∀ k o, Za6 k pre' = some o → ∃ j, j < pre.length ∧ k = kap κ n j)
  (e3 : ∀ j, j < post.length → behind pre' post' (kap κ n j) = (lkO post j).map (ZfG (kap κ n))) (e4 : ∀ k o, behind pre' post' k = some o → ∃ j, j < post.length ∧ k = kap κ n j) : ZaK P f A' pre' v' post' n dn := by
 intro ι w args' ha he hf
 subst eA ev
 have kl : ∀ j, j < pre.length → kap κ n j ∈ κ := fun j hj => List.mem_of_getElem? (Zkl (n := n) (by omega : j < κ.length))
 have kn : ∀ j, j < pre.length → kap κ n j < n := fun j hj => hlt _ (kl j hj)
 have kg : ∀ j, pre.length ≤ j → kap κ n j = n + (j - pre.length) := fun j hj => by rw [← hκ]; exact Zsa (by omega)
 have kinj : ∀ i j, kap κ n i = kap κ n j → i = j := fun i j hij => by
  rcases Nat.lt_or_ge i pre.length with h1 | h1 <;> rcases Nat.lt_or_ge j pre.length with h2 | h2
  ·have a := Zkl (n := n) (by omega : i < κ.length)
   have b := Zkl (n := n) (by omega : j < κ.length)
   rw [hij, ← b] at a
   exact (List.getElem?_inj (by omega) hnd).1 a
  ·have := kn i h1; rw [hij, kg j h2] at this; omega
  ·have := kn j h2; rw [← hij, kg i h1] at this; omega
  ·rw [kg i h1, kg j h2] at hij; omega
 have hpn : pre.length ≤ n := hκ ▸ Zio n κ hnd hlt
 have hnf : n + dn ≤ 1000000000 := hf.1
 let ιl : Ren := fun j => if j < pre.length then ι (kap κ n j) else if 1000000000 ≤ j ∧ j % 2 = 0 then ι j else none
 have hιm : ∀ b base id, ιl (Zaq b base id) = ι (Zaq b base id) := fun b base id => by
  have := Zdx b base id
  simp only [ιl]
  rw [if_neg (by omega), if_pos this]
 have hmkl : ∀ b base id q, ι (Zaq b base id) = some q → ιl (Zaq b base id) = some q := fun b base id q h => by rw [hιm]; exact h
 have hιl : ∀ j, j < pre.length → ιl j = ι (kap κ n j) := fun j hj => by simp [ιl, hj]
 have hl : ∀ k b, k < pre.length → ι (kap κ n k) = some b → ιl k = some b := fun k b hk hb => by rw [hιl k hk]; exact hb
 have hargs : VRs ιl A args' := Zin ha fun i x y hx hv => Zoi hl hmkl 3 x y hv (ZaB hA i x hx)
 have cr : ∀ {c : List Value} {C : Array Value}, Z4 (Zbm pre.length 1) c = true → CR ι (c.map (Za2 (kap κ n) 1)) C → CR ιl c C := fun {c C} hu hc => ⟨by simpa using hc.1, fun i x y hx hy => Zoi hl hmkl 1 x y (hc.2 i _ y (by rw [List.getElem?_map, hx]; rfl) hy) (Zao hu x (List.mem_of_getElem? hx))⟩
 have hemb : Emb P ιl (lk pre) w := by
  refine ⟨fun j c t hj => ?_, fun j O hj => ?_, fun j j' b b' h1 h2 h3 h4 h5 => ?_, fun j b hj => ?_, fun b base id q hq => ?_, fun x hx => (he.tb x hx).imp fun q hq => hmkl _ _ _ _ hq⟩
  ·have hlt' : j < pre.length := (List.getElem?_eq_some_iff.1 hj).1
   obtain ⟨b, C, q1, q2, q3, q4⟩ := he.obj _ _ t (e1 j _ hj)
   exact ⟨b, C, by rw [hιl j hlt']; exact q1, q2, cr (hpre _ (List.mem_of_getElem? hj)) q3, q4⟩
  ·have hlt' : j < pre.length := (List.getElem?_eq_some_iff.1 hj).1
   obtain ⟨b, q1, q2⟩ := he.ro _ _ (e1 j _ hj)
   exact ⟨b, by rw [hιl j hlt']; exact q1, q2⟩
  ·obtain ⟨o, ho⟩ := Option.isSome_iff_exists.1 (ZaD h1)
   obtain ⟨o', ho'⟩ := Option.isSome_iff_exists.1 h2
   have l1 : j < pre.length := (List.getElem?_eq_some_iff.1 ho).1
   have l2 : j' < pre.length := (List.getElem?_eq_some_iff.1 ho').1
   rw [hιl j l1] at h3
   rw [hιl j' l2] at h4
   have c1 : isC (Za6 (kap κ n j) pre') = true := by rw [e1 j o ho, ZcE, ← ho]; exact h1
   exact kinj j j' (he.inj _ _ b b' c1 (by rw [e1 j' o' ho']; rfl) h3 h4 h5)
  ·by_cases hj' : j < pre.length
   ·rw [hιl j hj'] at hj; exact he.lt _ b hj
   ·simp only [ιl] at hj
    rw [if_neg hj'] at hj
    split at hj
    ·exact he.lt _ b hj
    ·cases hj
  ·rw [hιm] at hq
   obtain ⟨m1, m2, m3⟩ := he.mks b base id q hq
   refine ⟨m1, ⟨m2.1.on hmkl, fun o c hc => hmkl _ _ _ _ (m2.2 o c hc)⟩, fun k d hk hd => ?_⟩
   obtain ⟨o, ho⟩ := Option.isSome_iff_exists.1 (ZaD hk)
   have l1 : k < pre.length := (List.getElem?_eq_some_iff.1 ho).1
   rw [hιl k l1] at hd
   exact m3 (kap κ n k) d (by show isC (Za6 (kap κ n k) pre') = true; rw [e1 k o ho, ZcE, ← ho]; exact hk) hd
 refine (h ιl w args' (fun k hk => by
  by_cases h : k < pre.length
  ·exact .inl h
  ·simp only [ιl] at hk
   rw [if_neg h] at hk
   split at hk
   ·exact .inr (by assumption)
   ·exact absurd rfl hk) hargs hemb).mono ?_
 rintro e w' ⟨v', ι2, rfl, hS, hdom, hvr⟩
 have live : ∀ j, j < pre.length → ∃ b, ιl j = some b := fun j hj => hemb.live (k := j) (by simp [lk, hj])
 let ι' : Ren := fun k => match ι k with | some b => some b | none => if n ≤ k ∧ k < n + dn then ι2 (k - n + pre.length) else if 1000000000 ≤ k ∧ k % 2 = 0 then ι2 k else none
 have hold : ∀ k b, ι k = some b → ι' k = some b := fun k b hk => by simp [ι', hk]
 have hnew : ∀ k b, k < post.length → ι2 k = some b → ι' (kap κ n k) = some b := fun k b hk hb => by
  rcases Nat.lt_or_ge k pre.length with h1 | h1
  ·obtain ⟨c, hc⟩ := live k h1
   have := hS.ext k c hc
   rw [hb] at this
   injection this with this
   subst this
   rw [hιl k h1] at hc
   exact hold _ _ hc
  ·have e := kg k h1
   have hn : ι (kap κ n k) = none := hf.2 _ (by omega) (by omega)
   have : ι' (kap κ n k) = ι2 (kap κ n k - n + pre.length) := by simp only [ι', hn]; rw [if_pos ⟨by omega, by omega⟩]
   rw [this, e, show n + (k - pre.length) - n + pre.length = k by omega]
   exact hb
 have hback : ∀ k b, k < post.length → ι' (kap κ n k) = some b → ι2 k = some b := fun k b hk hb => by
  rcases Nat.lt_or_ge k pre.length with h1 | h1
  ·obtain ⟨c, hc⟩ := live k h1
   have q := hS.ext k c hc
   rw [hιl k h1] at hc
   rw [hold _ _ hc] at hb
   rw [q]; exact hb
  ·have e := kg k h1
   have hn : ι (kap κ n k) = none := hf.2 _ (by omega) (by omega)
   have : ι' (kap κ n k) = ι2 (kap κ n k - n + pre.length) := by simp only [ι', hn]; rw [if_pos ⟨by omega, by omega⟩]
   rw [this, e, show n + (k - pre.length) - n + pre.length = k by omega] at hb
   exact hb
 have hnewM : ∀ b base id q, ι2 (Zaq b base id) = some q → ι' (Zaq b base id) = some q := fun b base id q hq => by
  have hf := Zdx b base id
  cases hi : ι (Zaq b base id) with
  | some c =>
   have := hS.ext _ c (hmkl _ _ _ _ hi)
   rw [hq] at this
   injection this with this
   subst this
   exact hold _ _ hi
  | none =>
   simp only [ι', hi]
   rw [if_neg (by omega), if_pos hf]
   exact hq
 have hbackM : ∀ b base id q, ι' (Zaq b base id) = some q → ι2 (Zaq b base id) = some q := fun b base id q hq => by
  have hf := Zdx b base id
  cases hi : ι (Zaq b base id) with
  | some c =>
   rw [hold _ _ hi] at hq
   rw [← hq]
   exact hS.ext _ c (hmkl _ _ _ _ hi)
  | none =>
   simp only [ι', hi] at hq
   rw [if_neg (by omega), if_pos hf] at hq
   exact hq
 have inv : ∀ k o, behind pre' post' k = some o → ∃ j o0, j < post.length ∧ k = kap κ n j ∧ lkO post j = some o0 ∧ o = ZfG (kap κ n) o0 := fun k o hk => by
  obtain ⟨j, hj, rfl⟩ := e4 k o hk
  rw [e3 j hj] at hk
  cases hp : lkO post j with
  | none => rw [hp] at hk; cases hk
  | some o0 => rw [hp] at hk; injection hk with hk; exact ⟨j, o0, hj, rfl, hp, hk.symm⟩
 have mem : ∀ {j o}, lkO post j = some o → some o ∈ post := fun {j o} hj => by
  unfold lkO at hj
  cases hp : post[j]? with
  | none => rw [hp] at hj; cases hj
  | some x => rw [hp] at hj; exact (show x = some o from hj) ▸ List.mem_of_getElem? hp
 refine ⟨v', ι', rfl, ⟨hold, ⟨fun k c t hk => ?_, fun k O hk => ?_, fun k k' b b' h1 h2 h3 h4 h5 => ?_, fun k b hk => ?_, fun b base id q hq => ?_, fun x hx => (hS.emb.tb x hx).imp fun q hq => hnewM _ _ _ _ hq⟩, hS.os, hS.tape, hS.output, hS.size, fun b hb hno => hS.frame b hb fun j c hj hc => ?_, fun k b h1 h2 => ?_, fun k h1 h2 => ?_, fun k h1 h2 => ?_⟩, fun k hk => ?_, Zem hnew hnewM 3 v v' hvr hv⟩
 ·obtain ⟨j, o0, hj, rfl, hp, ho⟩ := inv k _ hk
  cases o0 with
  | ro O => cases ho
  | cells c0 t0 =>
   injection ho with q1 q2
   subst q1 q2
   obtain ⟨b, C, q1, q2, q3, q4⟩ := hS.emb.obj j c0 _ hp
   have hu : Z4 (Zbm post.length 1) c0 = true := hpost _ (mem hp)
   refine ⟨b, C, hnew j b hj q1, q2, ⟨by simpa using q3.1, fun i x y hx hy => ?_⟩, q4⟩
   rw [List.getElem?_map] at hx
   cases hz : c0[i]? with
   | none => rw [hz] at hx; cases hx
   | some z =>
    rw [hz] at hx
    injection hx with hx
    subst hx
    exact Zem hnew hnewM 1 z y (q3.2 i z y hz hy) (Zao hu z (List.mem_of_getElem? hz))
 ·obtain ⟨j, o0, hj, rfl, hp, ho⟩ := inv k _ hk
  cases o0 with
  | cells c0 t0 => cases ho
  | ro O' m1 =>
   injection ho with q1 q2
   subst q1 q2
   obtain ⟨b, q1, q2⟩ := hS.emb.ro j _ hp
   exact ⟨b, hnew j b hj q1, q2⟩
 ·obtain ⟨o, ho⟩ := Option.isSome_iff_exists.1 (ZaD h1)
  obtain ⟨o', ho'⟩ := Option.isSome_iff_exists.1 h2
  obtain ⟨j, o0, hj, rfl, hp, rfl⟩ := inv k _ ho
  obtain ⟨j', o0', hj', rfl, hp', rfl⟩ := inv k' _ ho'
  rw [ho, ZcE] at h1
  rw [hS.emb.inj j j' b b' (by rw [hp]; exact h1) (by rw [hp']; rfl) (hback j b hj h3) (hback j' b' hj' h4) h5]
 ·cases hi : ι k with
  | some c =>
   have := hold k c hi
   rw [hk] at this; injection this with this; subst this
   exact Nat.lt_of_lt_of_le (he.lt k b hi) hS.size
  | none =>
   simp only [ι', hi] at hk
   split at hk
   ·exact hS.emb.lt _ b hk
   ·split at hk
    ·exact hS.emb.lt _ b hk
    ·cases hk
 ·have hq2 := hbackM b base id q hq
  obtain ⟨m1, m2, m3⟩ := hS.emb.mks b base id q hq2
  refine ⟨m1, ⟨m2.1.on hnewM, fun o c hc => hnewM _ _ _ _ (m2.2 o c hc)⟩, fun k d hk hd => ?_⟩
  obtain ⟨o, ho⟩ := Option.isSome_iff_exists.1 (ZaD hk)
  obtain ⟨j, o0, hj, rfl, hp, rfl⟩ := inv k _ ho
  have hk' : isC (behind pre' post' (kap κ n j)) = true := hk
  rw [ho, ZcE] at hk'
  exact m3 j d (by rw [hp]; exact hk') (hback j d hj hd)
 ·obtain ⟨o, ho⟩ := Option.isSome_iff_exists.1 (ZaD hj)
  have l1 : j < pre.length := (List.getElem?_eq_some_iff.1 ho).1
  rw [hιl j l1] at hc
  exact hno (kap κ n j) c (by rw [e1 j o ho, ZcE, ← ho]; exact hj) hc
 ·simp only [ι', h1] at h2
  split at h2
  ·rename_i hr
   have hnone : ιl (k - n + pre.length) = none := by simp only [ιl]; rw [if_neg (by omega), if_neg (by omega)]
   rcases hS.new _ b hnone h2 with h | ⟨j, c, hj, hc, he2⟩
   ·exact .inl h
   ·obtain ⟨o, ho⟩ := Option.isSome_iff_exists.1 (ZaD hj)
    have l1 : j < pre.length := (List.getElem?_eq_some_iff.1 ho).1
    rw [hιl j l1] at hc
    exact .inr ⟨kap κ n j, c, by rw [e1 j o ho, ZcE, ← ho]; exact hj, hc, he2⟩
  ·split at h2
   ·rename_i hr
    have hnone : ιl k = none := by simp only [ιl]; rw [if_neg (by omega), if_pos hr]; exact h1
    rcases hS.new _ b hnone h2 with h | ⟨j, c, hj, hc, he2⟩
    ·exact .inl h
    ·obtain ⟨o, ho⟩ := Option.isSome_iff_exists.1 (ZaD hj)
     have l1 : j < pre.length := (List.getElem?_eq_some_iff.1 ho).1
     rw [hιl j l1] at hc
     exact .inr ⟨kap κ n j, c, by rw [e1 j o ho, ZcE, ← ho]; exact hj, hc, he2⟩
   ·cases h2
 ·obtain ⟨o, ho⟩ := Option.isSome_iff_exists.1 h1
  obtain ⟨j, o0, hj, rfl, hp, rfl⟩ := inv k _ ho
  rcases Nat.lt_or_ge j pre.length with l1 | l1
  ·have : (lk pre j).isSome := by simp [lk, l1]
   obtain ⟨o1, ho1⟩ := Option.isSome_iff_exists.1 this
   rw [e1 j o1 ho1]; rfl
  ·exact absurd (hf.2 _ (by rw [kg j l1]; omega) (by rw [kg j l1]; omega)) h2
 ·obtain ⟨o, ho⟩ := Option.isSome_iff_exists.1 (ZaD h1)
  obtain ⟨j, o0, hj, rfl, hp, rfl⟩ := inv k _ ho
  rcases Nat.lt_or_ge j pre.length with l1 | l1
  ·obtain ⟨c, hc⟩ := live j l1
   rw [ho, ZcE] at h1
   have q := hS.kind j (by rw [hp]; exact h1) (by rw [hc]; simp)
   obtain ⟨o1, ho1⟩ := Option.isSome_iff_exists.1 (ZaD q)
   rw [e1 j o1 ho1, ZcE, ← ho1]
   exact q
  ·exact absurd (hf.2 _ (by rw [kg j l1]; omega) (by rw [kg j l1]; omega)) h2
 ·cases hi : ι k with
  | some c => exact .inl (by simp)
  | none =>
   simp only [ι', hi] at hk
   split at hk
   ·rename_i hr; exact .inr (.inl hr)
   ·split at hk
    ·rename_i hr; exact .inr (.inr hr.1)
    ·exact absurd rfl hk
end
end Ev
end Go.Proofs.YtaifklllpehnmaaGreatDoor
/- Tools of my own, over any program: contracts that hand back one value and leave what was there alone, and regions walked once in the class of worlds that are alike below a block. -/
namespace Go.Proofs.YtaifklllpehnmaaGreatDoor
open Go.ChangeShapes Go.WideShapes Go.ChangeAt Go.RowKit

def Ret (v : Value) (w : World) (e : Ending) (w' : World) : Prop := e = .returned v ∧ Below w.heap.size w w'

def Cl (w : World) : Type := { w' : World // Below w.heap.size w w' }
def Cl.w {w : World} (x : Cl w) : World := x.1
theorem Cl.below {w : World} (x : Cl w) : Below w.heap.size w x.w := x.2
def Cl.start (w : World) : Cl w := ⟨w, Below.refl _ _⟩
instance (w : World) : Nonempty (Cl w) := ⟨Cl.start w⟩
theorem Cl.size {w : World} (x : Cl w) : w.heap.size ≤ x.w.heap.size := x.below.size
theorem Cl.cell {w : World} (x : Cl w) {b o : Nat} {v : Value} (hb : b < w.heap.size) (h : w.cell? ⟨b, o, none⟩ = some v) : x.w.cell? ⟨b, o, none⟩ = some v :=
 (x.below.cell (p := ⟨b, o, none⟩) hb).trans h
theorem Cl.frozen {w : World} (x : Cl w) {b o : Nat} {v : Bool} (hb : b < w.heap.size) (h : w.frozen? ⟨b, o, none⟩ = v) : x.w.frozen? ⟨b, o, none⟩ = v :=
 (x.below.frozen (p := ⟨b, o, none⟩) hb).trans h
theorem Cl.all {w : World} (_ : Cl w) (b o : Nat) (v : Value) (hb : b < w.heap.size) (h : w.cell? ⟨b, o, none⟩ = some v) : ∀ y : Cl w, y.w.cell? ⟨b, o, none⟩ = some v := fun y => y.cell hb h
theorem Cl.lt {w : World} (x : Cl w) {b : Nat} (h : b < w.heap.size) : b < x.w.heap.size := Nat.lt_of_lt_of_le h x.size
def Cl.on {w : World} (x : Cl w) {w' : World} (h : Below x.w.heap.size x.w w') : Cl w := ⟨w', x.below.trans (h.mono x.size)⟩
theorem Ret.next {w : World} {x : Cl w} {v : Value} {e : Ending} {w' : World} (h : Ret v x.w e w') : e = .returned v ∧ ∃ y : Cl w, w' = y.w :=
 ⟨h.1, x.on h.2, rfl⟩

theorem Ret.end {w W : World} {x : Cl W} {v : Value} (h : Below w.heap.size w W) : Ret v w (.returned v) x.w :=
 ⟨rfl, h.trans (x.below.mono h.size)⟩
theorem Ret.same {w : World} {v : Value} : Ret v w (.returned v) w := ⟨rfl, Below.refl _ _⟩
theorem Ret.alloc {w : World} {v : Value} (o : Obj) : Ret v w (.returned v) (w.alloc o) := ⟨rfl, (Below.refl _ _).alloc (Nat.le_refl _) _⟩

/-! ### Blocks that are known -/
def Has (W : World) (b : Nat) (cs : List Value) : Prop := b < W.heap.size ∧ ∀ i v, cs[i]? = some v → W.cell? ⟨b, i, none⟩ = some v ∧ W.frozen? ⟨b, i, none⟩ = false
section
variable {W : World} {b : Nat} {cs : List Value}
theorem Has.lt (h : Has W b cs) : b < W.heap.size := h.1
theorem Has.new (W : World) (cs : List Value) (t : TypeId) : Has (W.alloc (.cells cs.toArray t)) W.heap.size cs := by
 refine ⟨by simp, fun i v hi => ?_⟩
 have e : (W.alloc (.cells cs.toArray t)).heap[W.heap.size]? = some (.cells cs.toArray t (0, 0)) := heap_alloc_new W _
 refine ⟨?_, by simp only [World.frozen?, e]; simp⟩
 have := cell_of_row (W.alloc (.cells cs.toArray t)) W.heap.size i cs.toArray t (0, 0) e
 rw [this]; simpa using hi
theorem Has.below {W' : World} (h : Has W b cs) (hb : Below W.heap.size W W') : Has W' b cs :=
 ⟨Nat.lt_of_lt_of_le h.1 hb.size, fun i v hi => ⟨(hb.cell (p := ⟨b, i, none⟩) h.1).trans (h.2 i v hi).1, (hb.frozen (p := ⟨b, i, none⟩) h.1).trans (h.2 i v hi).2⟩⟩
theorem Has.ext (h : Has W b cs) (y : Cl W) : Has y.w b cs := h.below y.below
theorem Has.alloc (h : Has W b cs) (o : Obj) : Has (W.alloc o) b cs := h.below ((Below.refl _ _).alloc (Nat.le_refl _) _)
theorem Has.far (h : Has W b cs) {p : Addr} (hp : p.block ≠ b) (u : Value) : Has (W.setCell p u) b cs := by
 refine ⟨by simpa [World.setCell] using h.1, fun i v hi => ?_⟩
 have hb : (W.setCell p u).heap[b]? = W.heap[b]? := Below.heap_setCell W p u b (fun e => hp e.symm)
 exact ⟨(World.cell?_of_block (a := ⟨b, i, none⟩) hb).trans (h.2 i v hi).1, (World.frozen?_of_block (a := ⟨b, i, none⟩) hb).trans (h.2 i v hi).2⟩
theorem Has.at_ (h : Has W b cs) (i : Nat) (v : Value) (hi : cs[i]? = some v) : ∀ y : Cl W, y.w.cell? ⟨b, i, none⟩ = some v := fun y => ((h.ext y).2 i v hi).1
theorem Has.fr (h : Has W b cs) (i : Nat) (v : Value) (hi : cs[i]? = some v) : ∀ y : Cl W, y.w.frozen? ⟨b, i, none⟩ = false := fun y => ((h.ext y).2 i v hi).2
theorem Has.here (h : Has W b cs) (i : Nat) (v : Value) (hi : cs[i]? = some v) : W.cell? ⟨b, i, none⟩ = some v := (h.2 i v hi).1
end
theorem Cl.out {w W : World} (x : Cl W) (h : Below w.heap.size w W) : Below w.heap.size w x.w := h.trans (x.below.mono h.size)
theorem Ret.of {w T : World} {v : Value} (h : Below w.heap.size w T) : Ret v w (.returned v) T := ⟨rfl, h⟩
end Go.Proofs.YtaifklllpehnmaaGreatDoor
/- The frame of every law, over any program: from 'called with whatever can be read, it hands back true and leaves what was there alone' to the row's own step. And how arguments are opened. -/
namespace Go.Proofs.YtaifklllpehnmaaGreatDoor
open Go.ChangeShapes Go.WideShapes Go.ChangeAt Go.RowKit

section
variable {H : Type} {enc : TypeId × Value → H} {P : Program}

theorem Zg4 (hl : laidOutB P = true) {W W' : World} (hb : Below W.heap.size W W') : ∀ {ts : List TypeId} {vs : List Value} {ds : List (DataW H)} {ps : List MemPlace},
  (ts.all fun t => P.readableRec t && decide (t < P.types.size)) = true → DataW.TrodAll enc P W 0 (fun _ => true) true ts vs ds ps → (∀ x ∈ ps, x.block < W.heap.size) →
  DataW.TrodAll enc P W' 0 (fun b => decide (b < W.heap.size)) true ts vs ds ps
 | [], vs, ds, ps, _, h, _ => by
  obtain ⟨rfl, rfl, rfl⟩ := trodAll_nil h
  exact trodAll_mk0
 | t :: ts, vs, ds, ps, ha, h, hlt => by
  obtain ⟨v, vs', d, ds', p, q, rfl, rfl, rfl, h0, r0⟩ := trodAll_cons h
  simp only [List.all_cons, Bool.and_eq_true, decide_eq_true_eq] at ha
  exact trodAll_cons_mk (Below.trod hl ha.1.1 ha.1.2 h0 hb fun x hx => hlt x (List.mem_append_left _ hx))
   (Zg4 hl hb (by simpa using ha.2) r0 fun x hx => hlt x (List.mem_append_right _ hx))

end
end Go.Proofs.YtaifklllpehnmaaGreatDoor
/- A round's frame: what the runner says of code holds there too. -/
namespace Go.Proofs.YtaifklllpehnmaaGreatDoor
open Go.RowKit
namespace Ev
def ZeJ (o : Oper) : Bool := match o.op with | .defer _ => false | _ => true
def ZbI : Code → Bool
 | .seq a b => ZbI a && ZbI b
 | .cond _ a b => ZbI a && ZbI b
 | .block _ a => ZbI a
 | .loop a => ZbI a
 | .region _ ops _ => Z4 ZeJ ops.toList
 | .scope _ => false
 | _ => true
abbrev Fr (r : Option Nat) : Fence := { Fence.wide with round := r }
theorem Zfg {o : Oper} (h : ZeJ o = true) : ∀ c, o.op ≠ .defer c := fun c e => by unfold ZeJ at h; rw [e] at h; cases h
section
variable {P : Program} {ext : FuncId → Option Ext} {r : Option Nat}
theorem ZtC {n : Nat} {row : String} {args : Array Value} {w : World} {R : Value → World → Prop} (h : Rows P row args w R) : RowsIn (Fr r) n P row args w R := fun c cs _ => by
 obtain ⟨v, w', q, s⟩ := h c cs
 exact ⟨v, w', q, stepsIn_wide.2 s⟩
theorem ZsS {n f : Nat} {args : Array Value} {w : World} {R : Ending → World → Prop} (h : Calls P f args w R) : CallsIn (Fr r) n P f args w R := (callsIn_wide (n := n)).2 h
theorem Zlb {o : Oper} {a : Act} {w : World} {K : Act → World → Prop} {Q0 Q : Exit → Act → World → Prop} (hq : ∀ e a w, e ≠ .normal → ¬ Q0 e a w) (hnd : ∀ c, o.op ≠ .defer c) (h : o.wp P a w K Q0) : o.wpIn (Fr r) 0 P a w K Q := by
 refine ⟨fun _ _ => trivial, ?_⟩
 rw [Oper.semAt_eq _ _ _ hnd]
 unfold Oper.wp at h
 generalize (execOp a.eval o).run P w = x at h ⊢
 have no : ∀ (e : Exit) (a : Act) (w : World), e ≠ .normal → Q0 e a w → False := fun e a w he hx => hq e a w he hx
 cases x with
 | ok nx w' =>
  cases nx with
  | value v => exact h
  | skip => exact h
  | defer d => exact h
  | enter f args =>
   refine ⟨fun e => (by cases e), ZsS (Calls.mono h ?_)⟩
   intro e w2 h2
   cases e with
   | returned v => exact h2
   | panicked chain => exact (no _ _ _ (by simp) h2).elim
   | outgrown => obtain ⟨a0, w0, h0⟩ := h2; exact (no _ _ _ (by simp) h0).elim
  | row row args => exact ⟨fun e => (by cases e), ZtC h⟩
  | _ => exact h.elim
 | halt x w' =>
  cases x with
  | panic v => exact (no _ _ _ (by simp) h).elim
  | _ => exact h.elim
def Zrn (Q : Exit → Act → World → Prop) : Exit → Act → World → Prop := fun e a w => e = .normal ∧ Q .normal a w
theorem ZoQ {Q : Exit → Act → World → Prop} : ∀ e a w, e ≠ .normal → ¬ Zrn Q e a w := fun e a w he h => he h.1
theorem Zlc {ops : Array Oper} {Q : Exit → Act → World → Prop} : ∀ (l : List Oper) (a : Act) (w : World), Z4 ZeJ l = true → wpList P ops (Zrn Q) l a w → wpListIn (Fr r) 0 P ops Q l a w
 | [], a, w, _, h => h.2
 | o :: l, a, w, hn, h => by
  have ho := Zfg (Zao hn o (List.mem_cons_self ..))
  have hl : Z4 ZeJ l = true := ZkX fun x hx => Zao hn x (List.mem_cons_of_mem _ hx)
  unfold wpList at h
  unfold wpListIn
  split
  ·rename_i hw
   rw [if_pos hw] at h
   rcases h with h | ⟨_, a0, w0, h0⟩
   ·exact Zlb ZoQ ho (Oper.wp_mono (fun a w => Zlc l a w hl) h)
   ·cases h0.1
  ·rename_i hw
   rw [if_neg hw] at h
   exact ⟨fun _ _ => trivial, Zlc l _ w hl h⟩
theorem Zkm {ops : Array Oper} {Q : Exit → Act → World → Prop} {md : Region.Mode} (hn : Z4 ZeJ ops.toList = true) : ∀ (fuel : Nat) (listed : Array Bool) (a : Act) (w : World), wpAny P md ops (Zrn Q) fuel listed a w → wpAnyIn (Fr r) 0 P md ops Q fuel listed a w
 | 0, listed, a, w, h => ⟨h.1, h.2.2⟩
 | fuel + 1, listed, a, w, h => by
  refine ⟨fun e => (h.1 e).2, fun i hi => ?_⟩
  have hi := h.2 i hi
  unfold wpOp at hi
  unfold wpOpIn
  split
  ·rename_i ho
   rw [ho] at hi
   exact Zkm hn fuel _ a w hi
  ·rename_i o ho
   rw [ho] at hi
   simp only at hi
   have hd := Zfg (Zao hn o (by simpa using Array.mem_of_getElem? ho))
   split
   ·rename_i hw
    rw [if_pos hw] at hi
    rcases hi with hi | ⟨_, a0, w0, h0⟩
    ·exact Zlb ZoQ hd (Oper.wp_mono (fun a w => Zkm hn fuel _ a w) hi)
    ·cases h0.1
   ·rename_i hw
    rw [if_neg hw] at hi
    exact ⟨fun _ _ => trivial, Zkm hn fuel _ _ w hi⟩
theorem Zec {c : Code} {Q Q' : Exit → Act → World → Prop} (hq : ∀ e a w, Q e a w → Q' e a w) : ∀ (n : Nat) (a : Act) (w : World), Code.roundsIn (Fr r) 0 P c Q n a w → Code.roundsIn (Fr r) 0 P c Q' n a w
 | 0, _, _, h => h
 | n + 1, a, w, h => by
  rw [roundsIn_succ] at h ⊢
  refine wpIn_mono h ?_
  intro e a1 w1 h1
  cases e with
  | normal => exact Zec hq n a1 w1 h1
  | _ => exact hq _ _ _ h1
theorem ZoR (F : Fit P ext) : ∀ fu : Nat,
  (∀ nt c T s e T' s', ZY P ext nt fu c T s = some (e, T', s') → ZbI c = true → (∀ p ∈ s'.ob, p.1 = p.2) → ∀ ι D a w, TR ι nt D T a → Emb P ι s.h.get w → Fresh ι s.n s'.n → c.wpIn (Fr r) 0 P (Zch P ι s w nt D e T' s') a w) ∧
  (∀ nt c T s e T' s', ZY P ext nt fu (.loop c) T s = some (e, T', s') → ZbI c = true → (∀ p ∈ s'.ob, p.1 = p.2) → ∀ ι D a w, TR ι nt D T a → Emb P ι s.h.get w → Fresh ι s.n s'.n → Code.roundsIn (Fr r) 0 P c (Zch P ι s w nt D e T' s') fu a w) := by
 intro fu
 induction fu with
 | zero => exact ⟨fun _ _ _ _ _ _ _ h => by simp [ZY] at h, fun _ _ _ _ _ _ _ h => by simp [ZY] at h⟩
 | succ fu ih =>
  obtain ⟨ihC, ihL⟩ := ih
  obtain ⟨upC, upO, upP, upF, upD, upE⟩ := ZaF (P := P) (ext := ext) (fun f g hg => (F.hp f g hg).up) fu
  have loops : ∀ nt c T s e T' s', ZY P ext nt (fu + 1) (.loop c) T s = some (e, T', s') → ZbI c = true → (∀ p ∈ s'.ob, p.1 = p.2) → ∀ ι D a w, TR ι nt D T a → Emb P ι s.h.get w → Fresh ι s.n s'.n → Code.roundsIn (Fr r) 0 P c (Zch P ι s w nt D e T' s') (fu + 1) a w := by
   intro nt x T s e T' s' h hn ho ι D a w hT he hf
   simp only [ZY] at h
   rw [roundsIn_succ]
   split at h
   ·rename_i T1 s1 h1
    have u1 := upC _ _ _ _ _ _ _ h1
    have u2 := upC _ _ _ _ _ _ _ h
    refine wpIn_mono (ihC nt x T s .normal T1 s1 h1 hn (ZV u2.ob ho) ι D a w hT he (hf.mono (Nat.le_refl _) u2.n)) ?_
    rintro ex a1 w1 ⟨rfl, ι1, g1, g2, g3⟩
    refine Zec ?_ fu a1 w1 (ihL nt x T1 s1 e T' s' h hn ho ι1 D a1 w1 g3 g1.emb (hf.after g2 u1.n))
    rintro ex2 a2 w2 ⟨rfl, ι2, k1, k2, k3⟩
    exact ⟨rfl, ι2, g1.trans k1, g2.trans k2 u1.n u2.n, k3⟩
   ·rename_i i T1 s1 h1
    injection h with h; simp only [Prod.mk.injEq] at h; obtain ⟨rfl, rfl, rfl⟩ := h
    refine wpIn_mono (ihC nt x T s _ _ _ h1 hn ho ι D a w hT he hf) ?_
    rintro ex a1 w1 ⟨rfl, hq⟩
    exact ⟨rfl, hq⟩
   ·rename_i T1 s1 h1
    injection h with h; simp only [Prod.mk.injEq] at h; obtain ⟨rfl, rfl, rfl⟩ := h
    refine wpIn_mono (ihC nt x T s _ _ _ h1 hn ho ι D a w hT he hf) ?_
    rintro ex a1 w1 ⟨rfl, hq⟩
    exact ⟨rfl, hq⟩
   ·cases h
  refine ⟨fun nt c T s e T' s' h hn ho ι D a w hT he hf => ?_, loops⟩
  have base : Zch P ι s w nt D .normal T s .normal a w ∧ Zch P ι s w nt D .ret T s .ret a w ∧ ∀ i, Zch P ι s w nt D (.exit i) T s (.exit i) a w :=
   ⟨⟨rfl, ι, Step.refl he, Dom.refl, hT⟩, ⟨rfl, ι, Step.refl he, Dom.refl, hT⟩, fun i => ⟨rfl, ι, Step.refl he, Dom.refl, hT⟩⟩
  have chain : ∀ {s1 : St} {T1 : Tr Value} {c2 : Code} {a1 : Act} {w1 : World} {ι1 : Ren}, ZbI c2 = true → Up s s1 → Up s1 s' → Step P ι s.h.get w ι1 s1.h.get w1 → Dom ι ι1 s.n s1.n → TR ι1 nt D T1 a1 → ZY P ext nt fu c2 T1 s1 = some (e, T', s') →
    c2.wpIn (Fr r) 0 P (Zch P ι s w nt D e T' s') a1 w1 := fun {s1 T1 c2 a1 w1 ι1} n2 u1 u2 h1 h2 h3 h4 => by
   refine wpIn_mono (ihC nt c2 T1 s1 e T' s' h4 n2 ho ι1 D a1 w1 h3 h1.emb ((hf.mono (Nat.le_refl _) (Nat.le_refl _)).after h2 u1.n)) ?_
   rintro ex a2 w2 ⟨rfl, ι2, g1, g2, g3⟩
   exact ⟨rfl, ι2, (Step.two ⟨h1, h2⟩ ⟨g1, g2⟩ u1.n u2.n).1, (Step.two ⟨h1, h2⟩ ⟨g1, g2⟩ u1.n u2.n).2, g3⟩
  have h0 := h
  cases c <;> simp only [ZY] at h
  case skip => injection h with h; simp only [Prod.mk.injEq] at h; obtain ⟨rfl, rfl, rfl⟩ := h; exact wpIn_skip base.1
  case label l => injection h with h; simp only [Prod.mk.injEq] at h; obtain ⟨rfl, rfl, rfl⟩ := h; exact wpIn_label base.1
  case scope c => cases hn
  case ret => injection h with h; simp only [Prod.mk.injEq] at h; obtain ⟨rfl, rfl, rfl⟩ := h; exact wpIn_ret base.2.1
  case exit id => injection h with h; simp only [Prod.mk.injEq] at h; obtain ⟨rfl, rfl, rfl⟩ := h; exact wpIn_exit (base.2.2 id)
  case seq x y =>
   simp only [ZbI, Bool.and_eq_true] at hn
   split at h
   ·rename_i T1 s1 h1
    have u1 := upC _ _ _ _ _ _ _ h1
    have u2 := upC _ _ _ _ _ _ _ h
    refine wpIn_seq (wpIn_mono (ihC nt x T s .normal T1 s1 h1 hn.1 (ZV u2.ob ho) ι D a w hT he (hf.mono (Nat.le_refl _) u2.n)) ?_)
    rintro ex a1 w1 ⟨rfl, ι1, g1, g2, g3⟩
    exact chain hn.2 u1 u2 g1 g2 g3 h
   ·rename_i i T1 s1 h1
    injection h with h; simp only [Prod.mk.injEq] at h; obtain ⟨rfl, rfl, rfl⟩ := h
    refine wpIn_seq (wpIn_mono (ihC nt x T s _ _ _ h1 hn.1 ho ι D a w hT he hf) ?_)
    rintro ex a1 w1 ⟨rfl, hq⟩
    exact ⟨rfl, hq⟩
   ·rename_i T1 s1 h1
    injection h with h; simp only [Prod.mk.injEq] at h; obtain ⟨rfl, rfl, rfl⟩ := h
    refine wpIn_seq (wpIn_mono (ihC nt x T s _ _ _ h1 hn.1 ho ι D a w hT he hf) ?_)
    rintro ex a1 w1 ⟨rfl, hq⟩
    exact ⟨rfl, hq⟩
   ·cases h
  case cond x y z =>
   simp only [ZbI, Bool.and_eq_true] at hn
   split at h
   ·rename_i t ht
    have hx : a.eval x = .bool t := Zbw ((ht ▸ hT.opnd x : VR ι (.bool t) (ZaI a x)).bool_inv)
    split at h
    ·exact wpIn_cond_true hx (ihC nt y T s e T' s' h hn.1 ho ι D a w hT he hf)
    ·exact wpIn_cond_false hx (ihC nt z T s e T' s' h hn.2 ho ι D a w hT he hf)
   ·cases h
  case block id x =>
   simp only [ZbI] at hn
   split at h
   ·rename_i i T1 s1 h1
    cases hb : Nat.beq i id with
    | true =>
     rw [hb] at h
     injection h with h; simp only [Prod.mk.injEq] at h; obtain ⟨rfl, rfl, rfl⟩ := h
     refine wpIn_block (wpIn_mono (ihC nt x T s _ _ _ h1 hn ho ι D a w hT he hf) ?_)
     rintro ex a1 w1 ⟨rfl, hq⟩
     show if i = id then _ else _
     rw [if_pos (Nat.eq_of_beq_eq_true hb)]
     exact ⟨rfl, hq⟩
    | false =>
     rw [hb] at h
     injection h with h; simp only [Prod.mk.injEq] at h; obtain ⟨rfl, rfl, rfl⟩ := h
     refine wpIn_block (wpIn_mono (ihC nt x T s _ _ _ h1 hn ho ι D a w hT he hf) ?_)
     rintro ex a1 w1 ⟨rfl, hq⟩
     show if i = id then _ else _
     rw [if_neg (fun e => by rw [Zdk e] at hb; cases hb)]
     exact ⟨rfl, hq⟩
   ·rename_i T1 s1 h1
    injection h with h; simp only [Prod.mk.injEq] at h; obtain ⟨rfl, rfl, rfl⟩ := h
    refine wpIn_block (wpIn_mono (ihC nt x T s _ _ _ h1 hn ho ι D a w hT he hf) ?_)
    rintro ex a1 w1 ⟨rfl, hq⟩
    exact ⟨rfl, hq⟩
   ·rename_i T1 s1 h1
    injection h with h; simp only [Prod.mk.injEq] at h; obtain ⟨rfl, rfl, rfl⟩ := h
    refine wpIn_block (wpIn_mono (ihC nt x T s _ _ _ h1 hn ho ι D a w hT he hf) ?_)
    rintro ex a1 w1 ⟨rfl, hq⟩
    exact ⟨rfl, hq⟩
   ·cases h
  case loop x =>
   simp only [ZbI] at hn
   exact wpIn_loop_rounds (fu + 1) (loops nt x T s e T' s' h0 hn ho ι D a w hT he hf)
  case region id ops draw =>
   simp only [ZbI] at hn
   cases draw with
   | true =>
    simp only [cond_true] at h
    split at h
    ·rename_i es T1 s1 h1
     injection h with h; simp only [Prod.mk.injEq] at h; obtain ⟨rfl, rfl, rfl⟩ := h
     exact wpIn_region_any F.mixed (Zkm hn _ _ _ _ (ZoL F (fun fu' _ => (Zbh F fu').2.2.1) h1 ho hT he hf fun ι' a' w' g1 g2 g3 => ⟨rfl, rfl, ι', g1, g2, g3⟩))
    ·cases h
   | false =>
   simp only [cond_false] at h
   split at h
   ·rename_i T1 s1 h1
    injection h with h; simp only [Prod.mk.injEq] at h; obtain ⟨rfl, rfl, rfl⟩ := h
    exact wpIn_region_list (Zlc _ _ _ hn ((Zbh F fu).2.1 nt ops ops.toList T s T1 s1 h1 ho ι D a w _ hT he hf fun ι' a' w' g1 g2 g3 => ⟨rfl, rfl, ι', g1, g2, g3⟩))
   ·cases h
  all_goals cases h
end
end Ev
end Go.Proofs.YtaifklllpehnmaaGreatDoor
/- Ranges over functions: the rounds, the iterator, the statement. -/
namespace Go.Proofs.YtaifklllpehnmaaGreatDoor
open Go.RowKit
namespace Ev
noncomputable section
structure Cx where
 nt : Nat
 T : Tr Value
 ps : Array Tmp
 asg : Code
 body : Code
def ZsT : List Tmp → List Value → Tr Value → Tr Value
 | t :: ts, v :: vs, T => ZsT ts vs (T.set t (some v))
 | _, _, T => T
def isN : Ex → Bool
 | .normal => true
 | _ => false
def pend : Ex → Option Ex
 | .normal => none
 | e => some e
def Zfz (P : Program) (ext : FuncId → Option Ext) (cx : Cx) (fu : Nat) (xs : List Value) (s : St) : Option (Ex × St) :=
 bif Nat.beq xs.length cx.ps.toList.length && Z4 (fun t => Nat.blt t cx.nt) cx.ps.toList && ZbI cx.asg && ZbI cx.body then
  match ZY P ext cx.nt fu cx.asg (ZsT cx.ps.toList xs cx.T) s with
  | some (.normal, T1, s1) => match ZY P ext cx.nt fu cx.body T1 s1 with
   | some (e, _, s2) => some (e, s2)
   | none => none
  | _ => none
 else none
def Zq7 (ys : List Tmp) (o : Oper) : Option (Array Operand) :=
 match o.op with
 | .call c => match c.callee with
  | .value (.tmp t) => bif Zfb t ys then some c.args else none
  | _ => none
 | _ => none
def Zkn (ys : List Tmp) (o : Oper) : Bool :=
 match o.op with
 | .move (.tmp t) => Zfb t ys
 | _ => false
def Zro (dst : Option Tmp) (ys : List Tmp) : List Tmp := match dst with | some d => ys.filter (fun t => !Nat.beq t d) | none => ys
def addY (dst : Option Tmp) (ys : List Tmp) : List Tmp := match dst with | some d => d :: ys | none => ys
def ZcL (P : Program) (ext : FuncId → Option Ext) (nt : Nat) (cx : Cx) (fu : Nat) (ops : Array Oper) : List Oper → Tr Value → St → List Tmp → Option Ex → Option (Tr Value × St × List Tmp × Option Ex)
 | [], T, s, ys, pe => some (T, s, ys, pe)
 | o :: l, T, s, ys, pe =>
  bif Zb8 nt o.dst && Z4 ZbP o.op.operands.toList && (ZeJ o && o.guard.isNone) then
   match Zq7 ys o with
   | some xs => match pe with
    | none => match Zfz P ext cx fu (xs.toList.map (opnd T)) s with
     | some (e, s1) => ZcL P ext nt cx fu ops l (Zbc T o.dst (.bool (isN e))) s1 (Zro o.dst ys) (pend e)
     | none => none
    | some _ => none
   | none => bif Zkn ys o then ZcL P ext nt cx fu ops l (Zbc T o.dst (.chan (some 0))) s (addY o.dst ys) pe
    else match Zc5 P ext fu (opnd T) o s with
     | some (v, s1) => ZcL P ext nt cx fu ops l (Zbc T o.dst v) s1 (Zro o.dst ys) pe
     | none => none
  else none
def evI (P : Program) (ext : FuncId → Option Ext) (nt : Nat) (cx : Cx) : Nat → Code → Tr Value → St → List Tmp → Option Ex → Option (Ex × Tr Value × St × List Tmp × Option Ex)
 | 0, _, _, _, _, _ => none
 | fu + 1, c, T, s, ys, pe => match c with
  | .skip => some (.normal, T, s, ys, pe)
  | .ret => some (.ret, T, s, ys, pe)
  | .exit id => some (.exit id, T, s, ys, pe)
  | .seq a b => match evI P ext nt cx fu a T s ys pe with
   | some (.normal, T', s', ys', pe') => evI P ext nt cx fu b T' s' ys' pe'
   | some (.exit i, r) => some (.exit i, r)
   | some (.ret, r) => some (.ret, r)
   | none => none
  | .cond x a b => match opnd T x with
   | .bool t => match t with
    | true => evI P ext nt cx fu a T s ys pe
    | false => evI P ext nt cx fu b T s ys pe
   | _ => none
  | .block id a => match evI P ext nt cx fu a T s ys pe with
   | some (.exit i, r) => bif Nat.beq i id then some (.normal, r) else some (.exit i, r)
   | some (.normal, r) => some (.normal, r)
   | some (.ret, r) => some (.ret, r)
   | none => none
  | .loop a => match evI P ext nt cx fu a T s ys pe with
   | some (.normal, T', s', ys', pe') => evI P ext nt cx fu (.loop a) T' s' ys' pe'
   | some (.exit i, r) => some (.exit i, r)
   | some (.ret, r) => some (.ret, r)
   | none => none
  | .region _ ops draw => match draw with
   | true => none
   | false => match ZcL P ext nt cx fu ops ops.toList T s ys pe with
    | some (T', s', ys', pe') => some (.normal, T', s', ys', pe')
    | none => none
  | _ => none
def ZoS (P : Program) (ext : FuncId → Option Ext) (nt fu : Nat) (g : Operand) (ps : Array Tmp) (asg body : Code) (T : Tr Value) (s : St) : Option (Ex × St) :=
 match opnd T g with
 | .func (.func gf) av bv => match P.funcs[gf]? with
  | some fn => match fn.body with
   | some c => bif ZbP g && Nat.ble (av ++ #[Value.chan (some 0)] ++ bv).size fn.ntmps && Nat.beq fn.results.toList.length 0 then
     match evI P ext fn.ntmps ⟨nt, T, ps, asg, body⟩ fu c (Zbq 0 (av ++ #[Value.chan (some 0)] ++ bv).toList .nil) s [av.size] none with
     | some (.exit _, _) => none
     | some (_, _, s', _, none) => some (.normal, s')
     | some (_, _, s', _, some e) => bif isN e then none else some (e, s')
     | none => none
    else none
   | none => none
  | none => none
 | _ => none
def evR (P : Program) (ext : FuncId → Option Ext) (nt : Nat) : Nat → Code → Tr Value → St → Bool → Option (Ex × Tr Value × St × Bool)
 | 0, _, _, _, _ => none
 | fu + 1, c, T, s, m => match c with
  | .seq a b => match evR P ext nt fu a T s m with
   | some (.normal, T', s', m') => evR P ext nt fu b T' s' m'
   | some (.exit i, r) => some (.exit i, r)
   | some (.ret, r) => some (.ret, r)
   | none => none
  | .cond x a b => match opnd T x with
   | .bool t => match t with
    | true => evR P ext nt fu a T s m
    | false => evR P ext nt fu b T s m
   | _ => none
  | .block id a => match evR P ext nt fu a T s m with
   | some (.exit i, r) => bif Nat.beq i id then some (.normal, r) else some (.exit i, r)
   | some (.normal, r) => some (.normal, r)
   | some (.ret, r) => some (.ret, r)
   | none => none
  | .rangeFunc g ps asg body => bif m then none else match ZoS P ext nt fu g ps asg body T s with
   | some (e, s') => some (e, T, s', true)
   | none => none
  | .region i ops draw => match ZY P ext nt (fu + 1) (.region i ops draw) T s with
   | some (e, T', s') => some (e, T', s', m)
   | none => none
  | .loop a => match ZY P ext nt (fu + 1) (.loop a) T s with
   | some (e, T', s') => some (e, T', s', m)
   | none => none
  | .skip => some (.normal, T, s, m)
  | .ret => some (.ret, T, s, m)
  | .exit id => some (.exit id, T, s, m)
  | _ => none
def Zd8 (P : Program) (ext : FuncId → Option Ext) (fu : Nat) (f : FuncId) (args : Array Value) (s : St) : Out :=
 match P.funcs[f]? with
 | some fn => match fn.body with
  | some c => bif Nat.ble args.size fn.ntmps then match evR P ext fn.ntmps fu c (Zbq 0 args.toList .nil) s false with
   | some (.exit _, _) => none
   | some (_, T, s', _) => match ZaA P T s' fn.results.toList with
    | some [v] => some (v, s')
    | some vs => some (.tuple vs.toArray, s')
    | none => none
   | none => none
   else none
  | none => none
 | none => none
end
section
variable {P : Program} {ext : FuncId → Option Ext}
theorem Step.put {ι0 ι : Ren} {h0 h : AH} {w0 W : World} (st : Step P ι0 h0 w0 ι h W) {l : Nat} (hl : w0.heap.size ≤ l) (hn : ∀ k b, ι k = some b → b.1 ≠ l) (o : Obj) : Step P ι0 h0 w0 ι h (W.putObj l o) where
 ext := st.ext
 emb := ⟨fun k c t hk => by
   obtain ⟨b, C, q1, q2, q3⟩ := st.emb.obj k c t hk
   exact ⟨b, C, q1, q2.on (World.putObj_heap_other (hn k b q1)), q3⟩,
  fun k O hk => by
   obtain ⟨b, q1, q2⟩ := st.emb.ro k O hk
   exact ⟨b, q1, q2.on (World.putObj_heap_other (hn k b q1))⟩, st.emb.inj, fun k b hk => by
   have := st.emb.lt k b hk
   simpa [World.putObj] using this, fun b base id q hq => by
   obtain ⟨m1, m2, m3⟩ := st.emb.mks b base id q hq
   exact ⟨m1, ⟨m2.1.ext (fun _ _ h => h) (World.putObj_heap_other (by rw [← m1]; exact hn _ q hq)), m2.2⟩, m3⟩, st.emb.tb⟩
 os := st.os
 tape := st.tape
 output := st.output
 size := by have := st.size; simpa [World.putObj] using this
 frame := fun b hb hc => (World.putObj_heap_other (by omega)).trans (st.frame b hb hc)
 new := st.new
 alive := st.alive
 kind := st.kind
structure IS (P : Program) (ι0 : Ren) (h0 : AH) (w0 : World) (n0 : Nat) (cn : Nat) (cT : Tr Value) (ac : Act) (l K : Nat) (R : Loop) (ι : Ren) (s : St) (W : World) : Prop where
 st : Step P ι0 h0 w0 ι s.h.get W
 dm : Dom ι0 ι n0 s.n
 hn : n0 ≤ s.n
 tr : TR ι cn [] cT { tmps := ac.tmps, defers := [] }
 lo : W.heap[l]? = some (.loop R)
 de : W.heap[K]? = some (.deferred (some []))
 ll : w0.heap.size ≤ l
 lk : K ≠ l
 nl : ∀ k b, ι k = some b → b.1 ≠ l ∧ b.1 ≠ K
theorem Zip {ι ι1 : Ren} {h h1 : AH} {W W1 : World} (g : Step P ι h W ι1 h1 W1) {l : Nat} (hl : l < W.heap.size) (hn : ∀ k b, ι k = some b → b.1 ≠ l) : (∀ k b, ι1 k = some b → b.1 ≠ l) ∧ W1.heap[l]? = W.heap[l]? := by
 refine ⟨fun k b hk => ?_, g.frame l hl fun k c _ hc => hn k c hc⟩
 cases hi : ι k with
 | some c =>
  have := g.ext k c hi
  rw [hk] at this
  injection this with this
  rw [this]; exact hn k c hi
 | none =>
  rcases g.new k b hi hk with h | ⟨j, c, _, hj, e⟩
  ·omega
  ·rw [← e]; exact hn j c hj
section
variable {ι0 : Ren} {h0 : AH} {w0 : World} {n0 cn : Nat} {cT : Tr Value} {ac : Act} {l K : Nat} {R : Loop}
theorem IS.step {ι ι1 : Ren} {s s1 : St} {W W1 : World} (I : IS P ι0 h0 w0 n0 cn cT ac l K R ι s W) (g1 : Step P ι s.h.get W ι1 s1.h.get W1) (g2 : Dom ι ι1 s.n s1.n) (hle : s.n ≤ s1.n) : IS P ι0 h0 w0 n0 cn cT ac l K R ι1 s1 W1 := by
 have hl : l < W.heap.size := (Array.getElem?_eq_some_iff.1 I.lo).1
 have hk : K < W.heap.size := (Array.getElem?_eq_some_iff.1 I.de).1
 obtain ⟨a1, a2⟩ := Zip g1 hl fun k b h => (I.nl k b h).1
 obtain ⟨b1, b2⟩ := Zip g1 hk fun k b h => (I.nl k b h).2
 exact ⟨I.st.trans g1, I.dm.trans g2 I.hn hle, Nat.le_trans I.hn hle, I.tr.on g1.ext, a2.trans I.lo, b2.trans I.de, I.ll, I.lk, fun k b h => ⟨a1 k b h, b1 k b h⟩⟩
theorem IS.put {ι : Ren} {s : St} {W : World} (I : IS P ι0 h0 w0 n0 cn cT ac l K R ι s W) (R' : Loop) : IS P ι0 h0 w0 n0 cn cT ac l K R' ι s (W.putObj l (.loop R')) := by
 have hl : l < W.heap.size := (Array.getElem?_eq_some_iff.1 I.lo).1
 exact ⟨I.st.put I.ll (fun k b h => (I.nl k b h).1) _, I.dm, I.hn, I.tr, World.putObj_heap_same hl, (World.putObj_heap_other I.lk).trans I.de, I.ll, I.lk, I.nl⟩
end
def ZtV : Ex → Code
 | .exit i => .exit i
 | _ => .ret
def Rp (R : Loop) : Option Ex → Loop
 | none => { R with state := .ready, pending := none }
 | some e => { R with state := .done, pending := some (ZtV e) }
theorem Zsb {ι : Ren} {nt : Nat} : ∀ (ps : List Tmp) (xs xs' : List Value) (T : Tr Value) (t : Array Value), TR ι nt [] T { tmps := t, defers := [] } → xs.length = ps.length → VRs ι xs.toArray xs'.toArray → Z4 (fun t => Nat.blt t nt) ps = true →
  TR ι nt [] (ZsT ps xs T) { tmps := (ps.zip xs').foldl (fun t p => t.setIfInBounds p.1 p.2) t, defers := [] }
 | [], xs, xs', T, t, hT, hl, hx, hp => by
  cases xs with
  | nil => exact hT
  | cons x xs => simp at hl
 | p :: ps, [], xs', T, t, hT, hl, hx, hp => by simp at hl
 | p :: ps, x :: xs, [], T, t, hT, hl, hx, hp => by have := hx.1; simp at this
 | p :: ps, x :: xs, x' :: xs', T, t, hT, hl, hx, hp => by
  have hp1 : Zb8 nt (some p) = true := Zao hp p (List.mem_cons_self ..)
  have hp2 : Z4 (fun t => Nat.blt t nt) ps = true := ZkX fun y hy => Zao hp y (List.mem_cons_of_mem _ hy)
  have h1 : VR ι x x' := hx.2 0 x x' (by simp) (by simp)
  have h2 : VRs ι xs.toArray xs'.toArray := ⟨by have := hx.1; simpa using this, fun i y y' hy hy' => hx.2 (i + 1) y y' (by simpa using hy) (by simpa using hy')⟩
  exact Zsb ps xs xs' (T.set p (some x)) (t.setIfInBounds p x') (hT.put (dst := some p) hp1 h1) (by simpa using hl) h2 hp2
section
variable {ι0 : Ren} {h0 : AH} {w0 : World} {n0 : Nat} {ac : Act} {l K : Nat} {R : Loop} {cx : Cx}
theorem Zqg (F : Fit P ext) {fu : Nat} {xs : List Value} {s s' : St} {e : Ex} (h : Zfz P ext cx fu xs s = some (e, s')) (ho : ∀ p ∈ s'.ob, p.1 = p.2) {ι : Ren} {W : World}
  (hR : R.tmps = ac.tmps ∧ R.params = cx.ps ∧ R.assign = cx.asg ∧ R.body = cx.body) (I : IS P ι0 h0 w0 n0 cx.nt cx.T ac l K (Rp R none) ι s W) (hf : Fresh ι s.n s'.n) {xs' : Array Value} (hx : VRs ι xs.toArray xs') :
  ∃ tm, (Instr.yield l xs').run P W = .ok (.round l R.fn tm cx.asg cx.body) W ∧
   RoundIn (Fr none) 0 P l R.fn tm cx.asg cx.body W fun en W' => en = .returned (.bool (isN e)) ∧ ∃ ι', (∀ k b, ι k = some b → ι' k = some b) ∧ Dom ι ι' s.n s'.n ∧ IS P ι0 h0 w0 n0 cx.nt cx.T ac l K (Rp R (pend e)) ι' s' W' := by
 unfold Zfz at h
 obtain ⟨hg, h⟩ := Zr h
 simp only [Bool.and_eq_true] at hg
 obtain ⟨⟨⟨hl, hps⟩, hna⟩, hnb⟩ := hg
 have hl := Nat.eq_of_beq_eq_true hl
 obtain ⟨upC, _⟩ := ZaF (P := P) (ext := ext) (fun f g hg => (F.hp f g hg).up) fu
 split at h
 ·rename_i T1 s1 h1
  split at h
  ·rename_i e' T2 s2 h2
   injection h with h; injection h with q1 q2; subst q1 q2
   have u1 := upC _ _ _ _ _ _ _ h1
   have u2 := upC _ _ _ _ _ _ _ h2
   have hy := run_yield (P := P) (args := xs') I.lo (by
    show xs'.size = R.params.size
    rw [hR.2.1]
    have a := hx.1
    have b := hl
    simp only [List.size_toArray, Array.length_toList] at a b
    omega)
   have e1 : (Rp R none).tmps = ac.tmps := hR.1
   have e2 : (Rp R none).params = cx.ps := hR.2.1
   have e3 : (Rp R none).assign = cx.asg := hR.2.2.1
   have e4 : (Rp R none).body = cx.body := hR.2.2.2
   have e5 : (Rp R none).fn = R.fn := rfl
   rw [e1, e2, e3, e4, e5] at hy
   refine ⟨_, hy, ?_⟩
   have htr := Zsb cx.ps.toList xs xs'.toList cx.T ac.tmps I.tr hl (by simpa using hx) hps
   have hfold : (cx.ps.zip xs').foldl (fun (tmps : Array Value) (x : Tmp × Value) => match x with | (t, a) => tmps.setIfInBounds t a) ac.tmps = (cx.ps.toList.zip xs'.toList).foldl (fun t p => t.setIfInBounds p.1 p.2) ac.tmps := by
    rw [← Array.foldl_toList, Array.toList_zip]
   rw [hfold]
   refine roundIn_of_wpIn (F := Fr none) trivial ?_
   refine wpIn_mono (((ZoR (r := some l) F fu).1 cx.nt cx.asg _ s .normal T1 s1 h1 hna (ZV u2.ob ho) ι [] _ W htr I.st.emb (hf.mono (Nat.le_refl _) u2.n)) : Code.wpIn (Fr (some l)) 0 P _ _ _ W) ?_
   rintro ex a1 w1 ⟨rfl, ι1, g1, g2, g3⟩
   have I1 := I.step g1 g2 u1.n
   refine ⟨_, run_beginRound I1.lo rfl, ?_⟩
   have I2 := I1.put { Rp R none with state := .busy }
   refine wpIn_mono (((ZoR (r := some l) F fu).1 cx.nt cx.body T1 s1 e' T2 s2 h2 hnb ho ι1 [] a1 _ g3 I2.st.emb (hf.after g2 u1.n)) : Code.wpIn (Fr (some l)) 0 P _ _ _ _) ?_
   rintro ex a2 w2 ⟨rfl, ι2, k1, k2, k3⟩
   have I3 := I2.step k1 k2 u2.n
   have hext : ∀ k b, ι k = some b → ι2 k = some b := fun k b hk => k1.ext k b (g1.ext k b hk)
   have hdom : Dom ι ι2 s.n s2.n := g2.trans k2 u1.n u2.n
   cases e' with
   | normal => exact ⟨_, _, run_endRound none I3.lo, rfl, ι2, hext, hdom, I3.put _⟩
   | ret => exact ⟨_, _, run_endRound (some .ret) I3.lo, rfl, ι2, hext, hdom, I3.put _⟩
   | exit i => exact ⟨_, _, run_endRound (some (.exit i)) I3.lo, rfl, ι2, hext, hdom, I3.put _⟩
  ·cases h
 ·cases h
end
end
end Ev
end Go.Proofs.YtaifklllpehnmaaGreatDoor
/- Ranges over functions: the iterator's code, the statement, the function. -/
namespace Go.Proofs.YtaifklllpehnmaaGreatDoor
open Go.RowKit
namespace Ev
section
variable {P : Program} {ext : FuncId → Option Ext}
theorem ZoT (F : Fit P ext) {cx : Cx} {fu : Nat} {xs : List Value} {s s' : St} {e : Ex} (h : Zfz P ext cx fu xs s = some (e, s')) : Up s s' := by
 unfold Zfz at h
 obtain ⟨_, h⟩ := Zr h
 obtain ⟨upC, _⟩ := ZaF (P := P) (ext := ext) (fun f g hg => (F.hp f g hg).up) fu
 split at h
 ·rename_i T1 s1 h1
  split at h
  ·rename_i e' T2 s2 h2
   injection h with h; injection h with q1 q2; subst q1 q2
   exact (upC _ _ _ _ _ _ _ h1).trans (upC _ _ _ _ _ _ _ h2)
  ·cases h
 ·cases h
theorem Ze0 (F : Fit P ext) {nt : Nat} {cx : Cx} {fu : Nat} {ops : Array Oper} : ∀ (l : List Oper) (T : Tr Value) (s : St) (ys : List Tmp) (pe : Option Ex) (T' : Tr Value) (s' : St) (ys' : List Tmp) (pe' : Option Ex), ZcL P ext nt cx fu ops l T s ys pe = some (T', s', ys', pe') → Up s s'
 | [], T, s, ys, pe, T', s', ys', pe', h => by
  simp only [ZcL] at h
  injection h with h; simp only [Prod.mk.injEq] at h; obtain ⟨rfl, rfl, rfl, rfl⟩ := h
  exact Up.refl _
 | o :: l, T, s, ys, pe, T', s', ys', pe', h => by
  simp only [ZcL] at h
  obtain ⟨_, h⟩ := Zr h
  split at h
  ·split at h
   ·split at h
    ·rename_i e s1 h1
     exact (ZoT F h1).trans (Ze0 F l _ _ _ _ _ _ _ _ h)
    ·cases h
   ·cases h
  ·cases hm : Zkn ys o with
   | true => rw [hm] at h; exact Ze0 F l _ _ _ _ _ _ _ _ h
   | false =>
    rw [hm] at h
    simp only [cond_false] at h
    split at h
    ·rename_i v s1 h1
     exact ((ZaF (P := P) (ext := ext) (fun f g hg => (F.hp f g hg).up) fu).2.2.1 _ _ _ _ _ h1).trans (Ze0 F l _ _ _ _ _ _ _ _ h)
    ·cases h
theorem ZbU (F : Fit P ext) {nt : Nat} {cx : Cx} : ∀ (fu : Nat) (c : Code) (T : Tr Value) (s : St) (ys : List Tmp) (pe : Option Ex) (e : Ex) (T' : Tr Value) (s' : St) (ys' : List Tmp) (pe' : Option Ex), evI P ext nt cx fu c T s ys pe = some (e, T', s', ys', pe') → Up s s'
 | 0, _, _, _, _, _, _, _, _, _, _, h => by simp [evI] at h
 | fu + 1, c, T, s, ys, pe, e, T', s', ys', pe', h => by
  cases c <;> simp only [evI] at h
  case skip => injection h with h; simp only [Prod.mk.injEq] at h; obtain ⟨rfl, rfl, rfl, rfl, rfl⟩ := h; exact Up.refl _
  case ret => injection h with h; simp only [Prod.mk.injEq] at h; obtain ⟨rfl, rfl, rfl, rfl, rfl⟩ := h; exact Up.refl _
  case exit id => injection h with h; simp only [Prod.mk.injEq] at h; obtain ⟨rfl, rfl, rfl, rfl, rfl⟩ := h; exact Up.refl _
  case seq x y =>
   split at h
   ·rename_i T1 s1 ys1 pe1 h1; exact (ZbU F fu _ _ _ _ _ _ _ _ _ _ h1).trans (ZbU F fu _ _ _ _ _ _ _ _ _ _ h)
   ·rename_i i r h1; injection h with h; simp only [Prod.mk.injEq] at h; obtain ⟨rfl, rfl⟩ := h; exact ZbU F fu _ _ _ _ _ _ _ _ _ _ h1
   ·rename_i r h1; injection h with h; simp only [Prod.mk.injEq] at h; obtain ⟨rfl, rfl⟩ := h; exact ZbU F fu _ _ _ _ _ _ _ _ _ _ h1
   ·cases h
  case cond x y z =>
   split at h
   ·split at h
    ·exact ZbU F fu _ _ _ _ _ _ _ _ _ _ h
    ·exact ZbU F fu _ _ _ _ _ _ _ _ _ _ h
   ·cases h
  case block id x =>
   split at h
   ·rename_i i r h1
    cases hb : Nat.beq i id with
    | true => rw [hb] at h; injection h with h; simp only [Prod.mk.injEq] at h; obtain ⟨rfl, rfl⟩ := h; exact ZbU F fu _ _ _ _ _ _ _ _ _ _ h1
    | false => rw [hb] at h; injection h with h; simp only [Prod.mk.injEq] at h; obtain ⟨rfl, rfl⟩ := h; exact ZbU F fu _ _ _ _ _ _ _ _ _ _ h1
   ·rename_i r h1; injection h with h; simp only [Prod.mk.injEq] at h; obtain ⟨rfl, rfl⟩ := h; exact ZbU F fu _ _ _ _ _ _ _ _ _ _ h1
   ·rename_i r h1; injection h with h; simp only [Prod.mk.injEq] at h; obtain ⟨rfl, rfl⟩ := h; exact ZbU F fu _ _ _ _ _ _ _ _ _ _ h1
   ·cases h
  case loop x =>
   split at h
   ·rename_i T1 s1 ys1 pe1 h1; exact (ZbU F fu _ _ _ _ _ _ _ _ _ _ h1).trans (ZbU F fu _ _ _ _ _ _ _ _ _ _ h)
   ·rename_i i r h1; injection h with h; simp only [Prod.mk.injEq] at h; obtain ⟨rfl, rfl⟩ := h; exact ZbU F fu _ _ _ _ _ _ _ _ _ _ h1
   ·rename_i r h1; injection h with h; simp only [Prod.mk.injEq] at h; obtain ⟨rfl, rfl⟩ := h; exact ZbU F fu _ _ _ _ _ _ _ _ _ _ h1
   ·cases h
  case region id ops draw =>
   split at h
   ·cases h
   ·split at h
    ·rename_i T1 s1 ys1 pe1 h1
     injection h with h; simp only [Prod.mk.injEq] at h; obtain ⟨rfl, rfl, rfl, rfl, rfl⟩ := h
     exact Ze0 F _ _ _ _ _ _ _ _ _ h1
    ·cases h
  all_goals cases h
def YS (l : Nat) (ys : List Tmp) (a : Act) : Prop := ∀ t ∈ ys, a.tmps.getD t undef = .func (.yield l) #[] #[]
theorem YS.drop {l : Nat} {ys : List Tmp} {a : Act} {nt : Nat} (h : YS l ys a) (hs : a.tmps.size = nt) {dst : Option Tmp} (hd : Zb8 nt dst = true) (v : Value) : YS l (Zro dst ys) (a.put dst v) := fun t ht => by
 rw [Zim hs hd]
 cases dst with
 | none => rw [if_neg (by simp)]; exact h t ht
 | some d =>
  have ht : t ∈ ys.filter (fun t => !Nat.beq t d) := ht
  obtain ⟨h1, h2⟩ := List.mem_filter.1 ht
  have : ¬ d = t := fun e => by subst e; simp at h2
  rw [if_neg (by simpa using this)]
  exact h t h1
theorem YS.add {l : Nat} {ys : List Tmp} {a : Act} {nt : Nat} (h : YS l ys a) (hs : a.tmps.size = nt) {dst : Option Tmp} (hd : Zb8 nt dst = true) : YS l (addY dst ys) (a.put dst (.func (.yield l) #[] #[])) := fun t ht => by
 rw [Zim hs hd]
 split
 ·rfl
 ·rename_i hne
  cases dst with
  | none => exact h t ht
  | some d =>
   rcases List.mem_cons.1 (show t ∈ d :: ys from ht) with rfl | ht
   ·exact absurd rfl hne
   ·exact h t ht
section
variable {ι0 : Ren} {h0 : AH} {w0 : World} {n0 : Nat} {ac : Act} {l0 K : Nat} {R : Loop} {cx : Cx}
theorem Zen (F : Fit P ext) (hR : R.tmps = ac.tmps ∧ R.params = cx.ps ∧ R.assign = cx.asg ∧ R.body = cx.body) {nt fu : Nat} {ops : Array Oper} : ∀ (l : List Oper) (T : Tr Value) (s : St) (ys : List Tmp) (pe : Option Ex) (T' : Tr Value) (s' : St) (ys' : List Tmp) (pe' : Option Ex), ZcL P ext nt cx fu ops l T s ys pe = some (T', s', ys', pe') → (∀ p ∈ s'.ob, p.1 = p.2) →
  ∀ ι a W (Q : Exit → Act → World → Prop), TR ι nt [] T a → YS l0 ys a → IS P ι0 h0 w0 n0 cx.nt cx.T ac l0 K (Rp R pe) ι s W → Fresh ι s.n s'.n →
   (∀ ι' a' W', TR ι' nt [] T' a' → YS l0 ys' a' → IS P ι0 h0 w0 n0 cx.nt cx.T ac l0 K (Rp R pe') ι' s' W' → Dom ι ι' s.n s'.n → Q .normal a' W') → wpListIn (Fr none) 0 P ops Q l a W
 | [], T, s, ys, pe, T', s', ys', pe', h, ho, ι, a, W, Q, hT, hY, I, hf, hQ => by
  simp only [ZcL] at h
  injection h with h; simp only [Prod.mk.injEq] at h; obtain ⟨rfl, rfl, rfl, rfl⟩ := h
  exact hQ ι a W hT hY I Dom.refl
 | o :: l, T, s, ys, pe, T', s', ys', pe', h, ho, ι, a, W, Q, hT, hY, I, hf, hQ => by
  simp only [ZcL] at h
  obtain ⟨hg, h⟩ := Zr h
  simp only [Bool.and_eq_true] at hg
  obtain ⟨⟨hd, hgo⟩, hnd, hgu⟩ := hg
  have hnd := Zfg hnd
  have hgu : o.guard = none := by simpa using hgu
  have hwant : Region.wanted o (yielded ops a.tmps) = true := (ZaR (ops := ops) (s := s) (s' := s) (b := true) (fun t _ => hT.2.2 t) (by simp [ZbA, hgu])).1
  unfold wpListIn
  rw [if_pos hwant]
  split at h
  ·rename_i xs hy
   have hy : ∃ c t, o.op = .call c ∧ c.callee = .value (.tmp t) ∧ t ∈ ys ∧ c.args = xs := by
    unfold Zq7 at hy
    split at hy
    ·rename_i c hop
     split at hy
     ·rename_i t hc
      obtain ⟨hm, hy⟩ := Zr hy
      injection hy with hy
      exact ⟨c, t, hop, hc, ZcU.1 hm, hy⟩
     ·cases hy
    ·cases hy
   obtain ⟨c, t, hop, hc, ht, rfl⟩ := hy
   split at h
   ·split at h
    ·rename_i e s1 h1
     have u1 := ZoT F h1
     have u2 := Ze0 F _ _ _ _ _ _ _ _ _ h
     have hx : VRs ι (c.args.toList.map (opnd T)).toArray (c.args.map (ZaI a)) := by
      have := Zey hT.opnd c.args
      rwa [show (c.args.toList.map (opnd T)).toArray = c.args.map (opnd T) by rw [← Array.toList_map]]
     obtain ⟨tm, hrun, hround⟩ := Zqg F h1 (ZV u2.ob ho) hR I (hf.mono (Nat.le_refl _) u2.n) hx
     have hex : (execOp a.eval o).run P W = .ok (.round l0 R.fn tm cx.asg cx.body) W := by
      rw [← ZbH (fun cs b e => by rw [hop] at e; cases e) hgo, ← hrun]
      have hv : ZaI a (.tmp t) = .func (.yield l0) #[] #[] := hY t ht
      simp [execOp, hop, resolve, hc, hv, Deferred.ofValue, invoke, Result.andThen, Sem.run]
     refine ⟨fun _ _ => trivial, ?_⟩
     rw [show (Fr none).round = none from rfl, Oper.semAt_none, hex, Oper.uponIn_round]
     refine ⟨fun e => (by cases e), hround.mono ?_⟩
     rintro en W' ⟨rfl, ι', hext, hdom, I'⟩
     refine Zen F hR l _ s1 _ _ T' s' ys' pe' h ho ι' _ W' Q ((hT.on hext).put hd (VR.of_free rfl)) (hY.drop hT.1 hd _) I' (hf.after hdom u1.n) fun ι2 a2 W2 k1 k2 k3 k4 => hQ ι2 a2 W2 k1 k2 k3 (hdom.trans k4 u1.n u2.n)
    ·cases h
   ·cases h
  ·cases hm : Zkn ys o with
   | true =>
    rw [hm] at h
    simp only [cond_true] at h
    have hm : ∃ t, o.op = .move (.tmp t) ∧ t ∈ ys := by
     unfold Zkn at hm
     split at hm
     ·rename_i t hop; exact ⟨t, hop, ZcU.1 hm⟩
     ·cases hm
    obtain ⟨t, hop, ht⟩ := hm
    have hv : a.eval (.tmp t) = .func (.yield l0) #[] #[] := hY t ht
    refine ⟨fun _ _ => trivial, ?_⟩
    rw [show (Fr none).round = none from rfl, Oper.semAt_none]
    have hex : (execOp a.eval o).run P W = .ok (.value (.func (.yield l0) #[] #[])) W := by
     unfold execOp; rw [hop]; simp only; rw [hv]; rfl
    rw [hex, Oper.uponIn_value]
    exact Zen F hR l _ s _ pe T' s' ys' pe' h ho ι _ W Q (hT.put hd (VR.glob rfl)) (hY.add hT.1 hd) I hf hQ
   | false =>
    rw [hm] at h
    simp only [cond_false] at h
    split at h
    ·rename_i v s1 hv
     have u1 := (ZaF (P := P) (ext := ext) (fun f g hg => (F.hp f g hg).up) fu).2.2.1 _ _ _ _ _ hv
     have u2 := Ze0 F _ _ _ _ _ _ _ _ _ h
     refine Zlb (r := none) (Q0 := fun _ _ _ => False) (fun _ _ _ _ h => h) hnd ((Zbh F fu).2.2.1 (opnd T) (ZaI a) o s v s1 hv (ZV u2.ob ho) ι W hT.opnd I.st.emb (hf.mono (Nat.le_refl _) u2.n) a _ _ (ZbH (Zd4 hv) hgo).symm fun v' w' ι' g1 g2 g3 => ?_)
     exact Zen F hR l _ s1 _ pe T' s' ys' pe' h ho ι' _ w' Q ((hT.on g1.ext).put hd g3) (hY.drop hT.1 hd _) (I.step g1 g2 u1.n) (hf.after g2 u1.n) fun ι2 a2 W2 k1 k2 k3 k4 => hQ ι2 a2 W2 k1 k2 k3 (g2.trans k4 u1.n u2.n)
    ·cases h
end
end
end Ev
end Go.Proofs.YtaifklllpehnmaaGreatDoor
/- Ranges over functions: the iterator, the statement. -/
namespace Go.Proofs.YtaifklllpehnmaaGreatDoor
open Go.RowKit
namespace Ev
section
variable {P : Program} {ext : FuncId → Option Ext}
section
variable {ι0 : Ren} {h0 : AH} {w0 : World} {n0 : Nat} {ac : Act} {l0 K : Nat} {R : Loop} {cx : Cx}
def Zko (P : Program) (ι0 : Ren) (h0 : AH) (w0 : World) (n0 : Nat) (cx : Cx) (ac : Act) (l0 K : Nat) (R : Loop) (nt : Nat) (ι : Ren) (s : St) (e : Ex) (T' : Tr Value) (s' : St) (ys' : List Tmp) (pe' : Option Ex) (ex : Exit) (a' : Act) (W' : World) : Prop :=
 ex = e.out ∧ ∃ ι', TR ι' nt [] T' a' ∧ YS l0 ys' a' ∧ IS P ι0 h0 w0 n0 cx.nt cx.T ac l0 K (Rp R pe') ι' s' W' ∧ Dom ι ι' s.n s'.n
theorem ZtD (F : Fit P ext) (hR : R.tmps = ac.tmps ∧ R.params = cx.ps ∧ R.assign = cx.asg ∧ R.body = cx.body) {nt : Nat} : ∀ fu : Nat,
  (∀ c T s ys pe e T' s' ys' pe', evI P ext nt cx fu c T s ys pe = some (e, T', s', ys', pe') → (∀ p ∈ s'.ob, p.1 = p.2) → ∀ ι a W, TR ι nt [] T a → YS l0 ys a → IS P ι0 h0 w0 n0 cx.nt cx.T ac l0 K (Rp R pe) ι s W → Fresh ι s.n s'.n →
   c.wpIn (Fr none) 0 P (Zko P ι0 h0 w0 n0 cx ac l0 K R nt ι s e T' s' ys' pe') a W) ∧
  (∀ c T s ys pe e T' s' ys' pe', evI P ext nt cx fu (.loop c) T s ys pe = some (e, T', s', ys', pe') → (∀ p ∈ s'.ob, p.1 = p.2) → ∀ ι a W, TR ι nt [] T a → YS l0 ys a → IS P ι0 h0 w0 n0 cx.nt cx.T ac l0 K (Rp R pe) ι s W → Fresh ι s.n s'.n →
   Code.roundsIn (Fr none) 0 P c (Zko P ι0 h0 w0 n0 cx ac l0 K R nt ι s e T' s' ys' pe') fu a W) := by
 intro fu
 induction fu with
 | zero => exact ⟨fun _ _ _ _ _ _ _ _ _ _ h => by simp [evI] at h, fun _ _ _ _ _ _ _ _ _ _ h => by simp [evI] at h⟩
 | succ fu ih =>
  obtain ⟨ihC, ihL⟩ := ih
  have two : ∀ {ι ι1 : Ren} {s s1 s' : St} {e : Ex} {T' : Tr Value} {ys' : List Tmp} {pe' : Option Ex}, Dom ι ι1 s.n s1.n → s.n ≤ s1.n → s1.n ≤ s'.n → ∀ ex a W, Zko P ι0 h0 w0 n0 cx ac l0 K R nt ι1 s1 e T' s' ys' pe' ex a W → Zko P ι0 h0 w0 n0 cx ac l0 K R nt ι s e T' s' ys' pe' ex a W :=
   fun hd h1 h2 ex a W ⟨hx, ι', k1, k2, k3, k4⟩ => ⟨hx, ι', k1, k2, k3, hd.trans k4 h1 h2⟩
  have loops : ∀ c T s ys pe e T' s' ys' pe', evI P ext nt cx (fu + 1) (.loop c) T s ys pe = some (e, T', s', ys', pe') → (∀ p ∈ s'.ob, p.1 = p.2) → ∀ ι a W, TR ι nt [] T a → YS l0 ys a → IS P ι0 h0 w0 n0 cx.nt cx.T ac l0 K (Rp R pe) ι s W → Fresh ι s.n s'.n →
    Code.roundsIn (Fr none) 0 P c (Zko P ι0 h0 w0 n0 cx ac l0 K R nt ι s e T' s' ys' pe') (fu + 1) a W := by
   intro x T s ys pe e T' s' ys' pe' h ho ι a W hT hY I hf
   simp only [evI] at h
   rw [roundsIn_succ]
   split at h
   ·rename_i T1 s1 ys1 pe1 h1
    have u1 := ZbU F fu _ _ _ _ _ _ _ _ _ _ h1
    have u2 := ZbU F fu _ _ _ _ _ _ _ _ _ _ h
    refine wpIn_mono (ihC x T s ys pe .normal T1 s1 ys1 pe1 h1 (ZV u2.ob ho) ι a W hT hY I (hf.mono (Nat.le_refl _) u2.n)) ?_
    rintro ex a1 w1 ⟨rfl, ι1, g1, g2, g3, g4⟩
    exact Zec (two g4 u1.n u2.n) fu a1 w1 (ihL x T1 s1 ys1 pe1 e T' s' ys' pe' h ho ι1 a1 w1 g1 g2 g3 (hf.after g4 u1.n))
   ·rename_i i r h1
    injection h with h; simp only [Prod.mk.injEq] at h; obtain ⟨rfl, rfl⟩ := h
    refine wpIn_mono (ihC x T s ys pe _ _ _ _ _ h1 ho ι a W hT hY I hf) ?_
    rintro ex a1 w1 ⟨rfl, hq⟩
    exact ⟨rfl, hq⟩
   ·rename_i r h1
    injection h with h; simp only [Prod.mk.injEq] at h; obtain ⟨rfl, rfl⟩ := h
    refine wpIn_mono (ihC x T s ys pe _ _ _ _ _ h1 ho ι a W hT hY I hf) ?_
    rintro ex a1 w1 ⟨rfl, hq⟩
    exact ⟨rfl, hq⟩
   ·cases h
  refine ⟨fun c T s ys pe e T' s' ys' pe' h ho ι a W hT hY I hf => ?_, loops⟩
  have h0' := h
  cases c <;> simp only [evI] at h
  case skip => injection h with h; simp only [Prod.mk.injEq] at h; obtain ⟨rfl, rfl, rfl, rfl, rfl⟩ := h; exact wpIn_skip ⟨rfl, ι, hT, hY, I, Dom.refl⟩
  case ret => injection h with h; simp only [Prod.mk.injEq] at h; obtain ⟨rfl, rfl, rfl, rfl, rfl⟩ := h; exact wpIn_ret ⟨rfl, ι, hT, hY, I, Dom.refl⟩
  case exit id => injection h with h; simp only [Prod.mk.injEq] at h; obtain ⟨rfl, rfl, rfl, rfl, rfl⟩ := h; exact wpIn_exit ⟨rfl, ι, hT, hY, I, Dom.refl⟩
  case seq x y =>
   split at h
   ·rename_i T1 s1 ys1 pe1 h1
    have u1 := ZbU F fu _ _ _ _ _ _ _ _ _ _ h1
    have u2 := ZbU F fu _ _ _ _ _ _ _ _ _ _ h
    refine wpIn_seq (wpIn_mono (ihC x T s ys pe .normal T1 s1 ys1 pe1 h1 (ZV u2.ob ho) ι a W hT hY I (hf.mono (Nat.le_refl _) u2.n)) ?_)
    rintro ex a1 w1 ⟨rfl, ι1, g1, g2, g3, g4⟩
    exact wpIn_mono (ihC y T1 s1 ys1 pe1 e T' s' ys' pe' h ho ι1 a1 w1 g1 g2 g3 (hf.after g4 u1.n)) (two g4 u1.n u2.n)
   ·rename_i i r h1
    injection h with h; simp only [Prod.mk.injEq] at h; obtain ⟨rfl, rfl⟩ := h
    refine wpIn_seq (wpIn_mono (ihC x T s ys pe _ _ _ _ _ h1 ho ι a W hT hY I hf) ?_)
    rintro ex a1 w1 ⟨rfl, hq⟩
    exact ⟨rfl, hq⟩
   ·rename_i r h1
    injection h with h; simp only [Prod.mk.injEq] at h; obtain ⟨rfl, rfl⟩ := h
    refine wpIn_seq (wpIn_mono (ihC x T s ys pe _ _ _ _ _ h1 ho ι a W hT hY I hf) ?_)
    rintro ex a1 w1 ⟨rfl, hq⟩
    exact ⟨rfl, hq⟩
   ·cases h
  case cond x y z =>
   split at h
   ·rename_i t ht
    have hx : a.eval x = .bool t := Zbw ((ht ▸ hT.opnd x : VR ι (.bool t) (ZaI a x)).bool_inv)
    split at h
    ·exact wpIn_cond_true hx (ihC y T s ys pe e T' s' ys' pe' h ho ι a W hT hY I hf)
    ·exact wpIn_cond_false hx (ihC z T s ys pe e T' s' ys' pe' h ho ι a W hT hY I hf)
   ·cases h
  case block id x =>
   split at h
   ·rename_i i r h1
    cases hb : Nat.beq i id with
    | true =>
     rw [hb] at h
     injection h with h; simp only [Prod.mk.injEq] at h; obtain ⟨rfl, rfl⟩ := h
     refine wpIn_block (wpIn_mono (ihC x T s ys pe _ _ _ _ _ h1 ho ι a W hT hY I hf) ?_)
     rintro ex a1 w1 ⟨rfl, hq⟩
     show if i = id then _ else _
     rw [if_pos (Nat.eq_of_beq_eq_true hb)]
     exact ⟨rfl, hq⟩
    | false =>
     rw [hb] at h
     injection h with h; simp only [Prod.mk.injEq] at h; obtain ⟨rfl, rfl⟩ := h
     refine wpIn_block (wpIn_mono (ihC x T s ys pe _ _ _ _ _ h1 ho ι a W hT hY I hf) ?_)
     rintro ex a1 w1 ⟨rfl, hq⟩
     show if i = id then _ else _
     rw [if_neg (fun e => by rw [Zdk e] at hb; cases hb)]
     exact ⟨rfl, hq⟩
   ·rename_i r h1
    injection h with h; simp only [Prod.mk.injEq] at h; obtain ⟨rfl, rfl⟩ := h
    refine wpIn_block (wpIn_mono (ihC x T s ys pe _ _ _ _ _ h1 ho ι a W hT hY I hf) ?_)
    rintro ex a1 w1 ⟨rfl, hq⟩
    exact ⟨rfl, hq⟩
   ·rename_i r h1
    injection h with h; simp only [Prod.mk.injEq] at h; obtain ⟨rfl, rfl⟩ := h
    refine wpIn_block (wpIn_mono (ihC x T s ys pe _ _ _ _ _ h1 ho ι a W hT hY I hf) ?_)
    rintro ex a1 w1 ⟨rfl, hq⟩
    exact ⟨rfl, hq⟩
   ·cases h
  case loop x => exact wpIn_loop_rounds (fu + 1) (loops x T s ys pe e T' s' ys' pe' h0' ho ι a W hT hY I hf)
  case region id ops draw =>
   split at h
   ·cases h
   ·split at h
    ·rename_i T1 s1 ys1 pe1 h1
     injection h with h; simp only [Prod.mk.injEq] at h; obtain ⟨rfl, rfl, rfl, rfl, rfl⟩ := h
     exact wpIn_region_list (Zen F hR ops.toList T s ys pe T1 s1 ys1 pe1 h1 ho ι a W _ hT hY I hf fun ι' a' W' k1 k2 k3 k4 => ⟨rfl, ι', k1, k2, k3, k4⟩)
    ·cases h
  all_goals cases h
end
def Mk (b : Nat) (m : Bool) (D : List Deferred) (ι : Ren) (w : World) : Prop := match m with
 | false => D = []
 | true => ∃ K, b ≤ K ∧ D = [{ target := .collected K, args := #[] }] ∧ w.heap[K]? = some (.deferred (some [])) ∧ ∀ k b, ι k = some b → b.1 ≠ K
theorem Mk.step {b : Nat} {m : Bool} {D : List Deferred} {ι ι1 : Ren} {h h1 : AH} {w w1 : World} (hm : Mk b m D ι w) (g : Step P ι h w ι1 h1 w1) : Mk b m D ι1 w1 := by
 cases m with
 | false => exact hm
 | true =>
  obtain ⟨K, hb, e, hk, hn⟩ := hm
  obtain ⟨a1, a2⟩ := Zip g (Array.getElem?_eq_some_iff.1 hk).1 hn
  exact ⟨K, hb, e, a2.trans hk, a1⟩
def ZfH (b : Nat) (P : Program) (ι : Ren) (s : St) (w : World) (nt : Nat) (e : Ex) (T' : Tr Value) (s' : St) (m' : Bool) (ex : Exit) (a' : Act) (w' : World) : Prop :=
 ex = e.out ∧ ∃ ι' D', Step P ι s.h.get w ι' s'.h.get w' ∧ Dom ι ι' s.n s'.n ∧ TR ι' nt D' T' a' ∧ Mk b m' D' ι' w'
theorem up_rf (F : Fit P ext) {nt fu : Nat} {g : Operand} {ps : Array Tmp} {asg body : Code} {T : Tr Value} {s s' : St} {e : Ex} (h : ZoS P ext nt fu g ps asg body T s = some (e, s')) : Up s s' := by
 unfold ZoS at h
 split at h
 ·split at h
  ·split at h
   ·obtain ⟨_, h⟩ := Zr h
    split at h
    ·cases h
    ·rename_i h1; injection h with h; injection h with q1 q2; subst q2; exact ZbU F _ _ _ _ _ _ _ _ _ _ _ h1
    ·rename_i h1; obtain ⟨_, h⟩ := ZfD h; injection h with h; injection h with q1 q2; subst q2; exact ZbU F _ _ _ _ _ _ _ _ _ _ _ h1
    ·cases h
   ·cases h
  ·cases h
 ·cases h
theorem ZsU (F : Fit P ext) {nt fu : Nat} {g : Operand} {ps : Array Tmp} {asg body : Code} {T : Tr Value} {s s' : St} {e : Ex} (h : ZoS P ext nt fu g ps asg body T s = some (e, s')) (ho : ∀ p ∈ s'.ob, p.1 = p.2) {b : Nat} {ι : Ren} {a : Act} {w : World} (hbw : b ≤ w.heap.size)
  (hT : TR ι nt [] T a) (he : Emb P ι s.h.get w) (hf : Fresh ι s.n s'.n) : (Code.rangeFunc g ps asg body).wpIn (Fr none) 0 P (ZfH b P ι s w nt e T s' true) a w := by
 unfold ZoS at h
 split at h
 ·rename_i gf av bv hg
  split at h
  ·rename_i fn hfn
   split at h
   ·rename_i c hb
    obtain ⟨hgd, h⟩ := Zr h
    simp only [Bool.and_eq_true] at hgd
    obtain ⟨⟨hgd, hsz⟩, hres⟩ := hgd
    have hsz := Nat.le_of_ble_eq_true hsz
    have hres := Nat.eq_of_beq_eq_true hres
    have key : ∃ e0 T1 ys1 pe, evI P ext fn.ntmps ⟨nt, T, ps, asg, body⟩ fu c (Zbq 0 (av ++ #[Value.chan (some 0)] ++ bv).toList .nil) s [av.size] none = some (e0, T1, s', ys1, pe) ∧ (e0 = .normal ∨ e0 = .ret) ∧ e = (match pe with | none => .normal | some e => e) ∧ (∀ e1, pe = some e1 → isN e1 = false) := by
     split at h
     ·cases h
     ·rename_i e0 T1 s1 ys1 hne h1
      injection h with h; injection h with q1 q2; subst q1 q2
      refine ⟨e0, T1, ys1, none, h1, ?_, rfl, fun e1 he => by cases he⟩
      cases e0 with
      | normal => exact .inl rfl
      | ret => exact .inr rfl
      | exit i => exact (hne i rfl).elim
     ·rename_i e0 T1 s1 ys1 e1 hne h1
      obtain ⟨hn1, h⟩ := ZfD h
      injection h with h; injection h with q1 q2; subst q1 q2
      refine ⟨e0, T1, ys1, some e1, h1, ?_, rfl, fun e2 he => by injection he with he; rw [← he]; exact hn1⟩
      cases e0 with
      | normal => exact .inl rfl
      | ret => exact .inr rfl
      | exit i => exact (hne i rfl).elim
     ·cases h
    obtain ⟨e0, T1, ys1, pe, h1, he0, hepe, hnn⟩ := key
    have hgv : ∃ av' bv', ZaI a g = .func (.func gf) av' bv' ∧ VRs ι av av' ∧ VRs ι bv bv' := by
     have hv := hg ▸ hT.opnd g
     generalize ZaI a g = x' at hv
     cases hv with
     | atom h =>
      simp [Ev.atom] at h
      obtain ⟨rfl, rfl⟩ := h
      exact ⟨_, _, rfl, ⟨rfl, fun i x y hx => by simp at hx⟩, ⟨rfl, fun i x y hx => by simp at hx⟩⟩
     | func hs ht h1 h2 => exact ⟨_, _, rfl, ⟨hs, h1⟩, ⟨ht, h2⟩⟩
    obtain ⟨av', bv', hgv, hav, hbv⟩ := hgv
    have hgv : a.eval g = .func (.func gf) av' bv' := by
     cases g with
     | const v => simp only [ZbP] at hgd; simpa [ZaI, hgd, Act.eval] using hgv
     | _ => exact hgv
    refine wpIn_rangeFunc ?_
    intro fn0 _
    obtain ⟨R, hRd⟩ : ∃ R : Loop, R = { state := .ready, pending := none, fn := fn0, tmps := a.tmps, params := ps, assign := asg, body, defers := w.heap.size } := ⟨_, rfl⟩
    obtain ⟨W1, hW1⟩ : ∃ W1, (w.alloc (.deferred (some []))).alloc (.loop R) = W1 := ⟨_, rfl⟩
    have hL1 : W1.heap[w.heap.size + 1]? = some (.loop (Rp R none)) := by
     rw [show Rp R none = R by rw [hRd]; rfl]
     rw [← hW1]; have := World.alloc_heap_new (w.alloc (.deferred (some []))) (.loop R); rwa [World.size_alloc] at this
    have hK1 : W1.heap[w.heap.size]? = some (.deferred (some [])) := by
     rw [← hW1]; exact (Below.heap_alloc _ _ _ (by simp)).trans (World.alloc_heap_new w _)
    have hb1 : Below w.heap.size w W1 := by
     rw [← hW1]; exact ((Below.refl _ w).alloc (Nat.le_refl _) _).alloc (by simp) _
    have I1 : IS P ι s.h.get w s.n nt T a (w.heap.size + 1) w.heap.size (Rp R none) ι s W1 :=
     ⟨Step.below he hb1, Dom.refl, Nat.le_refl _, ⟨hT.1, rfl, hT.2.2⟩, hL1, hK1, by omega, by omega, fun k b hk => by have := he.lt k b hk; omega⟩
    have hargs : VRs ι (av ++ #[Value.chan (some 0)] ++ bv) (av' ++ #[Value.func (.yield (w.heap.size + 1)) #[] #[]] ++ bv') :=
     Zci (Zci hav ⟨rfl, fun i x y hx hy => by
      cases i with
      | zero => simp at hx hy; rw [← hx, ← hy]; exact .glob rfl
      | succ i => simp at hx⟩) hbv
    refine ⟨w.heap.size + 1, [{ target := .collected w.heap.size, args := #[] }], W1, { target := .fn (.func gf) bv', args := av' ++ #[.func (.yield (w.heap.size + 1)) #[] #[]] }, W1, gf,
     av' ++ #[.func (.yield (w.heap.size + 1)) #[] #[]] ++ bv', W1, ?_, ?_, fun _ _ => trivial, ?_, fun e => (by cases e), ?_⟩
    ·rw [← hW1, hRd]; exact run_enterLoop_outer _ _ _ _ _
    ·simp only [resolve, hgv]
     simp [go_sem, Deferred.ofValue]
    ·simp [invoke, ZaY hfn (F.go gf fn hfn) hb]
    ·refine callsIn_of_wp_marks hfn hb trivial ?_
     refine wpIn_mono ((ZtD (R := R) (cx := ⟨nt, T, ps, asg, body⟩) (ac := a) F ⟨by rw [hRd], by rw [hRd], by rw [hRd], by rw [hRd]⟩ fu).1 c _ s _ none e0 T1 s' ys1 pe h1 ho ι _ W1 (ZbT hargs hsz) ?_ I1 hf) ?_
     ·intro t ht
      rw [List.mem_singleton] at ht
      subst ht
      have hs := hav.1
      rw [Array.getD_eq_getD_getElem?, Array.getElem?_append_left (by simp; omega), Array.getElem?_append_left (by simp; omega), Array.getElem?_append_right (by omega)]
      simp [hs]
     ·rintro ex a2 w2 ⟨rfl, ι2, g1, _, I2, g4⟩
      have hr := run_endLoop (P := P) I2.lo (by cases pe <;> simp [Rp])
      have I3 := I2.put { Rp R pe with state := .exhausted }
      have hr2 : ∃ v', (results fn a2.tmps).run P w2 = .ok v' w2 := by
       have hnil : fn.results.toList = [] := List.eq_nil_of_length_eq_zero hres
       obtain ⟨v', q, _⟩ := Zbb (fn := fn) (v := .tuple #[]) g1 I2.st.emb (by rw [hnil]; rfl)
       exact ⟨v', q⟩
      obtain ⟨v', hrun⟩ := hr2
      have fin : LeavesInM (Fr none) (0 - 1) P fn a2.tmps (rangePost (Fr none) 0 P (w.heap.size + 1) (ZfH b P ι s w nt e T s' true) { a with defers := [{ target := .collected w.heap.size, args := #[] }] ++ a.defers }) a2.defers .returning w2 := by
       rw [g1.2.1]
       refine ⟨v', hrun, _, _, hr, ?_⟩
       have post : ZfH b P ι s w nt e T s' true e.out { a with defers := [{ target := .collected w.heap.size, args := #[] }] ++ a.defers } (w2.putObj (w.heap.size + 1) (.loop { Rp R pe with state := .exhausted })) := by
        refine ⟨rfl, ι2, _, I3.st, I3.dm, ⟨I3.tr.1, rfl, I3.tr.2.2⟩, w.heap.size, hbw, ?_, I3.de, fun k b hk => (I3.nl k b hk).2⟩
        rw [hT.2.1]; rfl
       cases pe with
       | none => rw [hepe] at post ⊢; exact post
       | some e1 =>
        cases e1 with
        | normal => exact absurd (hnn _ rfl) (by simp [isN])
        | ret => rw [hepe] at post ⊢; exact wpIn_ret post
        | exit i => rw [hepe] at post ⊢; exact wpIn_exit post
      rcases he0 with rfl | rfl
      ·exact fin
      ·exact fin
   ·cases h
  ·cases h
 ·cases h
end
end Ev
end Go.Proofs.YtaifklllpehnmaaGreatDoor
/- Functions with a range over a function do what the runner says of them. -/
namespace Go.Proofs.YtaifklllpehnmaaGreatDoor
open Go.RowKit
namespace Ev
section
variable {P : Program} {ext : FuncId → Option Ext}
theorem Zd9 (F : Fit P ext) {nt : Nat} : ∀ (fu : Nat) (c : Code) (T : Tr Value) (s : St) (m : Bool) (e : Ex) (T' : Tr Value) (s' : St) (m' : Bool), evR P ext nt fu c T s m = some (e, T', s', m') → Up s s'
 | 0, _, _, _, _, _, _, _, _, h => by simp [evR] at h
 | fu + 1, c, T, s, m, e, T', s', m', h => by
  have upC := (ZaF (P := P) (ext := ext) (fun f g hg => (F.hp f g hg).up) (fu + 1)).1
  cases c <;> simp only [evR] at h
  case skip => injection h with h; simp only [Prod.mk.injEq] at h; obtain ⟨rfl, rfl, rfl, rfl⟩ := h; exact Up.refl _
  case ret => injection h with h; simp only [Prod.mk.injEq] at h; obtain ⟨rfl, rfl, rfl, rfl⟩ := h; exact Up.refl _
  case exit id => injection h with h; simp only [Prod.mk.injEq] at h; obtain ⟨rfl, rfl, rfl, rfl⟩ := h; exact Up.refl _
  case seq x y =>
   split at h
   ·rename_i T1 s1 m1 h1; exact (Zd9 F fu _ _ _ _ _ _ _ _ h1).trans (Zd9 F fu _ _ _ _ _ _ _ _ h)
   ·rename_i i r h1; injection h with h; simp only [Prod.mk.injEq] at h; obtain ⟨rfl, rfl⟩ := h; exact Zd9 F fu _ _ _ _ _ _ _ _ h1
   ·rename_i r h1; injection h with h; simp only [Prod.mk.injEq] at h; obtain ⟨rfl, rfl⟩ := h; exact Zd9 F fu _ _ _ _ _ _ _ _ h1
   ·cases h
  case cond x y z =>
   split at h
   ·split at h
    ·exact Zd9 F fu _ _ _ _ _ _ _ _ h
    ·exact Zd9 F fu _ _ _ _ _ _ _ _ h
   ·cases h
  case block id x =>
   split at h
   ·rename_i i r h1
    cases hb : Nat.beq i id with
    | true => rw [hb] at h; injection h with h; simp only [Prod.mk.injEq] at h; obtain ⟨rfl, rfl⟩ := h; exact Zd9 F fu _ _ _ _ _ _ _ _ h1
    | false => rw [hb] at h; injection h with h; simp only [Prod.mk.injEq] at h; obtain ⟨rfl, rfl⟩ := h; exact Zd9 F fu _ _ _ _ _ _ _ _ h1
   ·rename_i r h1; injection h with h; simp only [Prod.mk.injEq] at h; obtain ⟨rfl, rfl⟩ := h; exact Zd9 F fu _ _ _ _ _ _ _ _ h1
   ·rename_i r h1; injection h with h; simp only [Prod.mk.injEq] at h; obtain ⟨rfl, rfl⟩ := h; exact Zd9 F fu _ _ _ _ _ _ _ _ h1
   ·cases h
  case rangeFunc g ps asg body =>
   obtain ⟨_, h⟩ := ZfD h
   split at h
   ·rename_i e1 s1 h1
    injection h with h; simp only [Prod.mk.injEq] at h; obtain ⟨rfl, rfl, rfl, rfl⟩ := h
    exact up_rf F h1
   ·cases h
  case region id ops draw =>
   split at h
   ·rename_i e1 T1 s1 h1
    injection h with h; simp only [Prod.mk.injEq] at h; obtain ⟨rfl, rfl, rfl, rfl⟩ := h
    exact upC _ _ _ _ _ _ _ h1
   ·cases h
  case loop x =>
   split at h
   ·rename_i e1 T1 s1 h1
    injection h with h; simp only [Prod.mk.injEq] at h; obtain ⟨rfl, rfl, rfl, rfl⟩ := h
    exact upC _ _ _ _ _ _ _ h1
   ·cases h
  all_goals cases h
theorem ZbV (F : Fit P ext) {nt : Nat} : ∀ (fu : Nat) (c : Code) (T : Tr Value) (s : St) (m : Bool) (e : Ex) (T' : Tr Value) (s' : St) (m' : Bool), evR P ext nt fu c T s m = some (e, T', s', m') → (∀ p ∈ s'.ob, p.1 = p.2) →
  ∀ b ι D a w, b ≤ w.heap.size → TR ι nt D T a → Mk b m D ι w → Emb P ι s.h.get w → Fresh ι s.n s'.n → c.wpIn (Fr none) 0 P (ZfH b P ι s w nt e T' s' m') a w
 | 0, _, _, _, _, _, _, _, _, h => by simp [evR] at h
 | fu + 1, c, T, s, m, e, T', s', m', h => by
  intro ho b ι D a w hbw hT hM he hf
  have code : ∀ {c : Code} {e1 : Ex} {T1 : Tr Value} {s1 : St}, ZY P ext nt (fu + 1) c T s = some (e1, T1, s1) → (∀ p ∈ s1.ob, p.1 = p.2) → Fresh ι s.n s1.n → c.wpIn (Fr none) 0 P (ZfH b P ι s w nt e1 T1 s1 m) a w := fun h1 ho1 hf1 => by
   refine (wpIn_wide (n := 0)).2 (wp_mono ((Zbh F (fu + 1)).1 nt _ T s _ _ _ h1 ho1 ι D a w hT he hf1) ?_)
   rintro ex a1 w1 ⟨rfl, ι1, g1, g2, g3⟩
   exact ⟨rfl, ι1, D, g1, g2, g3, hM.step g1⟩
  have two : ∀ {ι1 : Ren} {s1 : St} {w1 : World}, Step P ι s.h.get w ι1 s1.h.get w1 → Dom ι ι1 s.n s1.n → s.n ≤ s1.n → s1.n ≤ s'.n → ∀ ex a W, ZfH b P ι1 s1 w1 nt e T' s' m' ex a W → ZfH b P ι s w nt e T' s' m' ex a W :=
   fun hS hd h1 h2 ex a W ⟨hx, ι', D', k1, k2, k3, k4⟩ => ⟨hx, ι', D', hS.trans k1, hd.trans k2 h1 h2, k3, k4⟩
  cases c <;> simp only [evR] at h
  case skip => injection h with h; simp only [Prod.mk.injEq] at h; obtain ⟨rfl, rfl, rfl, rfl⟩ := h; exact wpIn_skip ⟨rfl, ι, D, Step.refl he, Dom.refl, hT, hM⟩
  case ret => injection h with h; simp only [Prod.mk.injEq] at h; obtain ⟨rfl, rfl, rfl, rfl⟩ := h; exact wpIn_ret ⟨rfl, ι, D, Step.refl he, Dom.refl, hT, hM⟩
  case exit id => injection h with h; simp only [Prod.mk.injEq] at h; obtain ⟨rfl, rfl, rfl, rfl⟩ := h; exact wpIn_exit ⟨rfl, ι, D, Step.refl he, Dom.refl, hT, hM⟩
  case seq x y =>
   split at h
   ·rename_i T1 s1 m1 h1
    have u1 := Zd9 F fu _ _ _ _ _ _ _ _ h1
    have u2 := Zd9 F fu _ _ _ _ _ _ _ _ h
    refine wpIn_seq (wpIn_mono (ZbV F fu x T s m .normal T1 s1 m1 h1 (ZV u2.ob ho) b ι D a w hbw hT hM he (hf.mono (Nat.le_refl _) u2.n)) ?_)
    rintro ex a1 w1 ⟨rfl, ι1, D1, g1, g2, g3, g4⟩
    exact wpIn_mono (ZbV F fu y T1 s1 m1 e T' s' m' h ho b ι1 D1 a1 w1 (Nat.le_trans hbw g1.size) g3 g4 g1.emb (hf.after g2 u1.n)) (two g1 g2 u1.n u2.n)
   ·rename_i i r h1
    injection h with h; simp only [Prod.mk.injEq] at h; obtain ⟨rfl, rfl⟩ := h
    refine wpIn_seq (wpIn_mono (ZbV F fu x T s m _ _ _ _ h1 ho b ι D a w hbw hT hM he hf) ?_)
    rintro ex a1 w1 ⟨rfl, hq⟩
    exact ⟨rfl, hq⟩
   ·rename_i r h1
    injection h with h; simp only [Prod.mk.injEq] at h; obtain ⟨rfl, rfl⟩ := h
    refine wpIn_seq (wpIn_mono (ZbV F fu x T s m _ _ _ _ h1 ho b ι D a w hbw hT hM he hf) ?_)
    rintro ex a1 w1 ⟨rfl, hq⟩
    exact ⟨rfl, hq⟩
   ·cases h
  case cond x y z =>
   split at h
   ·rename_i t ht
    have hx : a.eval x = .bool t := Zbw ((ht ▸ hT.opnd x : VR ι (.bool t) (ZaI a x)).bool_inv)
    split at h
    ·exact wpIn_cond_true hx (ZbV F fu y T s m e T' s' m' h ho b ι D a w hbw hT hM he hf)
    ·exact wpIn_cond_false hx (ZbV F fu z T s m e T' s' m' h ho b ι D a w hbw hT hM he hf)
   ·cases h
  case block id x =>
   split at h
   ·rename_i i r h1
    cases hb : Nat.beq i id with
    | true =>
     rw [hb] at h
     injection h with h; simp only [Prod.mk.injEq] at h; obtain ⟨rfl, rfl⟩ := h
     refine wpIn_block (wpIn_mono (ZbV F fu x T s m _ _ _ _ h1 ho b ι D a w hbw hT hM he hf) ?_)
     rintro ex a1 w1 ⟨rfl, hq⟩
     show if i = id then _ else _
     rw [if_pos (Nat.eq_of_beq_eq_true hb)]
     exact ⟨rfl, hq⟩
    | false =>
     rw [hb] at h
     injection h with h; simp only [Prod.mk.injEq] at h; obtain ⟨rfl, rfl⟩ := h
     refine wpIn_block (wpIn_mono (ZbV F fu x T s m _ _ _ _ h1 ho b ι D a w hbw hT hM he hf) ?_)
     rintro ex a1 w1 ⟨rfl, hq⟩
     show if i = id then _ else _
     rw [if_neg (fun e => by rw [Zdk e] at hb; cases hb)]
     exact ⟨rfl, hq⟩
   ·rename_i r h1
    injection h with h; simp only [Prod.mk.injEq] at h; obtain ⟨rfl, rfl⟩ := h
    refine wpIn_block (wpIn_mono (ZbV F fu x T s m _ _ _ _ h1 ho b ι D a w hbw hT hM he hf) ?_)
    rintro ex a1 w1 ⟨rfl, hq⟩
    exact ⟨rfl, hq⟩
   ·rename_i r h1
    injection h with h; simp only [Prod.mk.injEq] at h; obtain ⟨rfl, rfl⟩ := h
    refine wpIn_block (wpIn_mono (ZbV F fu x T s m _ _ _ _ h1 ho b ι D a w hbw hT hM he hf) ?_)
    rintro ex a1 w1 ⟨rfl, hq⟩
    exact ⟨rfl, hq⟩
   ·cases h
  case rangeFunc g ps asg body =>
   obtain ⟨hm, h⟩ := ZfD h
   split at h
   ·rename_i e1 s1 h1
    injection h with h; simp only [Prod.mk.injEq] at h; obtain ⟨rfl, rfl, rfl, rfl⟩ := h
    subst hm
    obtain rfl : D = [] := hM
    exact ZsU F h1 ho hbw hT he hf
   ·cases h
  case region id ops draw =>
   split at h
   ·rename_i e1 T1 s1 h1
    injection h with h; simp only [Prod.mk.injEq] at h; obtain ⟨rfl, rfl, rfl, rfl⟩ := h
    exact code h1 ho hf
   ·cases h
  case loop x =>
   split at h
   ·rename_i e1 T1 s1 h1
    injection h with h; simp only [Prod.mk.injEq] at h; obtain ⟨rfl, rfl, rfl, rfl⟩ := h
    exact code h1 ho hf
   ·cases h
  all_goals cases h
theorem Zeo (F : Fit P ext) {fu : Nat} {f : FuncId} {fn : Func} {c : Code} (hfn : P.funcs[f]? = some fn) (hb : fn.body = some c) : Zdm P f (Zd8 P ext fu f) := by
 refine ⟨fun args s v s' h => ?_, fun args s v s' h ho ι w args' ha he hf => .inl ⟨⟨fn, c, hfn, hb⟩, ?_⟩⟩
 ·unfold Zd8 at h
  rw [hfn] at h
  simp only [hb] at h
  replace h := (Zr h).2
  split at h
  ·cases h
  ·rename_i h1
   have u := Zd9 F fu _ _ _ _ _ _ _ _ h1
   split at h
   ·injection h with h; injection h with q1 q2; subst q2; exact u
   ·injection h with h; injection h with q1 q2; subst q2; exact u
   ·cases h
  ·cases h
 ·unfold Zd8 at h
  rw [hfn] at h
  simp only [hb] at h
  obtain ⟨hsz, h⟩ := Zr h
  have hle : args.size ≤ fn.ntmps := Nat.le_of_ble_eq_true hsz
  split at h
  ·cases h
  ·rename_i ex T1 s1 m1 hne h1
   have hs : s' = s1 ∧ (match ZaA P T1 s1 fn.results.toList with | some [v] => some v | some vs => some (.tuple vs.toArray) | none => none) = some v := by
    split at h
    ·rename_i hr; injection h with h; injection h with q1 q2; subst q1 q2; exact ⟨rfl, by first | rw [hr] | rfl⟩
    ·rename_i vs hn hr; injection h with h; injection h with q1 q2; subst q1 q2
     refine ⟨rfl, ?_⟩
     try rw [hr]
     rcases vs with _ | ⟨x, _ | ⟨y, vs⟩⟩
     ·rfl
     ·exact absurd rfl (hn x)
     ·rfl
    ·cases h
   obtain ⟨rfl, hres⟩ := hs
   refine (callsIn_wide (n := 0)).1 (callsIn_of_wp_marks hfn hb trivial (wpIn_mono (ZbV F fu c _ s false ex T1 s' m1 h1 ho w.heap.size ι [] _ w (Nat.le_refl _) (ZbT ha hle) rfl he hf) ?_))
   rintro e2 a2 w2 ⟨rfl, ι2, D2, g1, g2, g3, g4⟩
   have fin : LeavesInM (Fr none) 0 P fn a2.tmps (ZeT P ι s w v s') a2.defers .returning w2 := by
    rw [g3.2.1]
    cases m1 with
    | false =>
     obtain rfl : D2 = [] := g4
     obtain ⟨v', hrun, hv⟩ := Zbb g3 g1.emb hres
     exact ⟨v', hrun, v', ι2, rfl, g1, g2, hv⟩
    | true =>
     obtain ⟨K, hKw, rfl, hk, hn⟩ := g4
     have g1' := g1.put hKw hn (.deferred none)
     obtain ⟨v', hrun, hv⟩ := Zbb g3 g1'.emb hres
     exact ⟨by simp, .inl ⟨K, _, rfl, run_takeDeferred hk, v', hrun, v', ι2, rfl, g1', g2, hv⟩⟩
   cases ex with
   | normal => exact fin
   | ret => exact fin
   | exit i => exact (hne i rfl).elim
  ·cases h
end
end Ev
end Go.Proofs.YtaifklllpehnmaaGreatDoor
/- Functions that panic, and such as recover what is thrown. -/
namespace Go.Proofs.YtaifklllpehnmaaGreatDoor
open Go.RowKit
namespace Ev
noncomputable section
def Zld (P : Program) (ρ : Operand → Value) (o : Oper) (l : List Oper) : Option (Tmp × Value) :=
 match o.op with
 | .makeInterface _ x => match o.dst with
  | some d => match l with
   | o2 :: _ => match o2.op with
    | .panic y => match y with
     | .tmp d' => match o2.guard with
      | none => bif Nat.beq d' d && Zba (ρ x) then match Zdy P (execOp (fun _ => ρ x) o) with
       | some (.value (.iface t u)) => some (d, .iface t u)
       | _ => none
       else none
      | _ => none
     | _ => none
    | _ => none
   | [] => none
  | none => none
 | _ => none
def Zdo (P : Program) (ext : FuncId → Option Ext) (nt : Nat) (call : FuncId → Array Value → St → Option (Value × St)) (fu : Nat) (ops : Array Oper) : List Oper → Tr Value → St → Option (Value × Tr Value × St)
 | [], _, _ => none
 | o :: l, T, s =>
  bif Zb8 nt o.dst && Z4 ZbP o.op.operands.toList then
   match ZbA ops T o s with
   | some (true, s1) => match Zld P (opnd T) o l with
    | some (d, v) => some (v, T.set d (some (.chan (some 0))), s1)
    | none => match Zc5 P ext fu (opnd T) o s1 with
     | some (v, s') => Zdo P ext nt call fu ops l (Zbc T o.dst v) s'
     | none => match Zfr o with
      | some c => match callee (opnd T) c with
       | some (f, args) => match call f args s1 with
        | some (v, s') => some (v, T, s')
        | none => none
       | none => none
      | none => none
   | some (false, s1) => Zdo P ext nt call fu ops l (Zbc T o.dst undef) s1
   | none => none
  else none
def ZaO (P : Program) (ext : FuncId → Option Ext) (nt : Nat) (call : FuncId → Array Value → St → Option (Value × St)) : Nat → Code → Tr Value → St → Option (Value × Tr Value × St)
 | 0, _, _, _ => none
 | fu + 1, c, T, s => match c with
  | .seq a b => match ZY P ext nt fu a T s with
   | some (.normal, T', s') => ZaO P ext nt call fu b T' s'
   | some _ => none
   | none => ZaO P ext nt call fu a T s
  | .cond x a b => match opnd T x with
   | .bool t => match t with
    | true => ZaO P ext nt call fu a T s
    | false => ZaO P ext nt call fu b T s
   | _ => none
  | .block _ a => ZaO P ext nt call fu a T s
  | .loop a => match ZY P ext nt fu a T s with
   | some (.normal, T', s') => ZaO P ext nt call fu (.loop a) T' s'
   | some _ => none
   | none => ZaO P ext nt call fu a T s
  | .region _ ops draw => match draw with
   | true => none
   | false => Zdo P ext nt call fu ops ops.toList T s
  | _ => none
def ZcF (P : Program) (ext : FuncId → Option Ext) : Nat → FuncId → Array Value → St → Option (Value × St)
 | 0, _, _, _ => none
 | fu + 1, f, args, s => match P.funcs[f]? with
  | some fn => match fn.body with
   | some c => bif Nat.ble args.size fn.ntmps then match ZaO P ext fn.ntmps (ZcF P ext fu) fu c (Zbq 0 args.toList .nil) s with
    | some (v, _, s') => some (v, s')
    | none => none
    else none
   | none => none
  | none => none
end
section
variable {P : Program} {ext : FuncId → Option Ext}
def Ze1 (v : Value) : List PanicEntry := [{ v := v, recovered := false }]
def PostX (P : Program) (ι : Ren) (s : St) (w : World) (v : Value) (s' : St) (e : Ending) (w' : World) : Prop :=
 ∃ ι', e = .panicked (Ze1 v) ∧ Step P ι s.h.get w ι' s'.h.get w' ∧ Dom ι ι' s.n s'.n
def ZoU (P : Program) (ι : Ren) (s : St) (w : World) (nt : Nat) (D : List Deferred) (v : Value) (T' : Tr Value) (s' : St) (ex : Exit) (a' : Act) (w' : World) : Prop :=
 ∃ ι', ex = .panic (Ze1 v) ∧ Step P ι s.h.get w ι' s'.h.get w' ∧ Dom ι ι' s.n s'.n ∧ TR ι' nt D T' a'
structure ZfI (P : Program) (call : FuncId → Array Value → St → Option (Value × St)) : Prop where
 up : ∀ f args s v s', call f args s = some (v, s') → Up s s'
 body : ∀ f args s v s', call f args s = some (v, s') → ∃ (fn : Func) (c : Code), P.funcs[f]? = some fn ∧ fn.body = some c
 does : ∀ f args s v s', call f args s = some (v, s') → (∀ p ∈ s'.ob, p.1 = p.2) → ∀ ι w args', VRs ι args args' → Emb P ι s.h.get w → Fresh ι s.n s'.n → Calls P f args' w (PostX P ι s w v s')
theorem Zqh {ι : Ren} {nt : Nat} {D : List Deferred} {T : Tr Value} {a : Act} {w : World} {ops : Array Oper} {o : Oper} {l : List Oper} {d : Tmp} {v : Value} {Q : Exit → Act → World → Prop} (hT : TR ι nt D T a) (hg : Zb8 nt o.dst = true) (hg2 : Z4 ZbP o.op.operands.toList = true) (h : Zld P (opnd T) o l = some (d, v))
  (hQ : TR ι nt D (T.set d (some (.chan (some 0)))) (a.put (some d) v) → Q (.panic (Ze1 v)) (a.put (some d) v) w) : o.wp P a w (wpList P ops Q l) Q := by
 unfold Zld at h
 split at h
 ·rename_i ty x hop
  split at h
  ·rename_i d0 hd
   split at h
   ·rename_i o2 l2
    split at h
    ·rename_i y hop2
     split at h
     ·rename_i d'
      split at h
      ·rename_i hgd
       obtain ⟨hc, h⟩ := Zr h
       simp only [Bool.and_eq_true] at hc
       have hdd := Nat.eq_of_beq_eq_true hc.1
       subst hdd
       split at h
       ·rename_i t u hp
        injection h with h; injection h with q1 q2; subst q1 q2
        have hx : ZaI a x = opnd T x := (hT.opnd x).eq_of_free hc.2
        have hex : execOp (ZaI a) o = execOp (fun _ => opnd T x) o := by simp only [execOp, hop, hx]
        unfold Oper.wp
        rw [← ZbH (fun cs b e => by rw [hop] at e; cases e) hg2, hex, Zc6 w hp, Oper.upon_value, hd]
        have hT' : TR ι nt D (T.set d' (some (.chan (some 0)))) (a.put (some d') (.iface t u)) := by
         rw [hd] at hg
         exact hT.put (dst := some d') hg (.glob rfl)
        unfold wpList
        rw [if_pos (by simp [Region.wanted, hgd])]
        refine .inl ?_
        unfold Oper.wp
        have hlt : d' < a.tmps.size := by
         rw [hd] at hg
         rw [hT.1]
         simpa [Zb8, Nat.blt_eq] using hg
        have hrun : (execOp (a.put (some d') (.iface t u)).eval o2).run P w = .halt (.panic (.iface t u)) w := by
         simp only [execOp, hop2, Act.eval, Act.put]
         rw [show (a.tmps.setIfInBounds d' (Value.iface t u)).getD d' undef = .iface t u from by simp [Array.getD, hlt]]
         rfl
        rw [hrun, Oper.upon_panic]
        exact hQ hT'
       ·cases h
      ·cases h
     ·cases h
    ·cases h
   ·cases h
  ·cases h
 ·cases h
theorem ZgT (F : Fit P ext) {call : FuncId → Array Value → St → Option (Value × St)} (C : ZfI P call) {nt fu : Nat} {ops : Array Oper} : ∀ (l : List Oper) (T : Tr Value) (s : St) (v : Value) (T' : Tr Value) (s' : St), Zdo P ext nt call fu ops l T s = some (v, T', s') → Up s s'
 | [], T, s, v, T', s', h => by simp [Zdo] at h
 | o :: l, T, s, v, T', s', h => by
  simp only [Zdo] at h
  replace h := (Zr h).2
  have uP := (ZaF (P := P) (ext := ext) (fun f g hg => (F.hp f g hg).up) fu).2.2.1
  split at h
  ·split at h
   ·injection h with h; simp only [Prod.mk.injEq] at h; obtain ⟨_, _, rfl⟩ := h; exact Za0 (by assumption)
   ·split at h
    ·exact (Za0 (by assumption)).trans ((uP _ _ _ _ _ (by assumption)).trans (ZgT F C l _ _ _ _ _ h))
    ·split at h
     ·split at h
      ·split at h
       ·injection h with h; simp only [Prod.mk.injEq] at h; obtain ⟨_, _, rfl⟩ := h
        exact (Za0 (by assumption)).trans (C.up _ _ _ _ _ (by assumption))
       ·cases h
      ·cases h
     ·cases h
  ·exact (Za0 (by assumption)).trans (ZgT F C l _ _ _ _ _ h)
  ·cases h
theorem Zed (F : Fit P ext) {call : FuncId → Array Value → St → Option (Value × St)} (C : ZfI P call) {nt : Nat} : ∀ (fu : Nat) (c : Code) (T : Tr Value) (s : St) (v : Value) (T' : Tr Value) (s' : St), ZaO P ext nt call fu c T s = some (v, T', s') → Up s s'
 | 0, _, _, _, _, _, _, h => by simp [ZaO] at h
 | fu + 1, c, T, s, v, T', s', h => by
  have uC := (ZaF (P := P) (ext := ext) (fun f g hg => (F.hp f g hg).up) fu).1
  cases c <;> simp only [ZaO] at h
  case seq a b =>
   split at h
   ·exact (uC _ _ _ _ _ _ _ (by assumption)).trans (Zed F C fu _ _ _ _ _ _ h)
   ·cases h
   ·exact Zed F C fu _ _ _ _ _ _ h
  case cond x a b =>
   split at h
   ·split at h
    ·exact Zed F C fu _ _ _ _ _ _ h
    ·exact Zed F C fu _ _ _ _ _ _ h
   ·cases h
  case block id a => exact Zed F C fu _ _ _ _ _ _ h
  case loop a =>
   split at h
   ·exact (uC _ _ _ _ _ _ _ (by assumption)).trans (Zed F C fu _ _ _ _ _ _ h)
   ·cases h
   ·exact Zed F C fu _ _ _ _ _ _ h
  case region id ops draw =>
   split at h
   ·cases h
   ·exact ZgT F C _ _ _ _ _ _ h
  all_goals cases h
theorem ZfJ (F : Fit P ext) {call : FuncId → Array Value → St → Option (Value × St)} (C : ZfI P call) {nt fu : Nat} {ops : Array Oper} : ∀ (l : List Oper) (T : Tr Value) (s : St) (v : Value) (T' : Tr Value) (s' : St), Zdo P ext nt call fu ops l T s = some (v, T', s') → (∀ p ∈ s'.ob, p.1 = p.2) →
  ∀ ι D a w (Q : Exit → Act → World → Prop), TR ι nt D T a → Emb P ι s.h.get w → Fresh ι s.n s'.n → (∀ ι' a' w', Step P ι s.h.get w ι' s'.h.get w' → Dom ι ι' s.n s'.n → TR ι' nt D T' a' → Q (.panic (Ze1 v)) a' w') → wpList P ops Q l a w
 | [], T, s, v, T', s', h => by simp [Zdo] at h
 | o :: l, T, s, v, T', s', h => by
  intro ho ι D a w Q hT he hf hQ
  simp only [Zdo] at h
  obtain ⟨hg, h⟩ := Zr h
  simp only [Bool.and_eq_true] at hg
  split at h
  ·rename_i s1 hw
   have u1 := Za0 hw
   obtain ⟨hwant, e2, e3⟩ := ZaR (fun t _ => hT.2.2 t) hw
   unfold wpList
   rw [if_pos hwant]
   split at h
   ·rename_i d v0 ht
    injection h with h; simp only [Prod.mk.injEq] at h; obtain ⟨rfl, rfl, rfl⟩ := h
    exact .inl (Zqh hT hg.1 hg.2 ht fun hT' => hQ ι _ w (by rw [e2]; exact Step.refl he) (by rw [e3]; exact Dom.refl) (by first | exact hT' | (simp only [Act.put] at hT' ⊢; exact hT')))
   ·split at h
    ·rename_i v1 s2 hv
     have ua := ZaF (P := P) (ext := ext) (fun f g hg => (F.hp f g hg).up) fu
     have u2 := ua.2.2.1 _ _ _ _ _ hv
     have u3 := ZgT F C _ _ _ _ _ _ h
     refine .inl ((Zbh F fu).2.2.1 (opnd T) (ZaI a) o s1 v1 s2 hv (ZV u3.ob ho) ι w hT.opnd (e2 ▸ he) (e3 ▸ (hf.mono (Nat.le_refl _) u3.n)) a _ _ (ZbH (Zd4 hv) hg.2).symm fun v' w' ι' g1 g2 g3 => ?_)
     rw [e2] at g1
     rw [e3] at g2
     have hle : s.n ≤ s2.n := by rw [← e3]; exact u2.n
     exact ZfJ F C l (Zbc T o.dst v1) s2 v T' s' h ho ι' D _ w' Q ((hT.on g1.ext).put hg.1 g3) g1.emb (hf.after g2 hle) fun ι2 a2 w2 k1 k2 k3 => hQ ι2 a2 w2 (g1.trans k1) (g2.trans k2 hle u3.n) k3
    ·split at h
     ·rename_i c hc
      obtain ⟨hop, _⟩ := Zia hc
      split at h
      ·rename_i f args hcal
       split at h
       ·rename_i v1 s2 hcall
        injection h with h; simp only [Prod.mk.injEq] at h; obtain ⟨rfl, rfl, rfl⟩ := h
        obtain ⟨args', hrun, hargs⟩ := Zg3 (P := P) hT.opnd hop hcal w
        rw [ZbH (fun cs b e => by rw [hop] at e; cases e) hg.2] at hrun
        obtain ⟨fn, c', hfn, hb⟩ := C.body _ _ _ _ _ hcall
        refine .inl ?_
        unfold Oper.wp
        rw [hrun, ZaY hfn (F.go f fn hfn) hb, Oper.upon_enter]
        refine (C.does _ _ _ _ _ hcall ho ι w args' hargs (e2 ▸ he) (e3 ▸ hf)).mono ?_
        rintro e w2 ⟨ι2, rfl, k1, k2⟩
        exact hQ ι2 _ w2 (e2 ▸ k1) (e3 ▸ k2) (hT.on k1.ext)
       ·cases h
      ·cases h
     ·cases h
  ·rename_i s1 hw
   have u1 := Za0 hw
   obtain ⟨hwant, e2, e3⟩ := ZaR (fun t _ => hT.2.2 t) hw
   unfold wpList
   rw [if_neg (by rw [hwant]; simp)]
   exact ZfJ F C l (Zbc T o.dst undef) s1 v T' s' h ho ι D _ w Q (hT.put hg.1 VR.undef') (e2 ▸ he) (e3 ▸ hf) fun ι2 a2 w2 k1 k2 k3 => hQ ι2 a2 w2 (e2 ▸ k1) (e3 ▸ k2) k3
  ·cases h
theorem ZoV (F : Fit P ext) {call : FuncId → Array Value → St → Option (Value × St)} (C : ZfI P call) {nt : Nat} : ∀ (fu : Nat),
  (∀ (c : Code) (T : Tr Value) (s : St) (v : Value) (T' : Tr Value) (s' : St), ZaO P ext nt call fu c T s = some (v, T', s') → (∀ p ∈ s'.ob, p.1 = p.2) →
   ∀ ι D a w, TR ι nt D T a → Emb P ι s.h.get w → Fresh ι s.n s'.n → c.wp P (ZoU P ι s w nt D v T' s') a w) ∧
  (∀ (c : Code) (T : Tr Value) (s : St) (v : Value) (T' : Tr Value) (s' : St), ZaO P ext nt call fu (.loop c) T s = some (v, T', s') → (∀ p ∈ s'.ob, p.1 = p.2) →
   ∀ ι D a w, TR ι nt D T a → Emb P ι s.h.get w → Fresh ι s.n s'.n → Code.rounds P c (ZoU P ι s w nt D v T' s') fu a w) := by
 intro fu
 induction fu with
 | zero => exact ⟨fun _ _ _ _ _ _ h => by simp [ZaO] at h, fun _ _ _ _ _ _ h => by simp [ZaO] at h⟩
 | succ fu ih =>
  obtain ⟨ihC, ihL⟩ := ih
  have uC := (ZaF (P := P) (ext := ext) (fun f g hg => (F.hp f g hg).up) fu).1
  have sC := (Zbh F fu).1
  have loops : ∀ (c : Code) (T : Tr Value) (s : St) (v : Value) (T' : Tr Value) (s' : St), ZaO P ext nt call (fu + 1) (.loop c) T s = some (v, T', s') → (∀ p ∈ s'.ob, p.1 = p.2) →
    ∀ ι D a w, TR ι nt D T a → Emb P ι s.h.get w → Fresh ι s.n s'.n → Code.rounds P c (ZoU P ι s w nt D v T' s') (fu + 1) a w := by
   intro x T s v T' s' h ho ι D a w hT he hf
   simp only [ZaO] at h
   rw [rounds_succ]
   split at h
   ·rename_i T1 s1 h1
    have u1 := uC _ _ _ _ _ _ _ h1
    have u2 := Zed F C fu _ _ _ _ _ _ h
    refine wp_mono (sC nt x T s .normal T1 s1 h1 (ZV u2.ob ho) ι D a w hT he (hf.mono (Nat.le_refl _) u2.n)) ?_
    rintro ex a1 w1 ⟨rfl, ι1, g1, g2, g3⟩
    refine Zff ?_ fu a1 w1 (ihL x T1 s1 v T' s' h ho ι1 D a1 w1 g3 g1.emb (hf.after g2 u1.n))
    rintro ex a2 w2 ⟨ι2, rfl, k1, k2, k3⟩
    exact ⟨ι2, rfl, g1.trans k1, g2.trans k2 u1.n u2.n, k3⟩
   ·cases h
   ·refine wp_mono (ihC x T s v T' s' h ho ι D a w hT he hf) ?_
    rintro ex a1 w1 ⟨ι1, rfl, g⟩
    exact ⟨ι1, rfl, g⟩
  refine ⟨fun c T s v T' s' h ho ι D a w hT he hf => ?_, loops⟩
  have h0 := h
  cases c <;> simp only [ZaO] at h
  case seq x y =>
   split at h
   ·rename_i T1 s1 h1
    have u1 := uC _ _ _ _ _ _ _ h1
    have u2 := Zed F C fu _ _ _ _ _ _ h
    refine wp_seq (wp_mono (sC nt x T s .normal T1 s1 h1 (ZV u2.ob ho) ι D a w hT he (hf.mono (Nat.le_refl _) u2.n)) ?_)
    rintro ex a1 w1 ⟨rfl, ι1, g1, g2, g3⟩
    refine wp_mono (ihC y T1 s1 v T' s' h ho ι1 D a1 w1 g3 g1.emb (hf.after g2 u1.n)) ?_
    rintro ex a2 w2 ⟨ι2, rfl, k1, k2, k3⟩
    exact ⟨ι2, rfl, g1.trans k1, g2.trans k2 u1.n u2.n, k3⟩
   ·cases h
   ·refine wp_seq (wp_mono (ihC x T s v T' s' h ho ι D a w hT he hf) ?_)
    rintro ex a1 w1 ⟨ι1, rfl, g⟩
    exact ⟨ι1, rfl, g⟩
  case cond x y z =>
   split at h
   ·rename_i t ht
    have hx : a.eval x = .bool t := Zbw ((ht ▸ hT.opnd x : VR ι (.bool t) (ZaI a x)).bool_inv)
    split at h
    ·exact wp_cond_true hx (ihC y T s v T' s' h ho ι D a w hT he hf)
    ·exact wp_cond_false hx (ihC z T s v T' s' h ho ι D a w hT he hf)
   ·cases h
  case block id x =>
   refine wp_block (wp_mono (ihC x T s v T' s' h ho ι D a w hT he hf) ?_)
   rintro ex a1 w1 ⟨ι1, rfl, g⟩
   exact ⟨ι1, rfl, g⟩
  case loop x => exact wp_loop_rounds (fu + 1) (loops x T s v T' s' h0 ho ι D a w hT he hf)
  case region id ops draw =>
   split at h
   ·cases h
   ·exact wp_region_list (ZfJ F C _ T s v T' s' h ho ι D a w _ hT he hf fun ι' a' w' g1 g2 g3 => ⟨ι', rfl, g1, g2, g3⟩)
  all_goals cases h
theorem Zoj (F : Fit P ext) : ∀ fu : Nat, ZfI P (ZcF P ext fu)
 | 0 => ⟨fun _ _ _ _ _ h => by simp [ZcF] at h, fun _ _ _ _ _ h => by simp [ZcF] at h, fun _ _ _ _ _ h => by simp [ZcF] at h⟩
 | fu + 1 => by
  have C := Zoj F fu
  refine ⟨fun f args s v s' h => ?_, fun f args s v s' h => ?_, fun f args s v s' h ho ι w args' ha he hf => ?_⟩
  ·simp only [ZcF] at h
   split at h
   ·split at h
    ·replace h := (Zr h).2
     split at h
     ·injection h with h; injection h with q1 q2; subst q1 q2; exact Zed F C _ _ _ _ _ _ _ (by assumption)
     ·cases h
    ·cases h
   ·cases h
  ·simp only [ZcF] at h
   split at h
   ·rename_i fn hfn
    split at h
    ·rename_i c hb
     exact ⟨fn, c, hfn, hb⟩
    ·cases h
   ·cases h
  ·simp only [ZcF] at h
   split at h
   ·rename_i fn hfn
    split at h
    ·rename_i c hb
     obtain ⟨hsz, h⟩ := Zr h
     have hle : args.size ≤ fn.ntmps := Nat.le_of_ble_eq_true hsz
     split at h
     ·rename_i v1 T1 s1 h1
      injection h with h; injection h with q1 q2; subst q1 q2
      refine calls_of_wp hfn hb (wp_mono ((ZoV F C fu).1 c _ s _ T1 _ h1 ho ι [] _ w (ZbT ha hle) he hf) ?_)
      rintro ex a1 w1 ⟨ι1, rfl, g1, g2, g3⟩
      exact ⟨g3.2.1, ι1, rfl, g1, g2⟩
     ·cases h
    ·cases h
   ·cases h
end
end Ev
end Go.Proofs.YtaifklllpehnmaaGreatDoor
/- Functions that recover what is thrown. -/
namespace Go.Proofs.YtaifklllpehnmaaGreatDoor
open Go.RowKit
namespace Ev
noncomputable section
def ZfK (P : Program) (ext : FuncId → Option Ext) (nt : Nat) (call : FuncId → Array Value → St → Option (Value × St)) : Nat → Code → Tr Value → St → List (FuncId × Array Value) → Option (Value × Tr Value × St × List (FuncId × Array Value))
 | 0, _, _, _, _ => none
 | fu + 1, c, T, s, ds => match c with
  | .seq a b => match evD P ext nt fu a T s ds with
   | some (false, T', s', ds') => ZfK P ext nt call fu b T' s' ds'
   | some (true, _) => none
   | none => ZfK P ext nt call fu a T s ds
  | .region id ops draw => match ZaO P ext nt call fu (.region id ops draw) T s with
   | some (v, T', s') => some (v, T', s', ds)
   | none => none
  | .cond x a b => match ZaO P ext nt call fu (.cond x a b) T s with
   | some (v, T', s') => some (v, T', s', ds)
   | none => none
  | _ => none
abbrev ZaV := Option (Value × Bool)
def ZeX (M : ZaV) : Value := match M with | some (v, false) => v | _ => .nilIface
def Zrp (M : ZaV) : ZaV := match M with | some (v, false) => some (v, true) | M => M
def ZgU (M : ZaV) : ZaV := match M with | some (_, true) => none | M => M
def Zrq (P : Program) (o : Oper) : Bool :=
 match o.op with
 | .call _ => match o.op.operands.toList with
  | [] => match Zdy P (execOp (fun _ => undef) o) with
   | some .recover => true
   | _ => false
  | _ => false
 | _ => false
def Zrr : Value → Bool
 | .iface _ _ => true
 | .nilIface => true
 | _ => false
def ZsV (P : Program) (nt : Nat) (o : Oper) (d : Tmp) (w : Value) : Option (Tmp × Value) :=
 match o.op with
 | .typeAssert x _ _ _ => match x with
  | .tmp d' => match o.guard with
   | none => match o.dst with
    | some d2 => bif Nat.beq d' d && Nat.blt d2 nt && Zrr w then match Zdy P (execOp (fun _ => w) o) with
     | some (.value r) => bif Zba r then some (d2, r) else none
     | _ => none
     else none
    | none => none
   | some _ => none
  | _ => none
 | _ => none
def evDefOps (P : Program) (ext : FuncId → Option Ext) (nt fu : Nat) (ops : Array Oper) : List Oper → Tr Value → St → ZaV → Option (Tr Value × St × ZaV)
 | [], T, s, M => some (T, s, M)
 | o :: l, T, s, M =>
  bif Zb8 nt o.dst && Z4 ZbP o.op.operands.toList then
   match ZbA ops T o s with
   | some (true, s1) => match Zrq P o with
    | true => match o.dst with
     | some d => match l with
      | o2 :: l2 => match ZsV P nt o2 d (ZeX M) with
       | some (d2, r) => evDefOps P ext nt fu ops l2 ((T.set d (some (.chan (some 0)))).set d2 (some r)) s1 (Zrp M)
       | none => none
      | [] => none
     | none => none
    | false => match Zc5 P ext fu (opnd T) o s1 with
     | some (v, s') => evDefOps P ext nt fu ops l (Zbc T o.dst v) s' M
     | none => none
   | some (false, s1) => evDefOps P ext nt fu ops l (Zbc T o.dst undef) s1 M
   | none => none
  else none
def Zdp (P : Program) (ext : FuncId → Option Ext) (nt : Nat) : Nat → Code → Tr Value → St → ZaV → Option (Tr Value × St × ZaV)
 | 0, _, _, _, _ => none
 | fu + 1, c, T, s, M => match c with
  | .seq a b => match Zdp P ext nt fu a T s M with
   | some (T', s', M') => Zdp P ext nt fu b T' s' M'
   | none => none
  | .cond x a b => match opnd T x with
   | .bool t => match t with
    | true => Zdp P ext nt fu a T s M
    | false => Zdp P ext nt fu b T s M
   | _ => none
  | .region id ops draw => match draw with
   | true => match ZY P ext nt fu (.region id ops true) T s with
    | some (.normal, T', s') => some (T', s', M)
    | _ => none
   | false => evDefOps P ext nt fu ops ops.toList T s M
  | .skip => some (T, s, M)
  | _ => none
def Zck (P : Program) (ext : FuncId → Option Ext) (fu : Nat) : List (FuncId × Array Value) → St → ZaV → Option (St × ZaV)
 | [], s, M => some (s, M)
 | d :: ds, s, M => match P.funcs[d.1]? with
  | some fn => match fn.body with
   | some c => bif Nat.ble d.2.size fn.ntmps then match Zdp P ext fn.ntmps fu c (Zbq 0 d.2.toList .nil) s M with
    | some (T, s', M') => match (match ZaA P T s' fn.results.toList with | some [v] => some v | some vs => some (.tuple vs.toArray) | none => none) with
     | some _ => Zck P ext fu ds s' (ZgU M')
     | none => none
    | none => none
    else none
   | none => none
  | none => none
def Zf0 (P : Program) (ext : FuncId → Option Ext) (fu : Nat) (fn : Func) (T : Tr Value) (s : St) (ds : List (FuncId × Array Value)) (M : ZaV) : Out :=
 match Zck P ext fu ds s M with
 | some (s2, none) => match (match ZaA P T s2 fn.results.toList with | some [v] => some v | some vs => some (.tuple vs.toArray) | none => none) with
  | some v => some (v, s2)
  | none => none
 | _ => none
def ZgV (P : Program) (ext : FuncId → Option Ext) (fu : Nat) (f : FuncId) (args : Array Value) (s : St) : Out :=
 match P.funcs[f]? with
 | some fn => match fn.body with
  | some c => bif Nat.ble args.size fn.ntmps then match evD P ext fn.ntmps fu c (Zbq 0 args.toList .nil) s [] with
   | some (_, T, s1, ds) => Zf0 P ext fu fn T s1 ds none
   | none => match ZfK P ext fn.ntmps (ZcF P ext fu) fu c (Zbq 0 args.toList .nil) s [] with
    | some (v, T, s1, ds) => Zf0 P ext fu fn T s1 ds (some (v, false))
    | none => none
   else none
  | none => none
 | none => none
end
section
variable {P : Program} {ext : FuncId → Option Ext}
theorem Zkp (F : Fit P ext) {call : FuncId → Array Value → St → Option (Value × St)} (C : ZfI P call) {nt : Nat} : ∀ (fu : Nat) (c : Code) (T : Tr Value) (s : St) (ds : List (FuncId × Array Value)) (v : Value) (T' : Tr Value) (s' : St) (ds' : List (FuncId × Array Value)), ZfK P ext nt call fu c T s ds = some (v, T', s', ds') → Up s s'
 | 0, _, _, _, _, _, _, _, _, h => by simp [ZfK] at h
 | fu + 1, c, T, s, ds, v, T', s', ds', h => by
  cases c <;> simp only [ZfK] at h
  case seq a b =>
   split at h
   ·exact (Zd5 F fu _ _ _ _ _ _ _ _ (by assumption)).trans (Zkp F C fu _ _ _ _ _ _ _ _ h)
   ·cases h
   ·exact Zkp F C fu _ _ _ _ _ _ _ _ h
  case region id ops draw =>
   split at h
   ·injection h with h; simp only [Prod.mk.injEq] at h; obtain ⟨_, _, rfl, _⟩ := h; exact Zed F C _ _ _ _ _ _ _ (by assumption)
   ·cases h
  case cond x a b =>
   split at h
   ·injection h with h; simp only [Prod.mk.injEq] at h; obtain ⟨_, _, rfl, _⟩ := h; exact Zed F C _ _ _ _ _ _ _ (by assumption)
   ·cases h
  all_goals cases h
def ZtW (P : Program) (ι : Ren) (s : St) (w : World) (nt : Nat) (v : Value) (T' : Tr Value) (s' : St) (ds' : List (FuncId × Array Value)) (ex : Exit) (a' : Act) (w' : World) : Prop :=
 ex = .panic (Ze1 v) ∧ ∃ ι' D', Step P ι s.h.get w ι' s'.h.get w' ∧ Dom ι ι' s.n s'.n ∧ TR ι' nt D' T' a' ∧ DR ι' ds' D'
theorem Ziq (F : Fit P ext) {call : FuncId → Array Value → St → Option (Value × St)} (C : ZfI P call) {nt : Nat} : ∀ (fu : Nat) (c : Code) (T : Tr Value) (s : St) (ds : List (FuncId × Array Value)) (v : Value) (T' : Tr Value) (s' : St) (ds' : List (FuncId × Array Value)), ZfK P ext nt call fu c T s ds = some (v, T', s', ds') → (∀ p ∈ s'.ob, p.1 = p.2) →
  ∀ ι D a w, TR ι nt D T a → DR ι ds D → Emb P ι s.h.get w → Fresh ι s.n s'.n → c.wp P (ZtW P ι s w nt v T' s' ds') a w
 | 0, _, _, _, _, _, _, _, _, h => by simp [ZfK] at h
 | fu + 1, c, T, s, ds, v, T', s', ds', h => by
  intro ho ι D a w hT hD he hf
  cases c <;> simp only [ZfK] at h
  case seq x y =>
   split at h
   ·rename_i T1 s1 ds1 h1
    have u1 := Zd5 F fu _ _ _ _ _ _ _ _ h1
    have u2 := Zkp F C fu _ _ _ _ _ _ _ _ h
    refine wp_seq (wp_mono (Zdd F fu x T s ds _ T1 s1 ds1 h1 (ZV u2.ob ho) ι D a w hT hD he (hf.mono (Nat.le_refl _) u2.n)) ?_)
    rintro ex a1 w1 ⟨rfl, ι1, D1, g1, g2, g3, g4⟩
    refine wp_mono (Ziq F C fu y T1 s1 ds1 v T' s' ds' h ho ι1 D1 a1 w1 g3 g4 g1.emb (hf.after g2 u1.n)) ?_
    rintro ex a2 w2 ⟨rfl, ι2, D2, k1, k2, k3, k4⟩
    exact ⟨rfl, ι2, D2, g1.trans k1, g2.trans k2 u1.n u2.n, k3, k4⟩
   ·cases h
   ·refine wp_seq (wp_mono (Ziq F C fu x T s ds v T' s' ds' h ho ι D a w hT hD he hf) ?_)
    rintro ex a1 w1 ⟨rfl, g⟩
    exact ⟨rfl, g⟩
  case region id ops draw =>
   split at h
   ·rename_i v1 T1 s1 h1
    injection h with h; simp only [Prod.mk.injEq] at h; obtain ⟨rfl, rfl, rfl, rfl⟩ := h
    refine wp_mono ((ZoV F C fu).1 _ T s _ _ _ h1 ho ι D a w hT he hf) ?_
    rintro ex a1 w1 ⟨ι1, rfl, g1, g2, g3⟩
    exact ⟨rfl, ι1, D, g1, g2, g3, hD.on g1.ext⟩
   ·cases h
  case cond x y z =>
   split at h
   ·rename_i v1 T1 s1 h1
    injection h with h; simp only [Prod.mk.injEq] at h; obtain ⟨rfl, rfl, rfl, rfl⟩ := h
    refine wp_mono ((ZoV F C fu).1 _ T s _ _ _ h1 ho ι D a w hT he hf) ?_
    rintro ex a1 w1 ⟨ι1, rfl, g1, g2, g3⟩
    exact ⟨rfl, ι1, D, g1, g2, g3, hD.on g1.ext⟩
   ·cases h
  all_goals cases h
def MR (M : ZaV) (u : FrameMode) : Prop :=
 match M with
 | none => u = .returning
 | some (v, b) => u = .panicking [{ v := v, recovered := b }]
theorem MR.settle {M : ZaV} {u : FrameMode} (h : MR M u) : MR (ZgU M) (settle u) := by
 cases M with
 | none => cases h; rfl
 | some p =>
  obtain ⟨v, b⟩ := p
  cases h
  cases b <;> rfl
theorem MR.norun {M : ZaV} {u : FrameMode} (h : MR M u) : u ≠ .run := by
 cases M with
 | none => cases h; simp
 | some p => obtain ⟨v, b⟩ := p; cases h; simp
theorem MR.recover {M : ZaV} {u : FrameMode} (h : MR M u) (c : Frame) (cs : List Frame) :
  ∃ u', MR (Zrp M) u' ∧ ((recoverD ({ c with mode := u } :: cs) = some (ZeX M, { c with mode := u' } :: cs)) ∨ (recoverD ({ c with mode := u } :: cs) = none ∧ ZeX M = .nilIface ∧ u' = u)) := by
 cases M with
 | none => cases h; exact ⟨_, rfl, .inr ⟨rfl, rfl, rfl⟩⟩
 | some p =>
  obtain ⟨v, b⟩ := p
  cases h
  cases b with
  | true => exact ⟨_, rfl, .inr ⟨rfl, rfl, rfl⟩⟩
  | false => exact ⟨_, rfl, .inl rfl⟩
theorem ZtE {ρ : Operand → Value} {o : Oper} (h : Zrq P o = true) (w : World) : (execOp ρ o).run P w = .ok .recover w := by
 unfold Zrq at h
 split at h
 ·rename_i c hop
  split at h
  ·rename_i hl
   split at h
   ·rename_i hp
    have : execOp ρ o = execOp (fun _ => undef) o := execOp_congr o (fun cs b e => by rw [hop] at e; cases e) fun x hx => by
     have hx' : x ∈ o.op.operands.toList := by simpa using hx
     rw [hl] at hx'
     cases hx'
    rw [this]
    exact Zc6 w hp
   ·cases h
  ·cases h
 ·cases h
theorem Zsc {x : Value} (h : Zrr x = true) : x.oneCell' = true := by
 cases x <;> simp [Zrr] at h <;> rfl
theorem ZtX {nt : Nat} {o : Oper} {d d2 : Tmp} {x r : Value} {ρ : Operand → Value} (h : ZsV P nt o d x = some (d2, r)) (hd : ρ (.tmp d) = x) (w : World) :
  o.guard = none ∧ o.dst = some d2 ∧ d2 < nt ∧ Zba r = true ∧ (execOp ρ o).run P w = .ok (.value r) w ∧ Zrr x = true := by
 unfold ZsV at h
 split at h
 ·rename_i y xt ty ok hop
  split at h
  ·rename_i d'
   split at h
   ·rename_i hg
    split at h
    ·rename_i d3 hd3
     replace h := Zr h
     obtain ⟨hc, h⟩ := h
     simp only [Bool.and_eq_true] at hc
     have hdd := Nat.eq_of_beq_eq_true hc.1.1
     subst hdd
     split at h
     ·rename_i r' hp
      replace h := Zr h
      obtain ⟨hfr, h⟩ := h
      injection h with h; injection h with q1 q2; subst q1 q2
      refine ⟨hg, hd3, by simpa [Nat.blt_eq] using hc.1.2, hfr, ?_, hc.2⟩
      have : execOp ρ o = execOp (fun _ => x) o := by simp only [execOp, hop, hd]
      rw [this]
      exact Zc6 w hp
     ·cases h
    ·cases h
   ·cases h
  ·cases h
 ·cases h
theorem ZdR (F : Fit P ext) {nt fu : Nat} {ops : Array Oper} : ∀ (n : Nat) (l : List Oper) (T : Tr Value) (s : St) (M : ZaV) (T' : Tr Value) (s' : St) (M' : ZaV), l.length ≤ n → evDefOps P ext nt fu ops l T s M = some (T', s', M') → Up s s'
 | _, [], T, s, M, T', s', M', _, h => by simp only [evDefOps] at h; injection h with h; simp only [Prod.mk.injEq] at h; obtain ⟨_, rfl, _⟩ := h; exact Up.refl _
 | 0, _ :: _, T, s, M, T', s', M', hn, h => by simp at hn
 | n + 1, o :: l, T, s, M, T', s', M', hn, h => by
  have uP := (ZaF (P := P) (ext := ext) (fun f g hg => (F.hp f g hg).up) fu).2.2.1
  have hn' : l.length ≤ n := by simpa using hn
  rw [evDefOps.eq_def] at h
  simp only at h
  replace h := (Zr h).2
  split at h
  ·split at h
   ·split at h
    ·split at h
     ·rename_i o2 l2
      split at h
      ·exact (Za0 (by assumption)).trans (ZdR F n l2 _ _ _ _ _ _ (by simp at hn'; omega) h)
      ·cases h
     ·cases h
    ·cases h
   ·split at h
    ·exact (Za0 (by assumption)).trans ((uP _ _ _ _ _ (by assumption)).trans (ZdR F n l _ _ _ _ _ _ hn' h))
    ·cases h
  ·exact (Za0 (by assumption)).trans (ZdR F n l _ _ _ _ _ _ hn' h)
  ·cases h
theorem Zir {c : Code} {Q Q' : Exit → Act → List Frame → World → Prop} {a : Act} {cs : List Frame} {w : World} (h : c.wpS P Q a cs w) (hq : ∀ e a cs w, Q e a cs w → Q' e a cs w) : c.wpS P Q' a cs w :=
 fun b k hb hr => let ⟨e, a', cs', w', q, r⟩ := h b k hb hr; ⟨e, a', cs', w', hq _ _ _ _ q, r⟩
theorem ZlX {ops : Array Oper} {Q : Exit → Act → List Frame → World → Prop} {i : Nat} {rest : List Nat} {a : Act} {cs : List Frame} {w : World} {o : Oper} (ho : ops[i]? = some o) (hw : Region.wanted o (yielded ops a.tmps) = true)
  (h : o.wp P a w (fun a' w' => wpOpsS P ops Q rest a' cs w') (fun e a' w' => Q e a' cs w')) : wpOpsS P ops Q (i :: rest) a cs w := by
 unfold Oper.wp at h
 simp only [wpOpsS, ho, hw, if_true]
 split
 ·rename_i w' hr
  rw [hr] at h
  exact h.elim
 ·exact h
theorem Zsd {ops : Array Oper} {Q : Exit → Act → List Frame → World → Prop} {i : Nat} {rest : List Nat} {a : Act} {cs : List Frame} {w : World} {o : Oper} (ho : ops[i]? = some o) (hw : Region.wanted o (yielded ops a.tmps) = false)
  (h : wpOpsS P ops Q rest (a.put o.dst undef) cs w) : wpOpsS P ops Q (i :: rest) a cs w := by
 simp only [wpOpsS, ho, hw]
 exact h
theorem ZsW {ops : Array Oper} {Q : Exit → Act → List Frame → World → Prop} {i : Nat} {rest : List Nat} {a : Act} {w : World} {o : Oper} {c : Frame} {cs : List Frame} {u : FrameMode} {M : ZaV} (ho : ops[i]? = some o) (hw : Region.wanted o (yielded ops a.tmps) = true)
  (hr : (execOp a.eval o).run P w = .ok .recover w) (hM : MR M u) (h : ∀ u', MR (Zrp M) u' → wpOpsS P ops Q rest (a.put o.dst (ZeX M)) ({ c with mode := u' } :: cs) w) : wpOpsS P ops Q (i :: rest) a ({ c with mode := u } :: cs) w := by
 obtain ⟨u', h1, h2⟩ := hM.recover c cs
 simp only [wpOpsS, ho, hw, if_true, hr]
 rcases h2 with h2 | ⟨h2, h3, h4⟩
 ·rw [h2]; exact h u' h1
 ·rw [h2]
  have := h u' h1
  rw [h3, h4] at this
  exact this
theorem Zdq (F : Fit P ext) {nt fu : Nat} {ops : Array Oper} {c : Frame} {cs : List Frame} : ∀ (n : Nat) (l : List Oper) (k : Nat) (T : Tr Value) (s : St) (M : ZaV) (T' : Tr Value) (s' : St) (M' : ZaV), l.length ≤ n → (∀ j, l[j]? = ops[k + j]?) → evDefOps P ext nt fu ops l T s M = some (T', s', M') → (∀ p ∈ s'.ob, p.1 = p.2) →
  ∀ ι D a u w (Q : Exit → Act → List Frame → World → Prop), TR ι nt D T a → MR M u → Emb P ι s.h.get w → Fresh ι s.n s'.n →
   (∀ ι' a' u' w', Step P ι s.h.get w ι' s'.h.get w' → Dom ι ι' s.n s'.n → TR ι' nt D T' a' → MR M' u' → Q .normal a' ({ c with mode := u' } :: cs) w') → wpOpsS P ops Q (List.range' k l.length) a ({ c with mode := u } :: cs) w
 | _, [], k, T, s, M, T', s', M', _, _, h => by
  intro ho ι D a u w Q hT hM he hf hQ
  simp only [evDefOps] at h
  injection h with h; simp only [Prod.mk.injEq] at h; obtain ⟨rfl, rfl, rfl⟩ := h
  exact hQ ι a u w (Step.refl he) Dom.refl hT hM
 | 0, _ :: _, k, T, s, M, T', s', M', hn, _, h => by simp at hn
 | n + 1, o :: l, k, T, s, M, T', s', M', hn, hl, h => by
  intro ho ι D a u w Q hT hM he hf hQ
  have hn' : l.length ≤ n := by simpa using hn
  have h0 : ops[k]? = some o := by simpa using (hl 0).symm
  have hl' : ∀ j, l[j]? = ops[k + 1 + j]? := fun j => by have := hl (j + 1); simpa [Nat.add_assoc, Nat.add_comm 1 j] using this
  rw [evDefOps.eq_def] at h
  simp only at h
  obtain ⟨hg, h⟩ := Zr h
  simp only [Bool.and_eq_true] at hg
  rw [List.length_cons, List.range'_succ]
  split at h
  ·rename_i s1 hw
   obtain ⟨hwant, e2, e3⟩ := ZaR (fun t _ => hT.2.2 t) hw
   split at h
   ·rename_i hrec
    split at h
    ·rename_i d hd
     cases l with
     | nil => cases h
     | cons o2 l2 =>
      simp only at h
      split at h
      ·rename_i d2 r has
       refine ZsW h0 hwant (ZtE hrec w) hM fun u' hM' => ?_
       have h1 : ops[k + 1]? = some o2 := by simpa using (hl' 0).symm
       have hlt : d < a.tmps.size := by
        have := hg.1
        rw [hd] at this
        rw [hT.1]
        simpa [Zb8, Nat.blt_eq] using this
       have hev : (a.put o.dst (ZeX M)).eval (.tmp d) = ZeX M := by
        rw [hd]
        simp only [Act.eval, Act.put]
        simp [Array.getD, hlt]
       obtain ⟨q1, q2, q3, q4, q5, q6⟩ := ZtX (ρ := (a.put o.dst (ZeX M)).eval) has hev w
       have hT1 : TR ι nt D (T.set d (some (.chan (some 0)))) (a.put o.dst (ZeX M)) := by
        rw [hd]
        have := hg.1
        rw [hd] at this
        exact hT.put (dst := some d) this (.glob (Zsc q6))
       rw [List.length_cons, List.range'_succ]
       refine ZlX h1 (by simp [Region.wanted, q1]) ?_
       unfold Oper.wp
       rw [q5, Oper.upon_value, q2]
       have hl2 : ∀ j, l2[j]? = ops[k + 1 + 1 + j]? := fun j => by have := hl' (j + 1); rw [show k + 1 + 1 + j = k + 1 + (j + 1) by omega]; simpa using this
       exact Zdq F n l2 (k + 1 + 1) _ s1 (Zrp M) T' s' M' (by simp at hn'; omega) hl2 h ho ι D _ u' w Q (hT1.put (dst := some d2) (by simpa [Zb8, Nat.blt_eq] using q3) (VR.of_free q4)) hM' (e2 ▸ he) (e3 ▸ hf) fun ι2 a2 u2 w2 k1 k2 k3 k4 => hQ ι2 a2 u2 w2 (e2 ▸ k1) (e3 ▸ k2) k3 k4
      ·cases h
    ·cases h
   ·split at h
    ·rename_i v1 s2 hv
     have ua := ZaF (P := P) (ext := ext) (fun f g hg => (F.hp f g hg).up) fu
     have u2 := ua.2.2.1 _ _ _ _ _ hv
     have u3 := ZdR F n l _ _ _ _ _ _ hn' h
     refine ZlX h0 hwant ((Zbh F fu).2.2.1 (opnd T) (ZaI a) o s1 v1 s2 hv (ZV u3.ob ho) ι w hT.opnd (e2 ▸ he) (e3 ▸ (hf.mono (Nat.le_refl _) u3.n)) a _ _ (ZbH (Zd4 hv) hg.2).symm fun v' w' ι' g1 g2 g3 => ?_)
     rw [e2] at g1
     rw [e3] at g2
     have hle : s.n ≤ s2.n := by rw [← e3]; exact u2.n
     exact Zdq F n l (k + 1) (Zbc T o.dst v1) s2 M T' s' M' hn' hl' h ho ι' D _ u w' Q ((hT.on g1.ext).put hg.1 g3) hM g1.emb (hf.after g2 hle) fun ι2 a2 u2 w2 k1 k2 k3 k4 => hQ ι2 a2 u2 w2 (g1.trans k1) (g2.trans k2 hle u3.n) k3 k4
    ·cases h
  ·rename_i s1 hw
   obtain ⟨hwant, e2, e3⟩ := ZaR (fun t _ => hT.2.2 t) hw
   refine Zsd h0 hwant ?_
   exact Zdq F n l (k + 1) (Zbc T o.dst undef) s1 M T' s' M' hn' hl' h ho ι D _ u w Q (hT.put hg.1 VR.undef') hM (e2 ▸ he) (e3 ▸ hf) fun ι2 a2 u2 w2 k1 k2 k3 k4 => hQ ι2 a2 u2 w2 (e2 ▸ k1) (e3 ▸ k2) k3 k4
  ·cases h
theorem ZdS (F : Fit P ext) {nt : Nat} : ∀ (fu : Nat) (c : Code) (T : Tr Value) (s : St) (M : ZaV) (T' : Tr Value) (s' : St) (M' : ZaV), Zdp P ext nt fu c T s M = some (T', s', M') → Up s s'
 | 0, _, _, _, _, _, _, _, h => by simp [Zdp] at h
 | fu + 1, c, T, s, M, T', s', M', h => by
  have uC := (ZaF (P := P) (ext := ext) (fun f g hg => (F.hp f g hg).up) fu).1
  cases c <;> simp only [Zdp] at h
  case seq a b =>
   split at h
   ·exact (ZdS F fu _ _ _ _ _ _ _ (by assumption)).trans (ZdS F fu _ _ _ _ _ _ _ h)
   ·cases h
  case cond x a b =>
   split at h
   ·split at h
    ·exact ZdS F fu _ _ _ _ _ _ _ h
    ·exact ZdS F fu _ _ _ _ _ _ _ h
   ·cases h
  case region id ops draw =>
   split at h
   ·split at h
    ·injection h with h; simp only [Prod.mk.injEq] at h; obtain ⟨_, rfl, _⟩ := h; exact uC _ _ _ _ _ _ _ (by assumption)
    ·cases h
   ·exact ZdR F _ _ _ _ _ _ _ _ (Nat.le_refl _) h
  case skip => injection h with h; simp only [Prod.mk.injEq] at h; obtain ⟨_, rfl, _⟩ := h; exact Up.refl _
  all_goals cases h
def ZtF (P : Program) (ι : Ren) (s : St) (w : World) (nt : Nat) (D : List Deferred) (T' : Tr Value) (s' : St) (M' : ZaV) (c : Frame) (cs : List Frame) (ex : Exit) (a' : Act) (cs' : List Frame) (w' : World) : Prop :=
 ex = .normal ∧ ∃ ι' u', cs' = { c with mode := u' } :: cs ∧ Step P ι s.h.get w ι' s'.h.get w' ∧ Dom ι ι' s.n s'.n ∧ TR ι' nt D T' a' ∧ MR M' u'
theorem ZdT (F : Fit P ext) {nt : Nat} {c0 : Frame} {cs : List Frame} : ∀ (fu : Nat) (c : Code) (T : Tr Value) (s : St) (M : ZaV) (T' : Tr Value) (s' : St) (M' : ZaV), Zdp P ext nt fu c T s M = some (T', s', M') → (∀ p ∈ s'.ob, p.1 = p.2) →
  ∀ ι D a u w, TR ι nt D T a → MR M u → Emb P ι s.h.get w → Fresh ι s.n s'.n → c.wpS P (ZtF P ι s w nt D T' s' M' c0 cs) a ({ c0 with mode := u } :: cs) w
 | 0, _, _, _, _, _, _, _, h => by simp [Zdp] at h
 | fu + 1, c, T, s, M, T', s', M', h => by
  intro ho ι D a u w hT hM he hf
  cases c <;> simp only [Zdp] at h
  case seq x y =>
   split at h
   ·rename_i T1 s1 M1 h1
    have u1 := ZdS F fu _ _ _ _ _ _ _ h1
    have u2 := ZdS F fu _ _ _ _ _ _ _ h
    refine wpS_seq (Zir (ZdT F fu x T s M T1 s1 M1 h1 (ZV u2.ob ho) ι D a u w hT hM he (hf.mono (Nat.le_refl _) u2.n)) ?_)
    rintro ex a1 cs1 w1 ⟨rfl, ι1, v1, rfl, g1, g2, g3, g4⟩
    refine Zir (ZdT F fu y T1 s1 M1 T' s' M' h ho ι1 D a1 v1 w1 g3 g4 g1.emb (hf.after g2 u1.n)) ?_
    rintro ex a2 cs2 w2 ⟨rfl, ι2, v2, rfl, k1, k2, k3, k4⟩
    exact ⟨rfl, ι2, v2, rfl, g1.trans k1, g2.trans k2 u1.n u2.n, k3, k4⟩
   ·cases h
  case cond x y z =>
   split at h
   ·rename_i t ht
    have hx : a.eval x = .bool t := Zbw ((ht ▸ hT.opnd x : VR ι (.bool t) (ZaI a x)).bool_inv)
    split at h
    ·exact wpS_cond hx (ZdT F fu y T s M T' s' M' h ho ι D a u w hT hM he hf)
    ·exact wpS_cond hx (ZdT F fu z T s M T' s' M' h ho ι D a u w hT hM he hf)
   ·cases h
  case region id ops draw =>
   split at h
   ·split at h
    ·rename_i T1 s1 h1
     injection h with h; simp only [Prod.mk.injEq] at h; obtain ⟨rfl, rfl, rfl⟩ := h
     refine wpS_of_wp (wp_mono ((Zbh F fu).1 nt _ T s .normal _ _ h1 ho ι D a w hT he hf) ?_)
     rintro ex a1 w1 ⟨rfl, ι1, g1, g2, g3⟩
     exact ⟨rfl, ι1, u, rfl, g1, g2, g3, hM⟩
    ·cases h
   ·refine wpS_region ?_
    rw [List.range_eq_range', ← Array.length_toList]
    exact Zdq F _ ops.toList 0 T s M T' s' M' (Nat.le_refl _) (by simp) h ho ι D a u w _ hT hM he hf fun ι' a' u' w' k1 k2 k3 k4 => ⟨rfl, ι', u', rfl, k1, k2, k3, k4⟩
  case skip =>
   injection h with h; simp only [Prod.mk.injEq] at h; obtain ⟨rfl, rfl, rfl⟩ := h
   exact wpS_of_wp (wp_skip ⟨rfl, ι, u, rfl, Step.refl he, Dom.refl, hT, hM⟩)
  all_goals cases h
theorem Zg5 (F : Fit P ext) {fu : Nat} : ∀ (ds : List (FuncId × Array Value)) (s : St) (M : ZaV) (s' : St) (M' : ZaV), Zck P ext fu ds s M = some (s', M') → Up s s'
 | [], s, M, s', M', h => by simp only [Zck] at h; injection h with h; simp only [Prod.mk.injEq] at h; obtain ⟨rfl, _⟩ := h; exact Up.refl _
 | d :: ds, s, M, s', M', h => by
  simp only [Zck] at h
  split at h
  ·split at h
   ·replace h := (Zr h).2
    split at h
    ·rename_i T1 s1 M1 h1
     have h' : Zck P ext fu ds s1 (ZgU M1) = some (s', M') := by
      split at h
      ·exact h
      ·cases h
     exact (ZdS F fu _ _ _ _ _ _ _ h1).trans (Zg5 F ds _ _ _ _ h')
    ·cases h
   ·cases h
  ·cases h
theorem Zg6 (F : Fit P ext) {fu : Nat} {fn : Func} {tmps : Array Value} {R : Ending → World → Prop} : ∀ (ds : List (FuncId × Array Value)) (s : St) (M : ZaV) (s' : St), Zck P ext fu ds s M = some (s', none) → (∀ p ∈ s'.ob, p.1 = p.2) →
  ∀ ι D u w, DR ι ds D → MR M u → Emb P ι s.h.get w → Fresh ι s.n s'.n → (∀ ι' w', Step P ι s.h.get w ι' s'.h.get w' → Dom ι ι' s.n s'.n → Leaves P fn tmps R [] .returning w') → Leaves P fn tmps R D u w
 | [], s, M, s', h => by
  intro ho ι D u w hD hM he hf hR
  simp only [Zck] at h
  injection h with h; simp only [Prod.mk.injEq] at h; obtain ⟨rfl, rfl⟩ := h
  cases hM
  cases D with
  | nil => exact hR ι w (Step.refl he) Dom.refl
  | cons _ _ => exact hD.elim
 | d :: ds, s, M, s', h => by
  intro ho ι D u w hD hM he hf hR
  simp only [Zck] at h
  split at h
  ·rename_i fn' hfn
   split at h
   ·rename_i c hb
    replace h := Zr h
    obtain ⟨hsz, h⟩ := h
    have hle : d.2.size ≤ fn'.ntmps := Nat.le_of_ble_eq_true hsz
    split at h
    ·rename_i T1 s1 M1 h1
     split at h
     ·rename_i v1 hv1
      cases D with
      | nil => exact hD.elim
      | cons x D =>
       obtain ⟨⟨b, ht, hargs⟩, hD⟩ := hD
       have u1 := ZdS F fu _ _ _ _ _ _ _ h1
       have u2 := Zg5 F ds _ _ _ _ h
       refine ⟨hM.norun, _, _, d.1, x.args ++ b, ht, ?_, ?_⟩
       ·rw [ht]
        exact ZaY hfn (F.go _ _ hfn) hb _ _
       ·refine callsD_of_wpS hfn hb fun c0 cs hu => ?_
        have hc0 : c0 = { c0 with mode := u } := by subst hu; rfl
        have key := ZdT F (nt := fn'.ntmps) (c0 := c0) (cs := cs) fu c _ s M T1 s1 M1 h1 (ZV u2.ob ho) ι [] _ u w (ZbT hargs hle) hM he (hf.mono (Nat.le_refl _) u2.n)
        rw [← hc0] at key
        refine Zir key ?_
        rintro ex a1 cs1 w1 ⟨rfl, ι1, u1', rfl, g1, g2, g3, g4⟩
        obtain ⟨v', hrun, hv⟩ := Zbb g3 g1.emb hv1
        exact ⟨g3.2.1, u1', rfl, v', hrun, Zg6 F ds s1 (ZgU M1) s' h ho ι1 D _ w1 (hD.on g1.ext) g4.settle g1.emb (hf.after g2 u1.n) fun ι2 w2 k1 k2 => hR ι2 w2 (g1.trans k1) (g2.trans k2 u1.n u2.n)⟩
     ·cases h
    ·cases h
   ·cases h
  ·cases h
theorem Zf1 (F : Fit P ext) {fu : Nat} {fn : Func} {T : Tr Value} {s : St} {ds : List (FuncId × Array Value)} {M : ZaV} {v : Value} {s' : St} (h : Zf0 P ext fu fn T s ds M = some (v, s')) : Up s s' := by
 unfold Zf0 at h
 split at h
 ·rename_i s2 h2
  have u := Zg5 F _ _ _ _ _ h2
  split at h
  ·injection h with h; injection h with q1 q2; subst q1 q2; exact u
  ·cases h
 ·cases h
theorem Zic (F : Fit P ext) {fu : Nat} {fn : Func} {T : Tr Value} {s0 s : St} {ds : List (FuncId × Array Value)} {M : ZaV} {v : Value} {s' : St} (h : Zf0 P ext fu fn T s ds M = some (v, s')) (ho : ∀ p ∈ s'.ob, p.1 = p.2) {ι0 ι : Ren} {w0 w : World} {D : List Deferred} {u : FrameMode} {nt : Nat} {a : Act}
  (u0 : Up s0 s) (g1 : Step P ι0 s0.h.get w0 ι s.h.get w) (g2 : Dom ι0 ι s0.n s.n) (hf : Fresh ι0 s0.n s'.n) (hT : TR ι nt D T a) (hD : DR ι ds D) (hM : MR M u) : Leaves P fn a.tmps (ZeT P ι0 s0 w0 v s') a.defers u w := by
 have uf := Zf1 F h
 unfold Zf0 at h
 split at h
 ·rename_i s2 h2
  split at h
  ·rename_i v1 hres
   injection h with h; injection h with q1 q2; subst q1 q2
   rw [hT.2.1]
   refine Zg6 F ds s M s2 h2 ho ι D u w hD hM g1.emb (hf.after g2 u0.n) fun ι2 w2 k1 k2 => ?_
   obtain ⟨v', hrun, hv⟩ := Zbb (hT.on k1.ext) k1.emb hres
   exact ⟨v', hrun, v', ι2, rfl, g1.trans k1, g2.trans k2 u0.n uf.n, hv⟩
  ·cases h
 ·cases h
theorem Zrs (F : Fit P ext) {fu : Nat} {f : FuncId} {fn : Func} {c : Code} (hfn : P.funcs[f]? = some fn) (hb : fn.body = some c) : Zdm P f (ZgV P ext fu f) := by
 refine ⟨fun args s v s' h => ?_, fun args s v s' h ho ι w args' ha he hf => .inl ⟨⟨fn, c, hfn, hb⟩, ?_⟩⟩
 ·unfold ZgV at h
  rw [hfn] at h
  simp only [hb] at h
  replace h := (Zr h).2
  split at h
  ·rename_i r T s1 ds h1
   exact (Zd5 F fu _ _ _ _ _ _ _ _ h1).trans (Zf1 F h)
  ·split at h
   ·rename_i v1 T s1 ds h1
    exact (Zkp F (Zoj F fu) fu _ _ _ _ _ _ _ _ h1).trans (Zf1 F h)
   ·cases h
 ·unfold ZgV at h
  rw [hfn] at h
  simp only [hb] at h
  replace h := Zr h
  obtain ⟨hsz, h⟩ := h
  have hle : args.size ≤ fn.ntmps := Nat.le_of_ble_eq_true hsz
  split at h
  ·rename_i r T s1 ds h1
   have u1 := Zd5 F fu _ _ _ _ _ _ _ _ h1
   have u2 := Zf1 F h
   refine calls_of_wp_defers hfn hb (wp_mono (Zdd F fu c _ s [] r T s1 ds h1 (ZV u2.ob ho) ι [] _ w (ZbT ha hle) trivial he (hf.mono (Nat.le_refl _) u2.n)) ?_)
   rintro ex a1 w1 ⟨rfl, ι1, D1, g1, g2, g3, g4⟩
   have key := Zic F (u := .returning) h ho u1 g1 g2 hf g3 g4 rfl
   cases r <;> exact key
  ·split at h
   ·rename_i v1 T s1 ds h1
    have u1 := Zkp F (Zoj F fu) fu _ _ _ _ _ _ _ _ h1
    have u2 := Zf1 F h
    refine calls_of_wp_defers hfn hb (wp_mono (Ziq F (Zoj F fu) fu c _ s [] v1 T s1 ds h1 (ZV u2.ob ho) ι [] _ w (ZbT ha hle) trivial he (hf.mono (Nat.le_refl _) u2.n)) ?_)
    rintro ex a1 w1 ⟨rfl, ι1, D1, g1, g2, g3, g4⟩
    exact Zic F (u := .panicking (Ze1 v1)) h ho u1 g1 g2 hf g3 g4 rfl
   ·cases h
end
end Ev
end Go.Proofs.YtaifklllpehnmaaGreatDoor
/- Functions of no body of their own. -/
namespace Go.Proofs.YtaifklllpehnmaaGreatDoor
open Go.RowKit
namespace Ev
noncomputable section
def Zg7 (P : Program) (e : Array Value → Sem Value) (args : Array Value) (s : St) : Out :=
 bif Z4 Zba args.toList then match Zdy P (e args) with
  | some v => bif Zba v then some (v, s) else none
  | none => none
  else none
def Zkq (args : Array Value) (s : St) : Out :=
 match args.toList with
 | [x] => some (x, s)
 | _ => none
end
section
variable {P : Program}
theorem ZlY {f : FuncId} {fn : Func} {e : Array Value → Sem Value} (hf : P.funcs[f]? = some fn) (hn : (fn.name == "runtime.NumGoroutine") = false) (hb : fn.body.isNone = true) (hx : Extern.findNext fn = none) (he : Extern.find fn = some e) : Zdm P f (Zg7 P e) := by
 refine ⟨fun args s v s' h => ?_, fun args s v s' h ho ι w args' ha hE hF => .inr ?_⟩
 ·unfold Zg7 at h
  replace h := (Zr h).2
  split at h
  ·replace h := (Zr h).2
   injection h with h; injection h with h1 h2; subst h2; exact Up.refl _
  ·cases h
 ·unfold Zg7 at h
  replace h := Zr h
  obtain ⟨hfree, h⟩ := h
  split at h
  ·rename_i v1 hp
   replace h := Zr h
   obtain ⟨hfv, h⟩ := h
   injection h with h; injection h with h1 h2; subst h1 h2
   have hae : args' = args := Zd1 ha.1 fun i x y hx1 hy1 => (ha.2 i x y hx1 hy1).eq_of_free (ZaB hfree i x hx1)
   subst hae
   refine ⟨v1, w, ?_, v1, ι, rfl, Step.refl hE, Dom.refl, VR.of_free hfv⟩
   rw [run_callFunc_extern hf hn hb hx he, Zc6 w hp]; rfl
  ·cases h
theorem Zse {f : FuncId} {fn : Func} (hf : P.funcs[f]? = some fn) (hn : (fn.name == "runtime.NumGoroutine") = false) (hb : fn.body.isNone = true) (hx : Extern.findNext fn = none) (he : Extern.find fn = some Extern.AbiNoEscape.same) : Zdm P f Zkq := by
 refine ⟨fun args s v s' h => ?_, fun args s v s' h ho ι w args' ha hE hF => .inr ?_⟩
 ·unfold Zkq at h
  split at h
  ·injection h with h; injection h with h1 h2; subst h2; exact Up.refl _
  ·cases h
 ·unfold Zkq at h
  split at h
  ·rename_i x hx1
   injection h with h; injection h with h1 h2; subst h1 h2
   have hA : args = #[x] := by rw [← Array.toArray_toList (xs := args), hx1]
   subst hA
   obtain ⟨y, rfl⟩ : ∃ y, args' = #[y] := by
    have h1 : args'.size = 1 := ha.1.symm
    exact ⟨args'[0], by apply Array.ext; simp [h1]; intro i h1 h2; simp at h2; subst h2; rfl⟩
   refine ⟨y, w, ?_, y, ι, rfl, Step.refl hE, Dom.refl, ha.2 0 x y rfl rfl⟩
   rw [run_callFunc_extern hf hn hb hx he]; rfl
  ·cases h
end
end Ev
end Go.Proofs.YtaifklllpehnmaaGreatDoor
/- Strings: what the library's functions do of them. -/
namespace Go.Proofs
open Go.Shelf
def YtaifklllpehnmaaGreatDoor.Ev.lays156_ren : Go.Shelf.Ren := ⟨fun | 156 => 22 | 165 => 35 | 166 => 12 | 169 => 14 | 240 => 30 | 241 => 43 | 276 => 38 | 277 => 52 | n => n, fun | 31 => 53 | 9 => 9 | 3 => 3 | 4 => 4 | 0 => 0 | 20 => 20 | 72 => 43 | 76 => 46 | 70 => 40 | 37 => 41 | 75 => 45 | 127 => 68 | 164 => 84 | 5 => 5 | 80 => 49 | n => n, fun | n => n⟩
theorem YtaifklllpehnmaaGreatDoor.Ev.lays156 : Go.Proofs.Lays.n156 Tryz.prog YtaifklllpehnmaaGreatDoor.Ev.lays156_ren := {
  mixed := by kernel_rfl
  f156 := Tryz.func22.trans (congrArg some (by kernel_rfl))
  f165 := Tryz.func35.trans (congrArg some (by kernel_rfl))
  f166 := Tryz.func12.trans (congrArg some (by kernel_rfl))
  f169 := Tryz.func14.trans (congrArg some (by kernel_rfl))
  f240 := Tryz.func30.trans (congrArg some (by kernel_rfl))
  f241 := Tryz.func43.trans (congrArg some (by kernel_rfl))
  f276 := Tryz.func38.trans (congrArg some (by kernel_rfl))
  f277 := Tryz.func52.trans (congrArg some (by kernel_rfl))
  t0 := Tryz.underlying0
  a0 := Tryz.isAgg0
  z0 := Tryz.sizeOf0
  v0 := Tryz.zeroValue0
  t3 := Tryz.underlying3
  a3 := Tryz.isAgg3
  z3 := Tryz.sizeOf3
  v3 := Tryz.zeroValue3
  t4 := Tryz.underlying4
  a4 := Tryz.isAgg4
  z4 := Tryz.sizeOf4
  v4 := Tryz.zeroValue4
  t9 := Tryz.underlying9
  a9 := Tryz.isAgg9
  z9 := Tryz.sizeOf9
  v9 := Tryz.zeroValue9
  t20 := Tryz.underlying20
  a20 := Tryz.isAgg20
  z20 := Tryz.sizeOf20
  v20 := Tryz.zeroValue20
  t31 := Tryz.underlying53
  a31 := Tryz.isAgg53
  z31 := Tryz.sizeOf53
  v31 := Tryz.zeroValue53
  t37 := Tryz.underlying41
  a37 := Tryz.isAgg41
  z37 := Tryz.sizeOf41
  v37 := Tryz.zeroValue41
  t70 := Tryz.underlying40
  a70 := Tryz.isAgg40
  z70 := Tryz.sizeOf40
  v70 := Tryz.zeroValue40
  t72 := Tryz.underlying43
  a72 := Tryz.isAgg43
  z72 := Tryz.sizeOf43
  v72 := Tryz.zeroValue43
  t75 := Tryz.underlying45
  a75 := Tryz.isAgg45
  z75 := Tryz.sizeOf45
  v75 := Tryz.zeroValue45
  t76 := Tryz.underlying46
  a76 := Tryz.isAgg46
  z76 := Tryz.sizeOf46
  v76 := Tryz.zeroValue46
  t127 := Tryz.underlying68
  a127 := Tryz.isAgg68
  z127 := Tryz.sizeOf68
  v127 := Tryz.zeroValue68
  t164 := Tryz.underlying84
  a164 := Tryz.isAgg84
  z164 := Tryz.sizeOf84
  v164 := Tryz.zeroValue84 }
def YtaifklllpehnmaaGreatDoor.Ev.lays105_ren : Go.Shelf.Ren := ⟨fun | 105 => 32 | 212 => 39 | 99 => 40 | 165 => 35 | 166 => 12 | 170 => 41 | 169 => 14 | 263 => 45 | 264 => 46 | 206 => 47 | 240 => 30 | 241 => 43 | 276 => 38 | 277 => 52 | n => n, fun | 9 => 9 | 3 => 3 | 4 => 4 | 20 => 20 | 0 => 0 | 46 => 86 | 109 => 87 | 5 => 5 | 72 => 43 | 76 => 46 | 51 => 94 | 146 => 95 | 53 => 97 | 148 => 98 | 70 => 40 | 37 => 41 | 75 => 45 | 127 => 68 | 164 => 84 | 80 => 49 | n => n, fun | n => n⟩
theorem YtaifklllpehnmaaGreatDoor.Ev.lays105 : Go.Proofs.Lays.n105 Tryz.prog YtaifklllpehnmaaGreatDoor.Ev.lays105_ren := {
  mixed := by kernel_rfl
  f99 := Tryz.func40.trans (congrArg some (by kernel_rfl))
  f105 := Tryz.func32.trans (congrArg some (by kernel_rfl))
  f165 := Tryz.func35.trans (congrArg some (by kernel_rfl))
  f166 := Tryz.func12.trans (congrArg some (by kernel_rfl))
  f169 := Tryz.func14.trans (congrArg some (by kernel_rfl))
  f170 := Tryz.func41.trans (congrArg some (by kernel_rfl))
  f206 := Tryz.func47.trans (congrArg some (by kernel_rfl))
  f212 := Tryz.func39.trans (congrArg some (by kernel_rfl))
  f240 := Tryz.func30.trans (congrArg some (by kernel_rfl))
  f241 := Tryz.func43.trans (congrArg some (by kernel_rfl))
  f263 := Tryz.func45.trans (congrArg some (by kernel_rfl))
  f264 := Tryz.func46.trans (congrArg some (by kernel_rfl))
  f276 := Tryz.func38.trans (congrArg some (by kernel_rfl))
  f277 := Tryz.func52.trans (congrArg some (by kernel_rfl))
  t0 := Tryz.underlying0
  a0 := Tryz.isAgg0
  z0 := Tryz.sizeOf0
  v0 := Tryz.zeroValue0
  t3 := Tryz.underlying3
  a3 := Tryz.isAgg3
  z3 := Tryz.sizeOf3
  v3 := Tryz.zeroValue3
  t4 := Tryz.underlying4
  a4 := Tryz.isAgg4
  z4 := Tryz.sizeOf4
  v4 := Tryz.zeroValue4
  t5 := Tryz.underlying5
  a5 := Tryz.isAgg5
  z5 := Tryz.sizeOf5
  v5 := Tryz.zeroValue5
  t9 := Tryz.underlying9
  a9 := Tryz.isAgg9
  z9 := Tryz.sizeOf9
  v9 := Tryz.zeroValue9
  t20 := Tryz.underlying20
  a20 := Tryz.isAgg20
  z20 := Tryz.sizeOf20
  v20 := Tryz.zeroValue20
  t37 := Tryz.underlying41
  a37 := Tryz.isAgg41
  z37 := Tryz.sizeOf41
  v37 := Tryz.zeroValue41
  t46 := Tryz.underlying86
  a46 := Tryz.isAgg86
  z46 := Tryz.sizeOf86
  v46 := Tryz.zeroValue86
  t51 := Tryz.underlying94
  a51 := Tryz.isAgg94
  z51 := Tryz.sizeOf94
  v51 := Tryz.zeroValue94
  t53 := Tryz.underlying97
  a53 := Tryz.isAgg97
  z53 := Tryz.sizeOf97
  v53 := Tryz.zeroValue97
  t70 := Tryz.underlying40
  a70 := Tryz.isAgg40
  z70 := Tryz.sizeOf40
  v70 := Tryz.zeroValue40
  t72 := Tryz.underlying43
  a72 := Tryz.isAgg43
  z72 := Tryz.sizeOf43
  v72 := Tryz.zeroValue43
  t75 := Tryz.underlying45
  a75 := Tryz.isAgg45
  z75 := Tryz.sizeOf45
  v75 := Tryz.zeroValue45
  t76 := Tryz.underlying46
  a76 := Tryz.isAgg46
  z76 := Tryz.sizeOf46
  v76 := Tryz.zeroValue46
  t109 := Tryz.underlying87
  a109 := Tryz.isAgg87
  z109 := Tryz.sizeOf87
  v109 := Tryz.zeroValue87
  t127 := Tryz.underlying68
  a127 := Tryz.isAgg68
  z127 := Tryz.sizeOf68
  v127 := Tryz.zeroValue68
  t146 := Tryz.underlying95
  a146 := Tryz.isAgg95
  z146 := Tryz.sizeOf95
  v146 := Tryz.zeroValue95
  t148 := Tryz.underlying98
  a148 := Tryz.isAgg98
  z148 := Tryz.sizeOf98
  v148 := Tryz.zeroValue98
  t164 := Tryz.underlying84
  a164 := Tryz.isAgg84
  z164 := Tryz.sizeOf84
  v164 := Tryz.zeroValue84 }
def YtaifklllpehnmaaGreatDoor.Ev.lays171_ren : Go.Shelf.Ren := ⟨fun | 171 => 21 | 243 => 34 | 246 => 42 | 283 => 48 | 284 => 49 | 285 => 50 | 286 => 51 | 129 => 56 | 317 => 55 | 318 => 57 | 319 => 58 | 320 => 59 | 337 => 65 | 338 => 66 | n => n, fun | 3 => 3 | 9 => 9 | 2 => 2 | 4 => 4 | 171 => 100 | 0 => 0 | 53 => 97 | 37 => 41 | 5 => 5 | 173 => 103 | 212 => 111 | 51 => 94 | 20 => 20 | 213 => 112 | 46 => 86 | 232 => 130 | 233 => 131 | n => n, fun | 17 => 0 | 18 => 2 | 19 => 3 | n => n⟩
theorem YtaifklllpehnmaaGreatDoor.Ev.lays171 : Go.Proofs.LaysM.n171 Tryz.prog YtaifklllpehnmaaGreatDoor.Ev.lays171_ren := {
  mixed := by kernel_rfl
  f129 := Tryz.func56.trans (congrArg some (by kernel_rfl))
  f171 := Tryz.func21.trans (congrArg some (by kernel_rfl))
  f243 := Tryz.func34.trans (congrArg some (by kernel_rfl))
  f246 := Tryz.func42.trans (congrArg some (by kernel_rfl))
  f283 := Tryz.func48.trans (congrArg some (by kernel_rfl))
  f284 := Tryz.func49.trans (congrArg some (by kernel_rfl))
  f285 := Tryz.func50.trans (congrArg some (by kernel_rfl))
  f286 := Tryz.func51.trans (congrArg some (by kernel_rfl))
  f317 := Tryz.func55.trans (congrArg some (by kernel_rfl))
  f318 := Tryz.func57.trans (congrArg some (by kernel_rfl))
  f319 := Tryz.func58.trans (congrArg some (by kernel_rfl))
  f320 := Tryz.func59.trans (congrArg some (by kernel_rfl))
  f337 := Tryz.func65.trans (congrArg some (by kernel_rfl))
  f338 := Tryz.func66.trans (congrArg some (by kernel_rfl))
  t0 := Tryz.underlying0
  a0 := Tryz.isAgg0
  z0 := Tryz.sizeOf0
  v0 := Tryz.zeroValue0
  t2 := Tryz.underlying2
  a2 := Tryz.isAgg2
  z2 := Tryz.sizeOf2
  v2 := Tryz.zeroValue2
  t3 := Tryz.underlying3
  a3 := Tryz.isAgg3
  z3 := Tryz.sizeOf3
  v3 := Tryz.zeroValue3
  t4 := Tryz.underlying4
  a4 := Tryz.isAgg4
  z4 := Tryz.sizeOf4
  v4 := Tryz.zeroValue4
  t5 := Tryz.underlying5
  a5 := Tryz.isAgg5
  z5 := Tryz.sizeOf5
  v5 := Tryz.zeroValue5
  t9 := Tryz.underlying9
  a9 := Tryz.isAgg9
  z9 := Tryz.sizeOf9
  v9 := Tryz.zeroValue9
  t20 := Tryz.underlying20
  a20 := Tryz.isAgg20
  z20 := Tryz.sizeOf20
  v20 := Tryz.zeroValue20
  t37 := Tryz.underlying41
  a37 := Tryz.isAgg41
  z37 := Tryz.sizeOf41
  v37 := Tryz.zeroValue41
  t46 := Tryz.underlying86
  a46 := Tryz.isAgg86
  z46 := Tryz.sizeOf86
  v46 := Tryz.zeroValue86
  t51 := Tryz.underlying94
  a51 := Tryz.isAgg94
  z51 := Tryz.sizeOf94
  v51 := Tryz.zeroValue94
  t53 := Tryz.underlying97
  a53 := Tryz.isAgg97
  z53 := Tryz.sizeOf97
  v53 := Tryz.zeroValue97
  t171 := Tryz.underlying100
  a171 := Tryz.isAgg100
  z171 := Tryz.sizeOf100
  v171 := Tryz.zeroValue100
  t173 := Tryz.underlying103
  a173 := Tryz.isAgg103
  z173 := Tryz.sizeOf103
  v173 := Tryz.zeroValue103
  t212 := Tryz.underlying111
  a212 := Tryz.isAgg111
  z212 := Tryz.sizeOf111
  v212 := Tryz.zeroValue111
  t213 := Tryz.underlying112
  a213 := Tryz.isAgg112
  z213 := Tryz.sizeOf112
  t232 := Tryz.underlying130
  a232 := Tryz.isAgg130
  z232 := Tryz.sizeOf130
  v232 := Tryz.zeroValue130
  t233 := Tryz.underlying131
  a233 := Tryz.isAgg131
  z233 := Tryz.sizeOf131
  v233 := Tryz.zeroValue131
  g17 := by kernel_rfl
  g18 := by kernel_rfl
  g19 := by kernel_rfl
  i0 := by kernel_rfl
  i2 := by kernel_rfl
  i3 := by kernel_rfl
  i4 := by kernel_rfl
  i5 := by kernel_rfl
  i9 := by kernel_rfl
  i20 := by kernel_rfl
  i37 := by kernel_rfl
  i46 := by kernel_rfl
  i51 := by kernel_rfl
  i53 := by kernel_rfl
  i171 := by kernel_rfl
  i173 := by kernel_rfl
  i212 := by kernel_rfl
  i232 := by kernel_rfl
  i233 := by kernel_rfl
  m17 := by kernel_rfl
  m18 := by kernel_rfl
  m19 := by kernel_rfl }
end Go.Proofs
namespace Go.Proofs.YtaifklllpehnmaaGreatDoor
open Go.RowKit
namespace Ev
set_option linter.unusedVariables false
def Zee : Nat → Nat → List Int
 | 0, _ => []
 | f + 1, u => if u < 10 then [(48 + u : Nat)] else Zee f (u / 10) ++ [((48 + u % 10 : Nat) : Int)]
def Zf (n : Int) : List Int := if n < 0 then 45 :: Zee 20 n.natAbs else Zee 20 n.toNat
def u8s (l : List Int) : List UInt8 := l.map fun n => UInt8.ofNat n.toNat
theorem ZtG (a b : List Int) : u8s (a ++ b) = u8s a ++ u8s b := List.map_append
theorem Zrt (ns : List Int) : ∀ acc : ByteArray, (ns.foldl (fun r n => r.push (UInt8.ofNat n.toNat)) acc).data = acc.data ++ (u8s ns).toArray := by
 induction ns with
 | nil => intro acc; simp [u8s]
 | cons n ns ih => intro acc; rw [List.foldl_cons, ih]; simp [ByteArray.push, u8s]
theorem ZdA (ns : List Int) : Za ns = ⟨(u8s ns).toArray⟩ := by
 apply ByteArray.ext
 unfold Za
 rw [Zrt]
 simp
theorem ZoW : ∀ (f u : Nat), u < 10 ^ f → u8s (Zee f u) = if f = 0 then [] else Lib.decDigits u
 | 0, u, h => rfl
 | f + 1, u, h => by
  rw [if_neg (by omega)]
  unfold Zee
  rw [Lib.decDigits]
  by_cases hu : u < 10
  ·rw [if_pos hu, dif_pos hu]; rfl
  ·rw [if_neg hu, dif_neg hu, ZtG]
   cases f with
   | zero => simp at h; omega
   | succ f =>
    rw [ZoW (f + 1) (u / 10) (by rw [Nat.pow_succ] at h; omega), if_neg (by omega)]
    rfl
theorem ZtH {n : Int} (h0 : -9223372036854775808 ≤ n) (h1 : n ≤ 9223372036854775807) : Za (Zf n) = ⟨(Lib.itoa n).toArray⟩ := by
 rw [ZdA]
 congr 2
 unfold Zf Lib.itoa
 by_cases hn : n < 0
 ·rw [if_pos hn, if_pos hn]
  show (45 : UInt8) :: u8s (Zee 20 n.natAbs) = _
  rw [ZoW 20 _ (by omega), if_neg (by decide)]
 ·rw [if_neg hn, if_neg hn, ZoW 20 _ (by omega), if_neg (by decide)]
def Zkr : List Value → Option (List ByteArray)
 | [] => some []
 | .string x :: l => match Zkr l with | some r => some (x :: r) | none => none
 | _ => none
theorem ZlZ : ∀ {l : List Value} {r : List ByteArray}, Zkr l = some r → l = r.map Value.string
 | [], r, h => by injection h with h; subst h; rfl
 | v :: l, r, h => by
  unfold Zkr at h
  split at h
  ·rename_i e; cases e
  ·rename_i x l' e
   injection e with e1 e2
   subst e1 e2
   split at h
   ·rename_i r' hr
    injection h with h
    subst h
    rw [ZlZ hr]; rfl
   ·cases h
  ·cases h
def ZgW (sep : ByteArray) : List ByteArray → ByteArray
 | [] => ByteArray.empty
 | x :: l => l.foldl (fun a y => a ++ sep ++ y) x
def Zle (x : ByteArray) : Nat → ByteArray
 | 0 => ByteArray.empty
 | n + 1 => x ++ Zle x n
theorem Zq8 (x : ByteArray) : x = ⟨x.data.toList.toArray⟩ := by cases x; simp
theorem Zma (sep : ByteArray) : ∀ (l : List ByteArray) (a : ByteArray), (l.foldl (fun a y => a ++ sep ++ y) a).data.toList = a.data.toList ++ Lib.joinTail sep.data.toList (l.map (·.data.toList))
 | [], a => by simp [Lib.joinTail]
 | y :: l, a => by
  rw [List.foldl_cons, Zma sep l]
  simp [Lib.joinTail, ByteArray.data_append]
theorem ZoX (sep : ByteArray) (xs : List ByteArray) : ZgW sep xs = ⟨(Lib.join (xs.map (·.data.toList)) sep.data.toList).toArray⟩ := by
 cases xs with
 | nil => rfl
 | cons x l =>
  rw [Zq8 (ZgW sep (x :: l))]
  unfold ZgW
  rw [Zma, List.map_cons, Lib.join_cons]
theorem Zru (sep : ByteArray) (xs : List ByteArray) : (ZgW sep xs).size = (Lib.join (xs.map (·.data.toList)) sep.data.toList).length := by
 rw [ZoX]; simp [ByteArray.size]
noncomputable section
def Zok (args : Array Value) (s : St) : Out :=
 match args.toList with
 | [.int .i64 n] => match s.tst (decide (-9223372036854775808 ≤ n) && decide (n ≤ 9223372036854775807)) with
  | (true, s1) => some (.string (Za (Zf n)), s1)
  | (false, _) => none
 | _ => none
def Zol (args : Array Value) (s : St) : Out :=
 match args.toList with
 | [.slice (some ⟨k, o, none⟩) n c, .string sep] => match rowAt s k o n with
  | some l => match Zkr l with
   | some xs => bif Nat.ble n c && Nat.ble n 100000 then match s.tst (Nat.ble (ZgW sep xs).size 140737488355328) with
    | (true, s1) => some (.string (ZgW sep xs), s1)
    | (false, _) => none
    else none
   | none => none
  | none => none
 | _ => none
def ZgX (args : Array Value) (s : St) : Out :=
 match args.toList with
 | [.string x, .int .i64 (.ofNat n)] => bif Nat.ble n 100000 then match s.tst (Nat.ble (x.size * n) 140737488355328) with
  | (true, s1) => some (.string (Zle x n), s1)
  | (false, _) => none
  else none
 | _ => none
end
section
variable {P : Program}
theorem Zlf {f : FuncId} {fn : Func} {c : Code} {g : Array Value → St → Out} (hf : P.funcs[f]? = some fn) (hb : fn.body = some c) (up : ∀ args s v s', g args s = some (v, s') → Up s s')
  (h : ∀ args s v s', g args s = some (v, s') → (∀ p ∈ s'.ob, p.1 = p.2) → s'.h = s.h ∧ s'.n = s.n ∧ Zba v = true ∧ ∀ ι w args', VRs ι args args' → Emb P ι s.h.get w → Calls P f args' w fun e w' => e = .returned v ∧ Below w.heap.size w w') : Zdm P f g := by
 refine ⟨up, fun args s v s' hg ho ι w args' ha he hF => .inl ⟨⟨fn, c, hf, hb⟩, ?_⟩⟩
 obtain ⟨q1, q2, q3, q4⟩ := h args s v s' hg ho
 refine (q4 ι w args' ha he).mono ?_
 rintro e w' ⟨rfl, hB⟩
 refine ⟨v, ι, rfl, ?_, ?_, VR.of_free q3⟩
 ·rw [q1]; exact Step.below he hB
 ·rw [q2]; exact Dom.refl
theorem Zis {s s1 : St} {t : Bool} (h : s.tst t = (true, s1)) (ho : ∀ p ∈ s1.ob, p.1 = p.2) : t = true ∧ s1.h = s.h ∧ s1.n = s.n := by
 unfold St.tst at h
 split at h
 ·injection h with h1 h2; subst h2; exact ⟨h1, rfl, rfl⟩
 ·injection h with h1 h2; subst h2; exact ⟨h1, rfl, rfl⟩
 ·injection h with h1 h2; subst h1 h2
  exact ⟨ho (t, true) (List.mem_cons_self ..), rfl, rfl⟩
end
theorem Zrv {w w' : World} (h : ∃ k os, w' = Go.Sort.grow (w.drewN k) os) : Below w.heap.size w w' := by
 obtain ⟨k, os, rfl⟩ := h
 refine ⟨rfl, rfl, rfl, by show w.heap.size ≤ (w.heap ++ os).size; rw [Array.size_append]; omega, fun j hj => ?_⟩
 show (w.heap ++ os)[j]? = w.heap[j]?
 exact Array.getElem?_append_left hj
theorem tabItoa {w : World} (h : TabW w) : Lib.TabIs Tryz.prog w "internal/strconv.uint64pow10" .u64 Lib.pow10Tab := by
  obtain ⟨t, fr, hw⟩ := h _ (List.mem_cons_self ..)
  unfold Lib.TabIs World.var?
  rw [show Tryz.prog.globalNamed "internal/strconv.uint64pow10" = some 0 from by kernel_rfl]
  simp only [Option.bind_some]
  rw [hw]
  rfl
theorem itoa_does : Zdm Tryz.prog 21 Zok := by
  refine Zlf Tryz.func21 rfl (fun args s v s' h => ?_) fun args s v s' h ho => ?_
  · unfold Zok at h
    split at h
    · split at h
      · rename_i s1 hs; injection h with h; injection h with h1 h2; subst h2; exact Zc8 hs
      · cases h
    · cases h
  · unfold Zok at h
    split at h
    · rename_i n hl
      split at h
      · rename_i s1 hs
        injection h with h; injection h with h1 h2; subst h1 h2
        obtain ⟨t1, t2, t3⟩ := Zis hs ho
        simp only [Bool.and_eq_true, decide_eq_true_eq] at t1
        refine ⟨t2, t3, rfl, fun ι w args' ha he => ?_⟩
        have hA : args = #[.int .i64 n] := by rw [← Array.toArray_toList (xs := args), hl]
        subst hA
        obtain rfl : args' = #[.int .i64 n] := Zd1 ha.1 fun i x y hx1 hy1 => (ha.2 i x y hx1 hy1).eq_of_free (ZaB (p := Zba) (a := #[.int .i64 n]) rfl i x hx1)
        refine (Any.strconv_Itoa lays171 n t1.1 t1.2 w (tabItoa he.tabw)).mono ?_
        rintro e w' ⟨rfl, hw⟩
        exact ⟨by rw [ZtH t1.1 t1.2], Zrv hw⟩
      · cases h
    · cases h
theorem Zsf {ι : Ren} {a b : Value} {args' : Array Value} (h : VRs ι #[a, b] args') : ∃ x' y', args' = #[x', y'] ∧ VR ι a x' ∧ VR ι b y' := by
 obtain ⟨l⟩ := args'
 match l, h with
 | [x, y], h => exact ⟨x, y, rfl, h.2 0 a x rfl rfl, h.2 1 b y rfl rfl⟩
 | [], h => exact absurd h.1 (by simp)
 | [_], h => exact absurd h.1 (by simp)
 | _ :: _ :: _ :: _, h => exact absurd h.1 (by simp)
theorem ZtI (x : ByteArray) (n : Nat) : Zle x n = ⟨(Lib.repeatL x.data.toList n).toArray⟩ := by
 have : ∀ n : Nat, (Zle x n).data.toList = Lib.repeatL x.data.toList n := fun n => by
  induction n with
  | zero => rfl
  | succ n ih => unfold Zle; rw [ByteArray.data_append, Array.toList_append, ih]; rfl
 rw [Zq8 (Zle x n), this]
theorem extra156 : Builder.Extra Tryz.prog lays156_ren := { sizeBuilder := by kernel_rfl, liesBuilder := by kernel_rfl, t5 := Tryz.underlying5, a5 := Tryz.isAgg5, z5 := Tryz.sizeOf5, v5 := Tryz.zeroValue5, infoByte := by kernel_rfl, cellsByte := by kernel_rfl, sizeByte := by kernel_rfl, neB5 := by decide }
theorem join_does : Zdm Tryz.prog 22 Zol := by
  refine Zlf Tryz.func22 rfl (fun args s v s' h => ?_) fun args s v s' h ho => ?_
  · unfold Zol at h
    split at h
    · split at h
      · split at h
        · replace h := (Zr h).2
          split at h
          · rename_i s1 hs; injection h with h; injection h with h1 h2; subst h2; exact Zc8 hs
          · cases h
        · cases h
      · cases h
    · cases h
  · unfold Zol at h
    split at h
    · rename_i k o n c sep hl
      split at h
      · rename_i l hr
        split at h
        · rename_i xs hx
          obtain ⟨hnc, h⟩ := Zr h
          simp only [Bool.and_eq_true] at hnc
          split at h
          · rename_i s1 hs
            injection h with h; injection h with h1 h2; subst h1 h2
            obtain ⟨t1, t2, t3⟩ := Zis hs ho
            refine ⟨t2, t3, rfl, fun ι w args' ha he => ?_⟩
            have hA : args = #[.slice (some ⟨k, o, none⟩) n c, .string sep] := by rw [← Array.toArray_toList (xs := args), hl]
            subst hA
            obtain ⟨b, cs, hb, hcl, hll, hcs, hvv⟩ := ZeF he hr
            have hxl := ZlZ hx
            subst hxl
            have hcell : ∀ (j : Nat) x, xs[j]? = some x → w.cell? ⟨b.1, o + j, none⟩ = some (.string x) := fun j x hj => by
              have hjl : j < xs.length := (List.getElem?_eq_some_iff.1 hj).1
              have hjc : j < cs.length := by rw [hcl, ← hll, List.length_map]; exact hjl
              have h1 := hcs j cs[j] (List.getElem?_eq_getElem hjc)
              have h2 := (hvv j (.string x) cs[j] (by rw [List.getElem?_map, hj]; rfl) (List.getElem?_eq_getElem hjc)).eq_of_atom rfl
              rw [h2, Addr.add_lit] at h1
              exact h1
            have hln : xs.length = n := by simpa using hll
            obtain ⟨x', y', rfl, hv1, hv2⟩ := Zsf ha
            obtain rfl := hv2.eq_of_atom rfl
            have hsz : (Lib.join (xs.map (·.data.toList)) sep.data.toList).length ≤ 140737488355328 := by rw [← Zru]; exact Nat.le_of_ble_eq_true t1
            have hle : n ≤ c := Nat.le_of_ble_eq_true hnc.1
            have hN : n ≤ 100000 := Nat.le_of_ble_eq_true hnc.2
            cases hv1 with
            | atom h => exact (Bool.false_ne_true h).elim
            | slice hb2 hn hc hq =>
              rename_i b2 c'
              rw [hb] at hb2; injection hb2 with hb2; subst hb2
              subst hln
              refine (Any.strings_Join lays156 extra156 b.1 o c' xs sep w hcell (he.lt _ _ hb) (by omega) (by omega) hsz).mono ?_
              rintro e w' ⟨rfl, hB⟩
              exact ⟨by rw [ZoX], hB⟩
            | slice0 _h0 =>
              rename_i a'
              have : xs = [] := List.eq_nil_of_length_eq_zero hln
              subst this
              refine (Any.strings_Join_none lays156 extra156 a' 0 sep w).mono ?_
              rintro e w' ⟨rfl, rfl⟩
              exact ⟨rfl, Below.refl _ _⟩
          · cases h
        · cases h
      · cases h
    · cases h
theorem extra105 : Builder.Extra Tryz.prog lays105_ren := { sizeBuilder := by kernel_rfl, liesBuilder := by kernel_rfl, t5 := Tryz.underlying5, a5 := Tryz.isAgg5, z5 := Tryz.sizeOf5, v5 := Tryz.zeroValue5, infoByte := by kernel_rfl, cellsByte := by kernel_rfl, sizeByte := by kernel_rfl, neB5 := by decide }
theorem repeat_does : Zdm Tryz.prog 32 ZgX := by
  refine Zlf Tryz.func32 rfl (fun args s v s' h => ?_) fun args s v s' h ho => ?_
  · unfold ZgX at h
    split at h
    · replace h := (Zr h).2
      split at h
      · rename_i s1 hs; injection h with h; injection h with h1 h2; subst h2; exact Zc8 hs
      · cases h
    · cases h
  · unfold ZgX at h
    split at h
    · rename_i x n hl
      obtain ⟨hn, h⟩ := Zr h
      split at h
      · rename_i s1 hs
        injection h with h; injection h with h1 h2; subst h1 h2
        obtain ⟨t1, t2, t3⟩ := Zis hs ho
        refine ⟨t2, t3, rfl, fun ι w args' ha he => ?_⟩
        have hA : args = #[.string x, .int .i64 (.ofNat n)] := by rw [← Array.toArray_toList (xs := args), hl]
        subst hA
        obtain rfl : args' = #[.string x, .int .i64 (.ofNat n)] := Zd1 ha.1 fun i y z hx1 hy1 => (ha.2 i y z hx1 hy1).eq_of_free (ZaB (p := Zba) (a := #[.string x, .int .i64 (.ofNat n)]) rfl i y hx1)
        have hn2 := Nat.le_of_ble_eq_true hn
        refine (Any.strings_Repeat lays105 extra105 x n w (by omega) (Nat.le_of_ble_eq_true t1)).mono ?_
        rintro e w' ⟨rfl, hB⟩
        exact ⟨by rw [ZtI], hB⟩
      · cases h
    · cases h
end Ev
end Go.Proofs.YtaifklllpehnmaaGreatDoor
/- A strings.Builder's text. -/
namespace Go.Proofs.YtaifklllpehnmaaGreatDoor
open Go.RowKit Go.Shelf
namespace Ev
set_option linter.unusedVariables false
section
variable {P : Program}
theorem Zf2 (w : World) : ∀ (l : List Int) (a : Addr) (acc : ByteArray), (∀ j x, l[j]? = some x → w.cell? (a.add j) = some (.int .u8 x)) → (loadBytes a acc l.length).run P w = .ok (l.foldl (fun r n => r.push (UInt8.ofNat n.toNat)) acc) w
 | [], a, acc, _ => rfl
 | x :: l, a, acc, h => by
  have h0 : w.cell? a = some (.int .u8 x) := by
   have := h 0 x rfl
   simpa [Addr.add] using this
  have ih := Zf2 w l (a.add 1) (acc.push (UInt8.ofNat x.toNat)) (fun j y hy => by
   have := h (j + 1) y (by simpa using hy)
   have e : (a.add 1).add j = a.add (j + 1) := by
    unfold Addr.add
    by_cases hj : j = 0
    ·subst hj; simp
    ·simp [hj]; omega
   rw [e]; exact this)
  simp only [List.length_cons, loadBytes, Sem.run_bind, run_load, h0, Result.andThen]
  exact ih
theorem Zhe (w : World) (pt it ty e : TypeId) (hp : P.underlying pt = some (.pointer e)) (hc : P.cellsOf e = 1) (g cells : Nat) (hsh : w.shape? g = some (e, cells)) (l : List Int) (h0 : l ≠ []) (hn : l.length ≤ cells) (h63 : l.length ≤ 9223372036854775807)
  (hcell : ∀ j x, l[j]? = some x → w.cell? ((⟨g, 0, none⟩ : Addr).add j) = some (.int .u8 x)) :
  (Builtin.unsafeString_ #[pt, it] ty #[.pointer (some ⟨g, 0, none⟩), .int .i64 l.length]).run P w = .ok (.string (Za l)) (w.freeze ⟨g, 0, none⟩ l.length) := by
 have hl : l.length ≠ 0 := by simpa using h0
 have hlb := Zf2 (P := P) w l ⟨g, 0, none⟩ .empty hcell
 have hlies := Lib.liesAt_bytes (P := P) hc (cells / P.cellsOf e) l.length (by rw [hc]; simpa using hn)
 have h63' : ¬ (9223372036854775807 : Int) < (l.length : Int) := by omega
 have hneg : ¬ (l.length : Int) < 0 := by omega
 have hmax : IntKind.i64.max = 9223372036854775807 := rfl
 rw [show Builtin.unsafeString_ #[pt, it] ty #[.pointer (some ⟨g, 0, none⟩), .int .i64 l.length] = asInt (.int .i64 l.length) >>= _ from rfl]
 simp [asInt, asIntOf, hmax, h63', hneg, hl, variablesAt, hsh, elemOf, run_underlying hp, hlies, hlb, Za]
end
set_option maxHeartbeats 1000000 in
set_option maxRecDepth 100000 in
theorem ZsX {b g n cap : Nat} {cur : Array Value} {l : List Int} {w : World} {C : Array Value} {fr fr2 : Nat × Nat} (hb : w.heap[b]? = some (.cells C 43 fr)) (hC : C[1]? = some (.slice (some ⟨g, 0, none⟩) n cap)) (hg : w.heap[g]? = some (.cells cur 5 fr2)) (hn : l.length = n) (h0 : l ≠ []) (hc : cap ≠ 0) (h63 : l.length ≤ 9223372036854775807) (hl : ∀ (j : Nat) (x : Int), l[j]? = some x → cur[j]? = some (Value.int .u8 x)) :
  Calls Tryz.prog 14 #[.pointer (some ⟨b, 0, none⟩)] w fun e w' => e = .returned (.string (Za l)) ∧ w' = w.drew.freeze ⟨g, 0, none⟩ l.length := by
 subst hn
 have hsz : l.length ≤ cur.size := by
  rcases Nat.lt_or_ge cur.size l.length with h | h
  ·have := hl cur.size l[cur.size] (List.getElem?_eq_getElem h)
   simp at this
  ·exact h
 have c1 : w.drew.cell? ⟨b, 1, none⟩ = some (.slice (some ⟨g, 0, none⟩) l.length cap) := by
  have : w.drew.heap[b]? = some (.cells C 43 fr) := hb
  rw [Lib.cell_of_heap this]; exact hC
 have hSD : (Builtin.unsafeSliceData_ #[41] 68 #[.slice (some ⟨g, 0, none⟩) l.length cap]).run Tryz.prog w.drew = .ok (.pointer (some ⟨g, 0, none⟩)) w.drew :=
  Lib.run_unsafeSliceData_row _ _ _ _ _ _ hc
 have hUS : (Builtin.unsafeString_ #[68, 3] 9 #[.pointer (some ⟨g, 0, none⟩), .int .i64 l.length]).run Tryz.prog w.drew = .ok (.string (Za l)) (w.drew.freeze ⟨g, 0, none⟩ l.length) := by
  refine Zhe w.drew 68 3 9 5 Tryz.underlying68 (by kernel_rfl) g cur.size (by have hg' : w.drew.heap[g]? = some (.cells cur 5 fr2) := hg; simp [World.shape?, hg']) l h0 hsz h63 ?_
  intro j x hx
  have h1 := hl j x hx
  have h2 : w.drew.heap[g]? = some (.cells cur 5 fr2) := hg
  rw [Addr.add_lit, Lib.cell_of_heap h2, Nat.zero_add]; exact h1
 have mixed : Tryz.prog.follows .mixedOrders = true := by kernel_rfl
 go_enter Tryz.func14, Tryz.ntmps14
 go_wp2
 go_region_o
 all_goals (go_wp2; go_ret; exact ⟨rfl, rfl⟩)
theorem ZsY {b : Nat} {C : Array Value} {fr : Nat × Nat} {w : World} (hb : w.heap[b]? = some (.cells C 43 fr)) (hC : C[1]? = some (.slice none 0 0)) :
  Calls Tryz.prog 14 #[.pointer (some ⟨b, 0, none⟩)] w fun e w' => e = .returned (.string ByteArray.empty) ∧ w' = w.drew := by
 have c1 : w.drew.cell? ⟨b, 1, none⟩ = some (.slice none 0 0) := by
  have : w.drew.heap[b]? = some (.cells C 43 fr) := hb
  rw [Lib.cell_of_heap this]; exact hC
 have hSD : (Builtin.unsafeSliceData_ #[41] 68 #[.slice none 0 0]).run Tryz.prog w.drew = .ok (.pointer none) w.drew := rfl
 have hUS : (Builtin.unsafeString_ #[68, 3] 9 #[.pointer none, .int .i64 0]).run Tryz.prog w.drew = .ok (.string .empty) w.drew := Lib.run_unsafeString_none w.drew _ _ _ none
 have mixed : Tryz.prog.follows .mixedOrders = true := by kernel_rfl
 go_enter Tryz.func14, Tryz.ntmps14
 go_wp2
 go_region_o
 all_goals (go_wp2; go_ret; exact ⟨rfl, rfl⟩)
theorem Step.gone {P : Program} {ι : Ren} {h : AH} {w w' : World} (e : Emb P ι h w) {k0 : Nat} {b : Nat × Nat} (hl : isC (h k0) = true) (hb : ι k0 = some b) (hO : ∀ i, i ≠ b.1 → w'.heap[i]? = w.heap[i]?) (hs : w'.heap.size = w.heap.size) (ho : w'.os = w.os) (ht : w'.tape = w.tape) (hp : w'.output = w.output) :
  Step P ι h w ι (upd h k0 none) w' := by
 have ne : ∀ k o, upd h k0 none k = some o → k ≠ k0 ∧ h k = some o := fun k o hk => by
  have h1 := (Zcd (h := h) (k0 := k0) (k := k) (by rw [hk]; rfl)).1
  rw [Zu h1] at hk
  exact ⟨h1, hk⟩
 have far_ : ∀ k c, (h k).isSome → k ≠ k0 → ι k = some c → c.1 ≠ b.1 := fun k c h1 h2 h3 h4 => h2 (e.inj k0 k b c hl h1 hb h3 h4.symm).symm
 refine ⟨fun _ _ h => h, ⟨fun k c t hk => ?_, fun k O hk => ?_, fun k k' b1 b2 h1 h2 => e.inj k k' b1 b2 (ZbZ h1).2 (Zcd h2).2, fun k b hk => by rw [hs]; exact e.lt k b hk, e.marks (fun _ _ h => h) (fun i _ hno => hO i fun e1 => hno k0 b hl hb e1.symm) (fun _ _ _ _ h => h) (fun k d hk hd => .inr ⟨k, d, (ZbZ hk).2, hd, rfl⟩), e.tb⟩,
  ho, ht, hp, by rw [hs]; exact Nat.le_refl _, fun i _ hno => hO i fun e1 => hno k0 b hl hb e1.symm, fun k b h1 h2 => (by rw [h1] at h2; cases h2), fun k h1 _ => (Zcd h1).2, fun k h1 _ => (ZbZ h1).2⟩
 ·obtain ⟨h1, h2⟩ := ne k _ hk
  obtain ⟨b1, C1, q1, q2, q3, q4⟩ := e.obj k c t h2
  exact ⟨b1, C1, q1, q2.on (hO _ (far_ k b1 (by rw [h2]; rfl) h1 q1)), q3, q4⟩
 ·obtain ⟨h1, h2⟩ := ne k _ hk
  obtain ⟨b1, q1, q2⟩ := e.ro k O h2
  exact ⟨b1, q1, q2.on (hO _ (far_ k b1 (by rw [h2]; rfl) h1 q1))⟩
noncomputable section
def St.kill (s : St) (k : Nat) : St := ⟨s.h.set k none, s.n, k :: s.wr, s.orc, s.ob⟩
def Zom (args : Array Value) (s : St) : Out :=
 match args.toList with
 | [.pointer (some ⟨k, 0, none⟩)] => match s.h.get k with
  | some (.cells (_ :: q :: _) t) => bif Nat.beq t 43 then match q with
   | .slice none 0 0 => some (.string ByteArray.empty, s)
   | .slice (some ⟨j, 0, none⟩) n c => match s.h.get j with
    | some (.cells cs t') => bif Nat.beq t' 5 && !Nat.beq j k then match s.nextW with
     | (some (.bs ns), s1) => some (.string (Za ns), (s1.kill j).told (dP (ZD n cs = some (ns.map (Value.int .u8)) ∧ 0 < n ∧ n ≤ c ∧ n ≤ 1000000000)))
     | (some _, _) => none
     | (none, s1) => match ZD n cs with
      | some l => match Zev l with
       | some ns => bif Nat.blt 0 n && Nat.ble n c && Nat.ble n 1000000000 then some (.string (Za ns), s1.kill j) else none
       | none => none
      | none => none
     else none
    | _ => none
   | _ => none
   else none
  | _ => none
 | _ => none
end
theorem Zq9 {s : St} {k : Nat} : Up s (s.kill k) := ⟨Nat.le_refl _, List.suffix_refl _, [k], rfl, fun j hj _ => by
 show (s.h.set k none).get j = _
 rw [Tr.get_set, Zu (by simpa using hj)]⟩
theorem ZqA {ι : Ren} {s : St} {w : World} {k j n c : Nat} {x : Value} {r cs : List Value} {ns : List Int} {s' : St} (he : Emb Tryz.prog ι s.h.get w) (hk : s.h.get k = some (.cells (x :: .slice (some ⟨j, 0, none⟩) n c :: r) 43)) (hj : s.h.get j = some (.cells cs 5)) (ht : ZD n cs = some (ns.map (Value.int .u8))) (h0 : 0 < n) (hc : n ≤ c) (hn : n ≤ 1000000000) {args' : Array Value} (ha : VRs ι #[.pointer (some ⟨k, 0, none⟩)] args') (e1 : s'.h = s.h.set j none) (e2 : s'.n = s.n) :
  Calls Tryz.prog 14 args' w (ZeT Tryz.prog ι s w (.string (Za ns)) s') := by
 obtain ⟨b, C, q1, q2, q3, _⟩ := he.obj k _ _ hk
 obtain ⟨g, D, r1, r2, r3, _⟩ := he.obj j _ _ hj
 obtain ⟨fr1, q2, _⟩ := q2
 obtain ⟨fr2, r2, _⟩ := r2
 obtain ⟨t1, t2⟩ := Zce ht
 have hC1 : ∃ y, C[1]? = some y ∧ VR ι (.slice (some ⟨j, 0, none⟩) n c) y := by
  have hl := q3.1
  simp only [List.length_cons] at hl
  exact ⟨C[1]'(by omega), Array.getElem?_eq_getElem (by omega), q3.2 1 _ _ rfl (Array.getElem?_eq_getElem (by omega))⟩
 obtain ⟨y, hy, hv⟩ := hC1
 have hne : ns.length = n := by
  have := congrArg List.length t1
  simp at this; omega
 have hcell : ∀ (i : Nat) (z : Int), ns[i]? = some z → D[i]? = some (Value.int .u8 z) := fun i z hz => by
  have hi : i < n := by have := (List.getElem?_eq_some_iff.1 hz).1; omega
  have h1 : cs[i]? = some (.int .u8 z) := by
   have h2 : (cs.take n)[i]? = some (.int .u8 z) := by rw [← t1, List.getElem?_map, hz]; rfl
   rwa [List.getElem?_take_of_lt hi] at h2
  have hil := (List.getElem?_eq_some_iff.1 h1).1
  have hD : D[i]? = some (D[i]'(by have := r3.1; omega)) := Array.getElem?_eq_getElem _
  rw [hD, (r3.2 i _ _ h1 hD).int_inv]
 have hA : args' = #[.pointer (some ⟨b.1, 0, none⟩)] := by
  obtain ⟨l⟩ := args'
  match l, ha with
  | [z], ha =>
   have := ha.2 0 _ z rfl rfl
   cases this with
   | atom h => exact (Bool.false_ne_true h).elim
   | ptr h => rw [q1] at h; injection h with h; subst h; rfl
  | [], ha => exact absurd ha.1 (by simp)
  | _ :: _ :: _, ha => exact absurd ha.1 (by simp)
 subst hA
 cases hv with
 | atom h => exact (Bool.false_ne_true h).elim
 | slice0 _ => omega
 | slice hb2 hn2 hc2 hq =>
  rename_i b2 c'
  rw [r1] at hb2; injection hb2 with hb2; subst hb2
  refine (ZsX (l := ns) q2 hy r2 hne (fun e => by subst e; simp at hne; omega) (by omega) (by omega) hcell).mono ?_
  rintro e w' ⟨rfl, rfl⟩
  refine ⟨_, ι, rfl, ?_, by rw [e2]; exact Dom.refl, .atom rfl⟩
  rw [e1, Tr.get_set]
  have hns : ns.length ≠ 0 := by omega
  refine Step.gone he (by rw [hj]; rfl) r1 (fun i hi => ?_) ?_ ?_ ?_ ?_
  ·unfold World.freeze
   rw [if_neg hns]
   show (w.heap.modify g.1 _)[i]? = _
   rw [Array.getElem?_modify, if_neg (fun e => hi e.symm)]
  ·unfold World.freeze
   rw [if_neg hns]
   show (w.heap.modify g.1 _).size = _
   rw [Array.size_modify]
  all_goals (unfold World.freeze; rw [if_neg hns]; rfl)
theorem Zsg : Zdm Tryz.prog 14 Zom := by
 refine ⟨fun args s v s' h => ?_, fun args s v s' h ho ι w args' ha he hF => .inl ⟨⟨_, _, Tryz.func14, rfl⟩, ?_⟩⟩
 ·unfold Zom at h
  split at h
  ·split at h
   ·replace h := (Zr h).2
    split at h
    ·injection h with h; injection h with h1 h2; subst h2; exact Up.refl _
    ·split at h
     ·replace h := (Zr h).2
      split at h
      ·rename_i hw; injection h with h; injection h with h1 h2; subst h2; exact ((ZZ hw).trans Zq9).trans (Zac _)
      ·cases h
      ·rename_i hw
       split at h
       ·split at h
        ·replace h := (Zr h).2
         injection h with h; injection h with h1 h2; subst h2; exact (ZZ hw).trans Zq9
        ·cases h
       ·cases h
     ·cases h
    ·cases h
   ·cases h
  ·cases h
 ·unfold Zom at h
  split at h
  ·rename_i k hl
   have hA : args = #[.pointer (some ⟨k, 0, none⟩)] := by rw [← Array.toArray_toList (xs := args), hl]
   subst hA
   split at h
   ·rename_i x q r t hk
    replace h := Zr h; obtain ⟨hb, h⟩ := h
    obtain rfl := Nat.eq_of_beq_eq_true hb
    split at h
    ·injection h with h; injection h with h1 h2; subst h1 h2
     obtain ⟨b, C, q1, q2, q3, _⟩ := he.obj k _ _ hk
     obtain ⟨fr1, q2, _⟩ := q2
     have hC1 : C[1]? = some (.slice none 0 0) := by
      have hl := q3.1
      simp only [List.length_cons] at hl
      have h2 : C[1]? = some (C[1]'(by omega)) := Array.getElem?_eq_getElem (by omega)
      rw [h2, (q3.2 1 _ _ rfl h2).eq_of_atom rfl]
     have hA : args' = #[.pointer (some ⟨b.1, 0, none⟩)] := by
      obtain ⟨l⟩ := args'
      match l, ha with
      | [z], ha =>
       have := ha.2 0 _ z rfl rfl
       cases this with
       | atom h => exact (Bool.false_ne_true h).elim
       | ptr h => rw [q1] at h; injection h with h; subst h; rfl
      | [], ha => exact absurd ha.1 (by simp)
      | _ :: _ :: _, ha => exact absurd ha.1 (by simp)
     subst hA
     refine (ZsY q2 hC1).mono ?_
     rintro e w' ⟨rfl, rfl⟩
     exact ⟨_, ι, rfl, Step.still he rfl rfl rfl rfl, Dom.refl, .atom rfl⟩
    ·rename_i j n c
     split at h
     ·rename_i cs t' hj
      replace h := Zr h; obtain ⟨hb2, h⟩ := h
      simp only [Bool.and_eq_true] at hb2
      obtain rfl := Nat.eq_of_beq_eq_true hb2.1
      split at h
      ·rename_i ns s1 hw
       injection h with h; injection h with h1 h2; subst h1 h2
       obtain ⟨w1, w2, _⟩ := Zaf hw
       have hq := Zai.1 (ho _ (List.mem_cons_self ..))
       exact ZqA he hk hj hq.1 hq.2.1 hq.2.2.1 hq.2.2.2 ha (by show s1.h.set j none = _; rw [w1]) (by show s1.n = _; rw [w2])
      ·cases h
      ·rename_i s1 hw
       obtain ⟨w1, w2, _⟩ := Zaf hw
       split at h
       ·rename_i l htk
        split at h
        ·rename_i ns hns
         replace h := Zr h; obtain ⟨hg, h⟩ := h
         simp only [Bool.and_eq_true] at hg
         injection h with h; injection h with h1 h2; subst h1 h2
         have hbs := ZeH hns
         exact ZqA he hk hj (by rw [htk, hbs]) (Nat.le_of_ble_eq_true hg.1.1) (Nat.le_of_ble_eq_true hg.1.2) (Nat.le_of_ble_eq_true hg.2) ha (by show s1.h.set j none = _; rw [w1]) (by show s1.n = _; rw [w2])
        ·cases h
       ·cases h
     ·cases h
    ·cases h
   ·cases h
  ·cases h
end Ev
end Go.Proofs.YtaifklllpehnmaaGreatDoor
/- The runner over this program. -/
namespace Go.Proofs.YtaifklllpehnmaaGreatDoor
open Go.RowKit
namespace Ev

def Zrw : FuncId → Option Ext := fun f =>
   none

theorem noGo : (Tryz.prog.funcs.toList.all fun fn => !(fn.name == "runtime.NumGoroutine")) = true := by kernel_rfl
theorem mixed : Tryz.prog.follows .mixedOrders = true := by kernel_rfl
def Zlg (sp : FuncId → Option (List Value → Option Value)) (hp : FuncId → Option (Array Value → St → Out)) : FuncId → Option Ext := fun f => match Zrw f with
  | some e => some e
  | none => match sp f with
    | some g => some (.fn g)
    | none => match hp f with
      | some g => some (.hp g)
      | none => none
def noHp : FuncId → Option (Array Value → St → Out) := fun _ => none
def extW (sp : FuncId → Option (List Value → Option Value)) : FuncId → Option Ext := Zlg sp noHp
def Zks (sp : FuncId → Option (List Value → Option Value)) : Prop := ∀ (f : Nat) (g : List Value → Option Value), sp f = some g → (∃ (fn : Func) (c : Code), Tryz.prog.funcs[f]? = some fn ∧ fn.body = some c) ∧
  ∀ (args : Array Value) (v : Value), Z4 Zba args.toList = true → g args.toList = some v → ∀ w, TabW w → Calls Tryz.prog f args w fun e w' => e = .returned v ∧ Below w.heap.size w w'
def Zkt (hp : FuncId → Option (Array Value → St → Out)) : Prop := ∀ (f : Nat) (g : Array Value → St → Out), hp f = some g → Zdm Tryz.prog f g
theorem ZsZ : Zkt noHp := fun f g h => by cases h
theorem ZaJ {b : Bool} {x e : Ext} {y : Option Ext} (h : (bif b then some x else y) = some e) : (b = true ∧ x = e) ∨ y = some e := by
  cases b with
  | true => exact .inl ⟨rfl, by simpa using h⟩
  | false => exact .inr (by simpa using h)
theorem Zf3 {f : Nat} {e : Ext} (he : Zrw f = some e) : (∀ (kk : IntKind) (c : Nat), e = .at kk c → ∃ fn : Func, Tryz.prog.funcs[f]? = some fn ∧ fn.body.isNone = true ∧ Extern.findNext fn = none ∧
    (c = 0 ∧ Extern.find fn = some (Extern.Atomic.loadT (.int kk)) ∨ c = 1 ∧ Extern.find fn = some Extern.Atomic.storeT ∨
     c = 2 ∧ Extern.find fn = some (Extern.Atomic.update (Op.intArith .add) kk true) ∨ c = 3 ∧ Extern.find fn = some (Extern.Atomic.casT (.int kk)))) ∧
    (∀ n : Nat, e = .mark n → ∃ fn : Func, Tryz.prog.funcs[f]? = some fn ∧ fn.body.isNone = true ∧ Extern.findNext fn = none ∧
    (n = 0 ∧ (∃ m : Mark, Extern.find fn = some (fun _ => do mark m; pure Extern.Race.none_)) ∨ n = 1 ∧ ∃ m : Addr → Mark, Extern.find fn = some (Extern.Race.marked m))) ∧ (∀ g, e ≠ .fn g) ∧ (∀ g, e ≠ .hp g) ∧ (∀ S, e ≠ .tc S) := by
  unfold Zrw at he
  cases he
theorem Zdr {sp : FuncId → Option (List Value → Option Value)} {hp : FuncId → Option (Array Value → St → Out)} {f : Nat} {e : Ext} (h : Zlg sp hp f = some e) : Zrw f = some e ∨ (∃ g, sp f = some g ∧ e = .fn g) ∨ ∃ g, hp f = some g ∧ e = .hp g := by
  unfold Zlg at h
  split at h
  · rename_i e' he'
    injection h with h; subst h
    exact .inl he'
  · split at h
    · rename_i g hg
      injection h with h; subst h
      exact .inr (.inl ⟨g, hg, rfl⟩)
    · split at h
      · rename_i g hg
        injection h with h; subst h
        exact .inr (.inr ⟨g, hg, rfl⟩)
      · cases h
theorem Zta {sp : FuncId → Option (List Value → Option Value)} {hp : FuncId → Option (Array Value → St → Out)} (hsp : Zks sp) (hhp : Zkt hp) : Fit Tryz.prog (Zlg sp hp) := by
  refine ⟨mixed, fun f fn hf => ?_, fun f g hg => ?_, fun f g hg => ?_, fun f S hS => ?_, fun f n hn => ?_, fun f kk e he => ?_⟩
  · have := List.all_eq_true.1 noGo fn (by
      obtain ⟨h, rfl⟩ := Array.getElem?_eq_some_iff.1 hf
      simp)
    simpa using this
  · rcases Zdr hg with h | ⟨g', h, hx⟩ | ⟨g', h, hx⟩
    · exact ((Zf3 h).2.2.1 g rfl).elim
    · injection hx with hx; subst hx; exact hsp f g h
    · cases hx
  · rcases Zdr hg with h | ⟨g', h, hx⟩ | ⟨g', h, hx⟩
    · exact ((Zf3 h).2.2.2.1 g rfl).elim
    · cases hx
    · injection hx with hx; subst hx; exact hhp f g h
  · rcases Zdr hS with h | ⟨g', h, hx⟩ | ⟨g', h, hx⟩
    · exact ((Zf3 h).2.2.2.2 S rfl).elim
    · cases hx
    · cases hx
  · rcases Zdr hn with h | ⟨g', h, hx⟩ | ⟨g', h, hx⟩
    · exact (Zf3 h).2.1 n rfl
    · cases hx
    · cases hx
  · rcases Zdr he with h | ⟨g', h, hx⟩ | ⟨g', h, hx⟩
    · exact (Zf3 h).1 kk e rfl
    · cases hx
    · cases hx
theorem fitW {sp : FuncId → Option (List Value → Option Value)} (hsp : Zks sp) : Fit Tryz.prog (extW sp) := Zta hsp ZsZ
def ZoY : FuncId → Option (List Value → Option Value) := fun _ => none
theorem ZgY : Zks ZoY := fun f g h => by cases h
def ext1 : FuncId → Option Ext := extW ZoY
theorem fit1 : Fit Tryz.prog ext1 := fitW ZgY
theorem ZcG {β : Type} {b : Bool} {x e : β} {y : Option β} (h : (bif b then some x else y) = some e) : (b = true ∧ x = e) ∨ y = some e := by
  cases b with
  | true => injection h with h; exact .inl ⟨rfl, h⟩
  | false => exact .inr h
noncomputable def hp0 : FuncId → Option (Array Value → St → Out) := fun f =>
  bif Nat.beq f 38 then some Zkq else
  bif Nat.beq f 92 then some (Zg7 Tryz.prog Extern.BytealgIndexByte.indexByte) else
  bif Nat.beq f 88 then some (Zg7 Tryz.prog Extern.BytealgCount.count) else
  bif Nat.beq f 21 then some Zok else
  bif Nat.beq f 22 then some Zol else
  bif Nat.beq f 32 then some ZgX else
  bif Nat.beq f 14 then some Zom else
   none
theorem Zsh : Zkt hp0 := by
  intro f g h
  unfold hp0 at h
  rcases ZcG h with ⟨hb, rfl⟩ | h
  · obtain rfl := Nat.eq_of_beq_eq_true hb; exact Zse Tryz.func38 (by kernel_rfl) (by kernel_rfl) (by kernel_rfl) (by kernel_rfl)
  rcases ZcG h with ⟨hb, rfl⟩ | h
  · obtain rfl := Nat.eq_of_beq_eq_true hb; exact ZlY Tryz.func92 (by kernel_rfl) (by kernel_rfl) (by kernel_rfl) (by kernel_rfl)
  rcases ZcG h with ⟨hb, rfl⟩ | h
  · obtain rfl := Nat.eq_of_beq_eq_true hb; exact ZlY Tryz.func88 (by kernel_rfl) (by kernel_rfl) (by kernel_rfl) (by kernel_rfl)
  rcases ZcG h with ⟨hb, rfl⟩ | h
  · obtain rfl := Nat.eq_of_beq_eq_true hb; exact itoa_does
  rcases ZcG h with ⟨hb, rfl⟩ | h
  · obtain rfl := Nat.eq_of_beq_eq_true hb; exact join_does
  rcases ZcG h with ⟨hb, rfl⟩ | h
  · obtain rfl := Nat.eq_of_beq_eq_true hb; exact repeat_does
  rcases ZcG h with ⟨hb, rfl⟩ | h
  · obtain rfl := Nat.eq_of_beq_eq_true hb; exact Zsg
  cases h
noncomputable def Zlh : FuncId → Option Ext := Zlg ZoY hp0
theorem ZoZ : Fit Tryz.prog Zlh := Zta ZgY Zsh
noncomputable def hp1 : FuncId → Option (Array Value → St → Out) := fun f =>
  bif Nat.beq f 44 then some (ZgV Tryz.prog Zlh 20000 44) else
   hp0 f
theorem ZtY : Zkt hp1 := by
  intro f g h
  unfold hp1 at h
  rcases ZcG h with ⟨hb, rfl⟩ | h
  · obtain rfl := Nat.eq_of_beq_eq_true hb; exact Zrs ZoZ Tryz.func44 rfl
  exact Zsh f g h
noncomputable def Zrx (sp : FuncId → Option (List Value → Option Value)) : FuncId → Option Ext := Zlg sp hp1
theorem Ztb {sp : FuncId → Option (List Value → Option Value)} (hsp : Zks sp) : Fit Tryz.prog (Zrx sp) := Zta hsp ZtY
noncomputable def ext : FuncId → Option Ext := Zrx ZoY
theorem fit : Fit Tryz.prog ext := Ztb ZgY
def Zpa (e : FuncId → Option Ext) (tc : FuncId → Bool) : FuncId → Option Ext := fun f => bif tc f then some (.tc (ZaK Tryz.prog f)) else e f
theorem fitT {e : FuncId → Option Ext} {tc : FuncId → Bool} (F : Fit Tryz.prog e) (hb : ∀ f, tc f = true → ∃ (fn : Func) (c : Code), Tryz.prog.funcs[f]? = some fn ∧ fn.body = some c) : Fit Tryz.prog (Zpa e tc) := by
  have cs : ∀ {f : Nat} {x : Ext}, Zpa e tc f = some x → (tc f = true ∧ x = .tc (ZaK Tryz.prog f)) ∨ e f = some x := fun {f x} h => by
    unfold Zpa at h
    cases ht : tc f with
    | true => rw [ht] at h; injection h with h; exact .inl ⟨rfl, h.symm⟩
    | false => rw [ht] at h; exact .inr h
  refine ⟨F.mixed, F.go, fun f g hg => ?_, fun f g hg => ?_, fun f S hS => ?_, fun f n hn => ?_, fun f kk x hx => ?_⟩
  · rcases cs hg with ⟨_, h⟩ | h
    · cases h
    · exact F.fn f g h
  · rcases cs hg with ⟨_, h⟩ | h
    · cases h
    · exact F.hp f g h
  · rcases cs hS with ⟨ht, h⟩ | h
    · injection h with h; subst h; exact ⟨hb f ht, fun _ _ _ _ _ _ h => h⟩
    · exact F.tc f S h
  · rcases cs hn with ⟨_, h⟩ | h
    · cases h
    · exact F.mark f n h
  · rcases cs hx with ⟨_, h⟩ | h
    · cases h
    · exact F.ext f kk x h
def out (r : Out) : Option Value := match r with
  | some (v, s) => match s.ob with
    | [] => bif Zba v && Nat.ble s.n 1000000000 then some v else none
    | _ => none
  | none => none
end Ev
end Go.Proofs.YtaifklllpehnmaaGreatDoor
/- Arguments that hold no address: which cells they have. -/
namespace Go.Proofs.YtaifklllpehnmaaGreatDoor
open Go.ChangeShapes Go.WideShapes Go.ChangeAt Go.RowKit
namespace Ev
section
variable {P : Program} {w : World} {r : Reach} {base : Nat}
theorem Zpb {t : TypeId} {ts : List TypeId} {v : Value} (hu : (match P.underlying t with | some (.struct _) | some (.array _ _) => true | _ => false) = true) (hts : P.cellTypes P.depth t = some ts) (hn : P.cellsOf t = ts.length) (h : Value.okWide P w r base t v) :
  ∃ cs : List Value, v = .agg cs.toArray ∧ cs.length = ts.length ∧ ∀ (i : Nat) u c, ts[i]? = some u → cs[i]? = some c → Cell.okWide P w r base u c := by
 unfold Value.okWide at h
 have key : (∃ cs, v = .agg cs ∧ cs.size = P.cellsOf t ∧ Row.okWide P w r base t cs) → ∃ cs : List Value, v = .agg cs.toArray ∧ cs.length = ts.length ∧ ∀ (i : Nat) u c, ts[i]? = some u → cs[i]? = some c → Cell.okWide P w r base u c := by
  rintro ⟨cs, rfl, hs, ts', h1, _, h3⟩
  rw [hts] at h1
  injection h1 with h1
  subst h1
  refine ⟨cs.toList, by simp, by simpa [hn] using hs, fun i u c hi hc => ?_⟩
  obtain ⟨u', hu', hok⟩ := h3 i c (by simpa using hc)
  have hlt : i < ts.length := (List.getElem?_eq_some_iff.1 hi).1
  rw [Nat.mod_eq_of_lt hlt, hi] at hu'
  injection hu' with hu'
  subst hu'
  exact hok
 split at h
 ·exact key h
 ·exact key h
 ·rename_i h1 h2
  exfalso
  revert hu
  cases hd : P.underlying t with
  | none => simp
  | some d => cases d <;> simp_all
theorem okWide_slice {u e : TypeId} {c : Value} (hu : P.underlying u = some (.slice e)) (h : Cell.okWide P w r base u c) : c.oneCell' = true := by
 unfold Cell.okWide Cell.ok at h
 rw [hu] at h
 cases c <;> first | rfl | (simp at h)
def Ztr : Nat → List (Nat × Bool) → List (Option Bool)
 | _, [] => []
 | n, (i, b) :: l => List.replicate (i - n) none ++ (some b :: Ztr (i + 1) l)
def Zts : Nat → List (Nat × Int) → List (Option Int)
 | _, [] => []
 | n, (i, b) :: l => List.replicate (i - n) none ++ (some b :: Zts (i + 1) l)
def Zon {α : Type} : Nat → List (Nat × α) → List (Option α)
 | _, [] => []
 | n, (i, b) :: l => List.replicate (i - n) none ++ (some b :: Zon (i + 1) l)
def Zk (b : List (Nat × Bool)) (v : List (Nat × Int)) (x : List (Nat × Nat)) (l : List (Nat × List Cell)) (w : List (Nat × Zcb)) : Orc := ⟨Ztr 0 b, Zts 0 v, Zon 0 x, Zon 0 l, Zon 0 w⟩
theorem Ze : ∀ p ∈ ([] : List (Bool × Bool)), p.1 = p.2 := by simp
theorem Zb {a b : Bool} {l : List (Bool × Bool)} (h : a = b) (hl : ∀ q ∈ l, q.1 = q.2) : ∀ q ∈ (a, b) :: l, q.1 = q.2 := by
 intro q hq
 rcases List.mem_cons.1 hq with rfl | hq
 ·exact h
 ·exact hl q hq
theorem ZtZ {x : Int} (h : -9223372036854775808 ≤ x ∧ x < 9223372036854775808) : IntKind.i64.wrap x = x := by
 rw [IntKind.wrap_i64]
 omega
theorem Zf4 {b : Int} (h : 0 ≤ b) : b = Int.ofNat b.toNat := (Int.toNat_of_nonneg h).symm
theorem Zua {n m : Nat} (h : n < m) : Nat.blt n m = true := Nat.ble_eq_true_of_le h
end
end Ev
end Go.Proofs.YtaifklllpehnmaaGreatDoor
/- How runs of functions with loops are written: what is looked at of a stop, and rows of numbers. -/
namespace Go.Proofs.YtaifklllpehnmaaGreatDoor
open Go.RowKit
namespace Ev
/-! ### Where a loop stands -/
def Zcn : List Nat → Code → List Zbi → Code × List Zbi
  | [], .loop a, K => (a, K)
  | 0 :: p, .seq a b, K => Zcn p a (.seq b :: K)
  | 1 :: p, .seq _ b, K => Zcn p b K
  | 2 :: p, .scope a, K => Zcn p a (.scp :: K)
  | 3 :: p, .block i a, K => Zcn p a (.blk i :: K)
  | 4 :: p, .cond _ a _, K => Zcn p a K
  | 5 :: p, .cond _ _ b, K => Zcn p b K
  | (n + 6) :: p, .loop a, K => Zcn p a (.rnd n :: K)
  | _, _, K => (.skip, K)
def ZdD (fn : Func) : Code := match fn.body with | some c => c | none => .skip
noncomputable section
def ZaG (live : List Nat) (r : Option Stop) : Option (Value × List (Option AObj) × List (Bool × Bool)) :=
  match r with
  | some (.fin u s) => bif Nat.ble s.n 1000000000 then some (u, live.map s.h.get, s.ob) else none
  | _ => none
end
theorem Zid {live : List Nat} {r : Option Stop} {u : Value} {bl : List (Option AObj)} {ob : List (Bool × Bool)} (h : ZaG live r = some (u, bl, ob)) : ∃ s, r = some (.fin u s) ∧ live.map s.h.get = bl ∧ s.ob = ob ∧ s.n ≤ far := by
  unfold ZaG at h
  split at h
  · rename_i u' s
    obtain ⟨hn, h⟩ := Zr h
    injection h with h
    simp only [Prod.mk.injEq] at h
    obtain ⟨rfl, rfl, rfl⟩ := h
    exact ⟨s, rfl, rfl, rfl, Nat.le_of_ble_eq_true hn⟩
  · cases h
def Ze2 (ρ : Nat → Nat) : AObj → AObj → Prop
  | .ro O, .ro O' => O = O'
  | .ro O true, .ro O' true => O = O'
  | .cells c t, .cells c' t' => t = t' ∧ (∃ r, c.map (Za2 ρ 1) = c' ++ r) ∧ Z4 (Zam 1) c = true
  | _, _ => False
def Zbu (ρ : Nat → Nat) : List (Option AObj) → List (Option AObj) → Prop
  | _, [] => True
  | some o :: bl, some p :: l => Ze2 ρ o p ∧ Zbu ρ bl l
  | _ :: bl, none :: l => Zbu ρ bl l
  | _, _ => False
def Ze3 (ρ : Nat → Nat) : List (Option Value) → List (Nat × Value) → Prop
  | _, [] => True
  | some u :: tv, x :: l => (x.2 = Za2 ρ 3 u ∧ Zam 3 u = true) ∧ Ze3 ρ tv l
  | _, _ => False
theorem Zc9 {ρ : Nat → Nat} {h : AH} : ∀ {live : List Nat} {l : List (Option AObj)}, Zbu ρ (live.map h) l → ∀ j o, lkO l j = some o → ∃ k, live[j]? = some k ∧ match o with
      | .ro O m => h k = some (.ro O m)
      | .cells c t => ∃ c' r, h k = some (.cells c' t) ∧ c'.map (Za2 ρ 1) = c ++ r ∧ Z4 (Zam 1) c' = true
  | live, [], _, j, o, hj => by simp [lkO] at hj
  | [], x :: l, hb, j, o, hj => by cases x <;> exact hb.elim
  | k :: live, none :: l, hb, j, o, hj => by
    have hb' : Zbu ρ (live.map h) l := by
      simp only [List.map_cons] at hb
      cases hk : h k <;> rw [hk] at hb <;> exact hb
    cases j with
    | zero => simp [lkO] at hj
    | succ j => obtain ⟨k', q1, q2⟩ := Zc9 hb' j o (by simpa [lkO] using hj); exact ⟨k', by simpa using q1, q2⟩
  | k :: live, some p :: l, hb, j, o, hj => by
    simp only [List.map_cons] at hb
    cases hk : h k with
    | none => rw [hk] at hb; exact hb.elim
    | some o1 =>
      rw [hk] at hb
      cases j with
      | zero =>
        have : p = o := by simpa [lkO] using hj
        subst this
        refine ⟨k, rfl, ?_⟩
        have h1 := hb.1
        cases o1 with
        | cells c1 t1 =>
          cases p with
          | cells c2 t2 => simp only [Ze2] at h1; obtain ⟨rfl, ⟨r, hr⟩, hs⟩ := h1; exact ⟨_, r, hk, hr, hs⟩
          | ro O2 m2 => cases m2 <;> exact h1.elim
        | ro O1 m1 =>
          cases p with
          | cells c2 t2 => cases m1 <;> exact h1.elim
          | ro O2 m2 =>
            cases m1 <;> cases m2
            · obtain rfl : O1 = O2 := h1; exact hk
            · exact h1.elim
            · exact h1.elim
            · obtain rfl : O1 = O2 := h1; exact hk
      | succ j => obtain ⟨k', q1, q2⟩ := Zc9 hb.2 j o (by simpa [lkO] using hj); exact ⟨k', by simpa using q1, q2⟩
theorem Zpc {ρ : Nat → Nat} {T : Tr Value} : ∀ {l : List (Nat × Value)}, Ze3 ρ ((l.map (·.1)).map T.get) l → ∀ t v, Za6 t l = some v → v = Za2 ρ 3 ((T.get t).getD undef) ∧ Zam 3 ((T.get t).getD undef) = true
  | [], _, t, v, h => by cases h
  | x :: l, ht, t, v, h => by
    simp only [List.map_cons] at ht
    cases hx : T.get x.1 with
    | none => rw [hx] at ht; exact ht.elim
    | some u =>
      rw [hx] at ht
      unfold Za6 at h
      cases hb : Nat.beq x.1 t with
      | true =>
        rw [hb] at h
        injection h with h
        obtain rfl := Nat.eq_of_beq_eq_true hb
        subst h
        rw [hx]
        exact ht.1
      | false => rw [hb] at h; exact Zpc ht.2 t v h
section
variable {P : Program} {ext : FuncId → Option Ext}
end
/-! ### Rows of numbers -/
theorem Ztc {a b : Int} (h : 0 ≤ a) : Int.tmod a b = a % b := Int.tmod_eq_emod_of_nonneg h
theorem Ztd {a b : Int} (h : 0 ≤ a) : Int.tdiv a b = a / b := Int.tdiv_eq_ediv_of_nonneg h
theorem wrap_i64 {x : Int} (h : -9223372036854775808 ≤ x ∧ x ≤ 9223372036854775807) : IntKind.i64.wrap x = x := ZtZ (by omega)
theorem ZqB {x : Int} (h : 0 ≤ x ∧ x ≤ 255) : IntKind.u8.wrap x = x := by
  have e : IntKind.u8.wrap x = x % 256 := by simp [IntKind.wrap, IntKind.bits, IntKind.signed]
  rw [e]; omega
theorem Zpd {x : Int} (h : 0 ≤ x ∧ x ≤ 18446744073709551615) : IntKind.u64.wrap x = x := by
  have e : IntKind.u64.wrap x = x % 18446744073709551616 := by simp [IntKind.wrap, IntKind.bits, IntKind.signed]
  rw [e]; omega
theorem Zay {k o o' n n' c c' : Nat} (h1 : o = o') (h2 : n = n') (h3 : c = c') : Value.slice (some ⟨k, o, none⟩) n c = .slice (some ⟨k, o', none⟩) n' c' := by rw [h1, h2, h3]
theorem Zt {α : Type} {a b : α} {l r : List α} (h : a = b) (t : l = r) : a :: l = b :: r := by rw [h, t]
theorem Z7 {l r : List Value} (h : l = r) : Value.tuple l.toArray = .tuple r.toArray := by rw [h]
/-! ### Rows of bools -/
/-! ### Rows of the caller's -/
end Ev
end Go.Proofs.YtaifklllpehnmaaGreatDoor
/- Calls that are told, from what is known of a function. -/
namespace Go.Proofs.YtaifklllpehnmaaGreatDoor
open Go.RowKit
namespace Ev
section
variable {P : Program} {ext : FuncId → Option Ext}
def preL (κ : List Nat) (n : Nat) (pre : List AObj) : List (Nat × AObj) := κ.zip (pre.map (ZfG (kap κ n)))
def Ztt (κ : List Nat) (n : Nat) (ch : List Nat) (post : List (Option AObj)) : List (Nat × Option AObj) := ch.map fun j => (kap κ n j, (lkO post j).map (ZfG (kap κ n)))
def Zit (m : Nat) : List AObj → Prop
 | [] => True
 | o :: l => Zfy m o = true ∧ Zit m l
def ZeY (m : Nat) : List (Option AObj) → Prop
 | [] => True
 | some o :: l => Zfy m o = true ∧ ZeY m l
 | none :: l => ZeY m l
theorem Zmb {m : Nat} : ∀ {l : List AObj}, Zit m l → ∀ o ∈ l, Zfy m o = true
 | x :: l, h, o, ho => by
  rcases List.mem_cons.1 ho with rfl | ho
  ·exact h.1
  ·exact Zmb h.2 o ho
theorem ZfL {m : Nat} : ∀ {l : List (Option AObj)}, ZeY m l → ∀ o, some o ∈ l → Zfy m o = true
 | some x :: l, h, o, ho => by
  rcases List.mem_cons.1 ho with e | ho
  ·injection e with e; subst e; exact h.1
  ·exact ZfL h.2 o ho
 | none :: l, h, o, ho => by
  rcases List.mem_cons.1 ho with e | ho
  ·cases e
  ·exact ZfL (l := l) h o ho
def Zry (ch : List Nat) : Nat → List AObj → List (Option AObj) → Prop
 | _, _, [] => True
 | j, o :: l, p :: r => (j ∈ ch ∨ p = some o) ∧ Zry ch (j + 1) l r
 | j, [], _ :: r => j ∈ ch ∧ Zry ch (j + 1) [] r
theorem Zli {ch : List Nat} : ∀ {l : List AObj} {r : List (Option AObj)} {j : Nat}, Zry ch j l r → ∀ i, i < r.length → j + i ∈ ch ∨ (i < l.length ∧ r[i]? = some l[i]?)
 | o :: l, p :: r, j, h, 0, _ => by
  rcases h.1 with h | h
  ·exact .inl h
  ·exact .inr ⟨by simp, by simp [h]⟩
 | o :: l, p :: r, j, h, i + 1, hi => by
  rcases Zli h.2 i (by simpa using hi) with q | ⟨q1, q2⟩
  ·exact .inl (by rwa [show j + (i + 1) = j + 1 + i by omega])
  ·exact .inr ⟨by simpa using q1, by simpa using q2⟩
 | [], p :: r, j, h, 0, _ => .inl h.1
 | [], p :: r, j, h, i + 1, hi => by
  rcases Zli h.2 i (by simpa using hi) with q | ⟨q1, q2⟩
  ·exact .inl (by rwa [show j + (i + 1) = j + 1 + i by omega])
  ·simp at q1
theorem Zpe {α : Type} {k : Nat} {x : α} : ∀ {ks : List Nat} {l : List α} {j : Nat}, ks.Nodup → ks[j]? = some k → l[j]? = some x → Za6 k (ks.zip l) = some x
 | a :: ks, b :: l, 0, _, h1, h2 => by
  simp at h1 h2
  subst h1 h2
  simp [Za6]
 | a :: ks, b :: l, j + 1, hn, h1, h2 => by
  have hm : k ∈ ks := List.mem_of_getElem? (by simpa using h1)
  have hne : a ≠ k := fun e => by subst e; exact (List.nodup_cons.1 hn).1 hm
  show Za6 k ((a, b) :: ks.zip l) = _
  unfold Za6
  rw [Zdj hne]
  exact Zpe (List.nodup_cons.1 hn).2 (by simpa using h1) (by simpa using h2)
 | [], _, j, _, h1, _ => by simp at h1
 | a :: ks, [], j, _, _, h2 => by simp at h2
theorem Zpf {f : Nat → Nat} {g : Nat → Option AObj} (hf : ∀ i j, f i = f j → i = j) (j : Nat) : ∀ ch : List Nat, Za6 (f j) (ch.map fun i => (f i, g i)) = if j ∈ ch then some (g j) else none
 | [] => rfl
 | a :: ch => by
  show Za6 (f j) ((f a, g a) :: ch.map fun i => (f i, g i)) = _
  unfold Za6
  by_cases h : a = j
  ·subst h; rw [Zdk rfl]; simp
  ·rw [Zdj (fun e => h (hf _ _ e)), cond_false, Zpf hf j ch]
   simp [show ¬ j = a from fun e => h e.symm]
theorem LSpec.callL {f : FuncId} {A : Array Value} {pre : List AObj} {v : Value} {post : List (Option AObj)} (h : LSpec P f A pre v post) (κ : List Nat) (n : Nat) (ch : List Nat) (hκ : κ.length = pre.length) (hnd : κ.Nodup) (hlt : ∀ k ∈ κ, k < n) (hle : pre.length ≤ post.length) (hch : ∀ j ∈ ch, j < post.length)
  (hA : Z4 (Zbm pre.length 3) A.toList = true) (hpre : Zit pre.length pre) (hv : Zbm post.length 3 v = true) (hpost : ZeY post.length post) (hk : Zry ch 0 pre post)
  {A' : Array Value} {pre' : List (Nat × AObj)} {v' : Value} {post' : List (Nat × Option AObj)} {dn : Nat} (eA : A' = Zdn (Za2 (kap κ n) 3) A) (ev : v' = Za2 (kap κ n) 3 v) (edn : pre.length + dn = post.length) (ep : pre' = preL κ n pre) (eq : post' = Ztt κ n ch post) : ZaK P f A' pre' v' post' n dn := by
 have kl : ∀ j, j < pre.length → κ[j]? = some (kap κ n j) := fun j hj => Zkl (by omega)
 have kn : ∀ j, j < pre.length → kap κ n j < n := fun j hj => hlt _ (List.mem_of_getElem? (kl j hj))
 have kg : ∀ j, pre.length ≤ j → kap κ n j = n + (j - pre.length) := fun j hj => by rw [← hκ]; exact Zsa (by omega)
 have kinj : ∀ i j, kap κ n i = kap κ n j → i = j := fun i j hij => by
  rcases Nat.lt_or_ge i pre.length with h1 | h1 <;> rcases Nat.lt_or_ge j pre.length with h2 | h2
  ·have a := kl i h1
   have b := kl j h2
   rw [hij, ← b] at a
   exact (List.getElem?_inj (by omega) hnd).1 a
  ·have := kn i h1; rw [hij, kg j h2] at this; omega
  ·have := kn j h2; rw [← hij, kg i h1] at this; omega
  ·rw [kg i h1, kg j h2] at hij; omega
 have lp : ∀ j o, pre[j]? = some o → Za6 (kap κ n j) pre' = some (ZfG (kap κ n) o) := fun j o ho => by
  subst ep
  have hj : j < pre.length := (List.getElem?_eq_some_iff.1 ho).1
  exact Zpe hnd (kl j hj) (by rw [List.getElem?_map, ho]; rfl)
 have ip : ∀ k o, Za6 k pre' = some o → ∃ j, j < pre.length ∧ k = kap κ n j := fun k o ho => by
  subst ep
  obtain ⟨j, hj1, hj2⟩ := List.getElem_of_mem (List.of_mem_zip (ZeI ho)).1
  have hj : j < pre.length := by omega
  refine ⟨j, hj, ?_⟩
  have := kl j hj
  rw [List.getElem?_eq_getElem hj1, hj2] at this
  exact Option.some.inj this
 have lq : ∀ j, Za6 (kap κ n j) post' = if j ∈ ch then some ((lkO post j).map (ZfG (kap κ n))) else none := fun j => by
  subst eq
  exact Zpf (g := fun j => (lkO post j).map (ZfG (kap κ n))) kinj j ch
 refine h.call κ n hκ hnd hlt hle hA (Zmb hpre) hv (ZfL hpost) eA ev edn lp ip (fun j hj => ?_) (fun k o ho => ?_)
 ·unfold behind
  rw [lq j]
  rcases Zli hk j hj with hc | ⟨h1, h2⟩
  ·rw [Nat.zero_add] at hc
   rw [if_pos hc]
  ·by_cases hc : j ∈ ch
   ·rw [if_pos hc]
   ·rw [if_neg hc]
    have ho : pre[j]? = some pre[j] := List.getElem?_eq_getElem h1
    show Za6 (kap κ n j) pre' = _
    rw [lp j _ ho]
    simp [lkO, h2, ho]
 ·unfold behind at ho
  split at ho
  ·rename_i o' hl
   subst eq
   have := ZeI hl
   unfold Ztt at this
   obtain ⟨j, hj, he⟩ := List.mem_map.1 this
   injection he with h1 h2
   exact ⟨j, hch j hj, h1.symm⟩
  ·obtain ⟨j, hj, hk⟩ := ip k o ho
   exact ⟨j, by omega, hk⟩
end
end Ev
end Go.Proofs.YtaifklllpehnmaaGreatDoor
/- Functions of many loops: one behind the other, one in another. -/
namespace Go.Proofs.YtaifklllpehnmaaGreatDoor
open Go.RowKit
namespace Ev
section
variable {P : Program} {ext : FuncId → Option Ext}
variable {fn : Func} {pre : List AObj} {v : Value} {po : List (Option AObj)} {X : Type} {m i : Nat} {L : X → List (Nat × Value)} {H : X → List AObj} {μ : X → Nat} {bd : X → List Nat} {Gb : List Nat → Ren → World → (Nat → Act → World → Prop) → Prop} {x : X} {c : Code} {K : List Zbi} {T0 : Tr Value} {fu : Nat} {orc : Orc} {live : List Nat} {bl : List (Option AObj)} {ob : List (Bool × Bool)}
end
/-! ### A law -/
theorem Zub (P : Program) {w : World} (ht : TabW w) : Emb P (ιMk w) (lk []) w := by
 rw [show lk [] = fun _ => none from funext fun k => by simp [lk]]
 exact Zt7 P ht
theorem Zsi {P : Program} {f : FuncId} {A : Array Value} {post : List (Option AObj)} {v : Value} (h : LSpec P f A [] v post) {w : World} {args' : Array Value} (ha : VRs (ιMk w) A args') (hv : Zba v = true) (ht : TabW w := by first | assumption | (intro x hx; cases hx; done)) : Calls P f args' w (Ret v w) := by
 refine (h (ιMk w) w args' (fun k hk => ?_) ha (Zub P ht)).mono ?_
 ·cases hq : ιMk w k with
  | none => exact absurd hq hk
  | some q =>
   obtain ⟨b, base, id, rfl, _⟩ := ιMk_inv hq
   exact .inr (ZkZ b base id)
 ·rintro e w' ⟨v', ι', rfl, hS, _, hvr⟩
  have := hvr.eq_of_free hv
  subst this
  exact ⟨rfl, hS.os, hS.tape, hS.output, hS.size, fun b hb => hS.frame b hb fun k c hk => by simp [lk, isC] at hk⟩
end Ev
end Go.Proofs.YtaifklllpehnmaaGreatDoor
/- Arguments that are slices of structs of ints, opened, over any program. -/
namespace Go.Proofs.YtaifklllpehnmaaGreatDoor
open Go.ChangeShapes Go.WideShapes Go.ChangeAt Go.RowKit Go.Deep
section
variable {H : Type} {enc : TypeId × Value → H} {P : Program} {w : World}

end
end Go.Proofs.YtaifklllpehnmaaGreatDoor
/- Arguments that are rows of numbers: blocks of the caller's, that are read alone. -/
namespace Go.Proofs.YtaifklllpehnmaaGreatDoor
open Go.ChangeShapes Go.WideShapes Go.ChangeAt Go.RowKit
namespace Ev
section
variable {P : Program} {w : World}
theorem ZfX {b o : Nat} {v : Value} (h : w.cell? ⟨b, o, none⟩ = some v) : ∃ C t fr, w.heap[b]? = some (.cells C t fr) ∧ C[o]? = some v := by
 unfold World.cell? at h
 split at h
 ·rename_i c e fr hb
  split at h
  ·cases h
  ·exact ⟨c, e, fr, hb, h⟩
 ·cases h
end
end Ev
end Go.Proofs.YtaifklllpehnmaaGreatDoor
