/- Part 3. -/
import Derived.Test.YtlbbiflodemagaaDoorZab
import Derived.Recover
import Derived.WalkSmall
import Derived.Test.YtlbbiflodemagaaDoorRows
import Derived.WalkKit
import Derived.WalkLawsBesides
import Derived.WalkSpells
import Derived.ProofKit
import Derived.OpenShut
import Derived.Outline
import Derived.BigQuiet
import Derived.BigGuardPart
import Derived.Lib.Hide
import Derived.Lib.SmallJoins
import Derived.SizedLaws
import Derived.Deep.Slices
import Derived.Deep.Fields
import Derived.Carry
import Derived.RangeFuncLeaves
import Derived.OrdersIn
import Derived.LoopNIn
import Derived.TacticsIn
import Derived.RangeFuncRecord
import Derived.Laws.Externs
import Derived.Shelf.Strings.OnBuilder
import Derived.Shelf.Strings.Repeat
import Derived.Shelf.Strconv.Itoa3
import Derived.Lib.UnsafeStr
import Derived.RegionTactic
import Derived.Shelf.RegionOpenPlain
import Derived.Shelf.Strings.Cut
import Derived.Shelf.Strings.Split
import Derived.Shelf.Strings.Prefix
import Derived.Shelf.Strconv.AtoiAll
import Derived.Lib.IndexBytes
import Derived.Lib.IndexLaws
import Derived.Lib.AtoiTie
set_option linter.unusedSimpArgs false
set_option linter.unusedVariables false
/- Loops by induction: a round by the runner, between rounds the blocks are numbered anew. -/
namespace Go.Proofs.YtlbbiflodemagaaDoor
open Go.RowKit
namespace Ev
def renA (ρ : Nat → Nat) : Value → Value
 | .pointer (some ⟨k, o, none⟩) => .pointer (some ⟨ρ k, o, none⟩)
 | .slice (some ⟨k, o, none⟩) n c => .slice (some ⟨ρ k, o, none⟩) n c
 | .map (some k) => .map (some (ρ k))
 | v => v
def Zgs (f : Value → Value) (a : Array Value) : Array Value := (a.toList.map f).toArray
theorem Zty (f : Value → Value) (a : Array Value) : Zgs f a = a.map f := by
 unfold Zgs
 apply Array.ext' 
 simp
def Zam (ρ : Nat → Nat) : Nat → Value → Value
 | d + 1, .agg cs => .agg (Zgs (Zam ρ d) cs)
 | d + 1, .tuple cs => .tuple (Zgs (Zam ρ d) cs)
 | d + 1, .func f a b => .func f (Zgs (Zam ρ d) a) (Zgs (Zam ρ d) b)
 | _, v => renA ρ v
def ZY : Nat → Value → Bool
 | d + 1, .agg cs => Zw (ZY d) cs.toList
 | d + 1, .tuple cs => Zw (ZY d) cs.toList
 | d + 1, .func _ a b => Zw (ZY d) a.toList && Zw (ZY d) b.toList
 | 0, .agg _ => false
 | 0, .tuple _ => false
 | 0, .func _ a b => a.isEmpty && b.isEmpty
 | _, _ => true
section
variable {P : Program} {ext : FuncId → Option Ext}
theorem ZiC {ι : Ren} {f : Value → Value} {a a' : Array Value} (hs : a.size = a'.size) (h : ∀ (i : Nat) x y, a[i]? = some x → a'[i]? = some y → VR ι (f x) y) : (Zgs f a).size = a'.size ∧ ∀ (i : Nat) x y, (Zgs f a)[i]? = some x → a'[i]? = some y → VR ι x y := by
 rw [Zty]
 refine ⟨by simpa using hs, fun i x y hx hy => ?_⟩
 rw [Array.getElem?_map] at hx
 cases ha : a[i]? with
 | none => rw [ha] at hx; cases hx
 | some z => rw [ha] at hx; injection hx with hx; subst hx; exact h i z y ha hy
theorem ZpW {ρ : Nat → Nat} {v : Value} (h : atom v = true) : renA ρ v = v := by
 cases v with
 | pointer a => cases a with
  | none => rfl
  | some a => simp [atom] at h
 | slice a n c => cases a with
  | none => rfl
  | some a => simp [atom] at h
 | map a => cases a with
  | none => rfl
  | some a => simp [atom] at h
 | _ => rfl
theorem ZhK {ρ : Nat → Nat} (d : Nat) {v : Value} (h : atom v = true) : Zam ρ d v = v := by
 cases d with
 | zero => exact ZpW h
 | succ d =>
  cases v with
  | agg cs => simp [atom] at h
  | tuple cs => simp [atom] at h
  | func f a b =>
   cases f <;> simp [atom] at h
   obtain ⟨h1, h2⟩ := h
   subst h1 h2
   simp [Zam, Zgs]
  | _ => exact ZpW h
theorem Zhu {ι ι2 : Ren} {ρ : Nat → Nat} (hι : ∀ k b, ι k = some b → ι2 (ρ k) = some b) (hm : ∀ b base id, ρ (ZX b base id) = ZX b base id) : ∀ (d : Nat) (v v' : Value), VR ι v v' → ZY d v = true → VR ι2 (Zam ρ d v) v'
 | d, v, v', h, hd => by
  cases h with
  | atom h => rw [ZhK d h]; exact .atom h
  | glob h => cases d <;> exact .glob h
  | ptr h => cases d <;> exact .ptr (hι _ _ h)
  | map h => cases d <;> exact .map (hι _ _ h)
  | slice h hn hc hq => cases d <;> exact .slice (hι _ _ h) hn hc hq
  | slice0 h =>
   rename_i A _
   obtain ⟨k, o, sp⟩ := A
   cases sp <;> cases d <;> exact .slice0 h
  | mptr h =>
   have h' := hι _ _ h
   rw [hm] at h'
   cases d <;> exact .mptr h'
  | mslice h hn hc =>
   have h' := hι _ _ h
   rw [hm] at h'
   cases d <;> exact .mslice h' hn hc
  | func hs ht h1 h2 =>
   cases d with
   | zero =>
    simp only [ZY, Bool.and_eq_true, Array.isEmpty_iff] at hd
    obtain ⟨rfl, rfl⟩ := hd
    exact .func hs ht (fun i x y hx => by simp at hx) (fun i x y hx => by simp at hx)
   | succ d =>
    simp only [ZY, Bool.and_eq_true] at hd
    obtain ⟨q1, q2⟩ := ZiC (f := Zam ρ d) hs fun i x y hx hy => Zhu hι hm d x y (h1 i x y hx hy) (Zay hd.1 i x hx)
    obtain ⟨q3, q4⟩ := ZiC (f := Zam ρ d) ht fun i x y hx hy => Zhu hι hm d x y (h2 i x y hx hy) (Zay hd.2 i x hx)
    exact .func q1 q3 q2 q4
  | agg hs h1 =>
   cases d with
   | zero => simp [ZY] at hd
   | succ d =>
    simp only [ZY] at hd
    obtain ⟨q1, q2⟩ := ZiC (f := Zam ρ d) hs fun i x y hx hy => Zhu hι hm d x y (h1 i x y hx hy) (Zay hd i x hx)
    exact .agg q1 q2
  | tuple hs h1 =>
   cases d with
   | zero => simp [ZY] at hd
   | succ d =>
    simp only [ZY] at hd
    obtain ⟨q1, q2⟩ := ZiC (f := Zam ρ d) hs fun i x y hx hy => Zhu hι hm d x y (h1 i x y hx hy) (Zay hd i x hx)
    exact .tuple q1 q2
theorem Zuq {ι ι2 : Ren} {ρ : Nat → Nat} (hι : ∀ k b, ι k = some b → ι2 (ρ k) = some b) (hm : ∀ b base id, ρ (ZX b base id) = ZX b base id) {v v' : Value} (h : VR ι v v') : ∃ u, VR ι2 u v' := by
 have arr : ∀ {a a' : Array Value}, a.size = a'.size → (∀ (i : Nat) x y, a[i]? = some x → a'[i]? = some y → ∃ u, VR ι2 u y) → ∃ c : Array Value, c.size = a'.size ∧ ∀ (i : Nat) x y, c[i]? = some x → a'[i]? = some y → VR ι2 x y := fun {a a'} hs hx => by
  have each : ∀ i : Fin a'.size, ∃ u, VR ι2 u a'[i] := fun i => hx i a[i] a'[i] (Array.getElem?_eq_getElem (by omega)) (Array.getElem?_eq_getElem i.2)
  refine ⟨Array.ofFn fun i => (each i).choose, by simp, fun i x y h1 h2 => ?_⟩
  obtain ⟨hlt, rfl⟩ := Array.getElem?_eq_some_iff.1 h2
  rw [Array.getElem?_ofFn, dif_pos hlt] at h1
  injection h1 with h1
  subst h1
  exact (each ⟨i, hlt⟩).choose_spec
 induction h with
 | atom h => exact ⟨_, .atom h⟩
 | glob h => exact ⟨_, .glob (g := 0) h⟩
 | ptr h => exact ⟨_, .ptr (hι _ _ h)⟩
 | map h => exact ⟨_, .map (hι _ _ h)⟩
 | slice h hn hc hq => exact ⟨_, .slice (hι _ _ h) hn hc hq⟩
 | slice0 h => exact ⟨_, .slice0 (A := ⟨0, 0, none⟩) h⟩
 | mptr h =>
  have h' := hι _ _ h
  rw [hm] at h'
  exact ⟨_, .mptr (z := 0) h'⟩
 | mslice h hn hc =>
  have h' := hι _ _ h
  rw [hm] at h'
  exact ⟨_, .mslice (z := 0) h' hn hc⟩
 | func hs ht h1 h2 ih1 ih2 =>
  obtain ⟨c, q1, q2⟩ := arr hs ih1
  obtain ⟨d, q3, q4⟩ := arr ht ih2
  exact ⟨_, .func q1 q3 q2 q4⟩
 | agg hs h1 ih =>
  obtain ⟨c, q1, q2⟩ := arr hs ih
  exact ⟨_, .agg q1 q2⟩
 | tuple hs h1 ih =>
  obtain ⟨c, q1, q2⟩ := arr hs ih
  exact ⟨_, .tuple q1 q2⟩
noncomputable def ZqE : Nat → Nat → (Nat → Option Value) → (Nat → Value) → Tr Value → Tr Value
 | 0, _, _, _, T => T
 | n + 1, t, L, gv, T => ZqE n (t + 1) L gv (T.set t (some (match L t with | some v => v | none => gv t)))
noncomputable def tmps (nt : Nat) (L : Nat → Option Value) (gv : Nat → Value) : Tr Value := ZqE nt 0 L gv .nil
theorem ZpX (L : Nat → Option Value) (gv : Nat → Value) : ∀ (n t : Nat) (T : Tr Value) (k : Nat), (ZqE n t L gv T).get k = if t ≤ k ∧ k < t + n then some (match L k with | some v => v | none => gv k) else T.get k
 | 0, t, T, k => by rw [if_neg (by omega)]; rfl
 | n + 1, t, T, k => by
  show (ZqE n (t + 1) L gv _).get k = _
  rw [ZpX L gv n (t + 1), Tr.get_set]
  by_cases hk : k = t
  ·subst hk
   rw [if_neg (by omega), Zr, if_pos (by omega)]
  ·rw [Zk hk]
   by_cases h : t + 1 ≤ k ∧ k < t + 1 + n
   ·rw [if_pos h, if_pos (by omega)]
   ·rw [if_neg h, if_neg (by omega)]
theorem Zrz (nt : Nat) (L : Nat → Option Value) (gv : Nat → Value) (k : Nat) : (tmps nt L gv).get k = if k < nt then some (match L k with | some v => v | none => gv k) else none := by
 unfold tmps
 rw [ZpX]
 by_cases h : k < nt
 ·rw [if_pos (by omega), if_pos h]
 ·rw [if_neg (by omega), if_neg h]; rfl
def At (P : Program) (nt : Nat) (T : Tr Value) (h : AH) (m M : Nat) (ι0 : Ren) (h0 : AH) (w0 : World) (a : Act) (w : World) : Prop :=
 ∃ ι, TR ι nt [] T a ∧ Step P ι0 h0 w0 ι h w ∧ ∀ k, m ≤ k → k < M → ι k = none
def ZbF (k : Nat) : Prop := 1000000000 ≤ k ∧ k % 2 = 0
theorem Zg7 (b base id : Nat) : ZbF (ZX b base id) := Zfb b base id
def rho (live : List Nat) (M : Nat) (k : Nat) : Nat := if M ≤ k ∧ k % 2 = 0 then k else if k ∈ live then live.idxOf k else if k < M then M + 2 * k + 1 else k + 2 * M
def sig (live : List Nat) (M : Nat) (j : Nat) : Option Nat :=
 if j < live.length then live[j]?
 else if M ≤ j then
  (if j % 2 = 0 then some j else if j < 3 * M then (if (j - M - 1) / 2 ∉ live then some ((j - M - 1) / 2) else none) else if j - 2 * M ∉ live then some (j - 2 * M) else none)
 else none
theorem Zx4 {live : List Nat} {M : Nat} (hM : live.length ≤ M) (h2 : M % 2 = 0) (hl : ∀ k ∈ live, k < M) (k : Nat) : sig live M (rho live M k) = some k := by
 unfold rho
 split
 ·rename_i h
  unfold sig
  rw [if_neg (by omega), if_pos h.1, if_pos h.2]
 ·rename_i h
  split
  ·rename_i hk
   have hlt := List.idxOf_lt_length_of_mem hk
   unfold sig
   rw [if_pos hlt, List.getElem?_eq_getElem hlt]
   simp
  ·rename_i hk
   split
   ·rename_i hkM
    unfold sig
    have e : (M + 2 * k + 1 - M - 1) / 2 = k := by omega
    rw [if_neg (by omega), if_pos (by omega), if_neg (by omega), if_pos (by omega), e, if_pos hk]
   ·rename_i hkM
    unfold sig
    have e : k + 2 * M - 2 * M = k := by omega
    rw [if_neg (by omega), if_pos (by omega), if_neg (by omega), if_neg (by omega), e, if_pos hk]
theorem Zmu {live : List Nat} {M : Nat} (hn : live.Nodup) (h2 : M % 2 = 0) (hl : ∀ k ∈ live, k < M) {j k : Nat} (h : sig live M j = some k) : rho live M k = j := by
 unfold sig at h
 split at h
 ·rename_i hlt
  rw [List.getElem?_eq_getElem hlt] at h
  injection h with h
  subst h
  have hm : live[j] ∈ live := List.getElem_mem hlt
  have := hl _ hm
  unfold rho
  rw [if_neg (by omega), if_pos hm]
  exact hn.idxOf_getElem j hlt
 ·split at h
  ·split at h
   ·injection h with h
    subst h
    unfold rho
    rw [if_pos ⟨by assumption, by assumption⟩]
   ·split at h
    ·split at h
     ·rename_i hc
      injection h with h
      subst h
      unfold rho
      rw [if_neg (by omega), if_neg hc, if_pos (by omega)]
      omega
     ·cases h
    ·split at h
     ·rename_i hc
      injection h with h
      subst h
      unfold rho
      rw [if_neg (by omega), if_neg hc, if_neg (by omega)]
      omega
     ·cases h
  ·cases h
theorem FzC.ren {ι ι2 : Ren} {ρ : Nat → Nat} (hι : ∀ k b, ι k = some b → ι2 (ρ k) = some b) (hm : ∀ b base id, ρ (ZX b base id) = ZX b base id) {w : World} {b base id : Nat} (h : FzC ι w b base id) : FzC ι2 w b base id := by
 obtain ⟨c, C, t, fr, h1, h2, h3, h4, h5⟩ := h
 refine ⟨c, C, t, fr, h1, h2, h3, fun i x y hx hy => ?_, h5⟩
 have hv := h4 i x y hx hy
 unfold Zu at hx
 rw [List.getElem?_map] at hx
 cases hb : c[i]? with
 | none => rw [hb] at hx; cases hx
 | some z =>
  rw [hb] at hx
  injection hx with hx
  subst hx
  have := Zhu hι hm 0 _ _ hv (by cases z <;> rfl)
  have e : Zam ρ 0 (Zdl z) = Zdl z := by cases z <;> rfl
  rwa [e] at this
theorem Zx5 {c c' r : List Value} {f : Value → Value} {q : Bool} (hcr : c'.map f = c ++ r) (hq : q = true → r = []) (h : q = true) : c'.isEmpty = c.isEmpty := by
 rw [hq h, List.append_nil] at hcr
 subst hcr
 cases c' <;> rfl
theorem Ztz {c c' r : List Value} {f : Value → Value} {t : TypeId} {q : Bool} (hcr : c'.map f = c ++ r) (hq : q = true → r = []) (h : isC (some (.cells c t q)) = true) : isC (some (.cells c' t q)) = true := by
 cases q with
 | false => rfl
 | true =>
  have e := Zx5 hcr hq rfl
  show (!c'.isEmpty) = true
  rw [e]; exact h
theorem Zx6 {c c' r : List Value} {f : Value → Value} {t : TypeId} {q : Bool} (hcr : c'.map f = c ++ r) (hq : q = true → r = []) (h : sol (some (.cells c t q)) = true) : sol (some (.cells c' t q)) = true := Ztz (t := t) hcr hq h
theorem Zr0 {nt : Nat} {ι0 ι : Ren} {h0 h : AH} {w0 w : World} {T : Tr Value} {a : Act} (hT : TR ι nt [] T a) (hS : Step P ι0 h0 w0 ι h w)
  (live : List Nat) (m M : Nat) (hM : M = 1000000000) (hll : ∀ k ∈ live, k < M) (hlen : live.length = m) (hmM : m ≤ M) (hn : live.Nodup) (h3 : ∀ k, ι0 k ≠ none → live[k]? = some k ∨ ZbF k)
  (L : Nat → Option Value) (hL : ∀ t v, t < nt → L t = some v → v = Zam (rho live M) 3 ((T.get t).getD undef) ∧ ZY 3 ((T.get t).getD undef) = true)
  (g : AH) (hg : ∀ j o, g j = some o → ∃ k, live[j]? = some k ∧ match o with
   | .ro O m => h k = some (.ro O m)
   | .cells c t q => ∃ c' r, h k = some (.cells c' t q) ∧ c'.map (Zam (rho live M) 1) = c ++ r ∧ (q = true → r = []) ∧ Zw (ZY 1) c' = true) :
  ∃ gv ι', TR ι' nt [] (tmps nt L gv) a ∧ Step P ι0 h0 w0 ι' g w ∧ (∀ k, m ≤ k → k < M → ι' k = none) ∧ (∀ j b, ι' j = some b → ∃ k, ι k = some b) ∧ ∀ j k, live[j]? = some k → ι' j = ι k := by
 have h2M : M % 2 = 0 := by omega
 have s1 := fun k => Zx4 (live := live) (M := M) (by omega) h2M hll k
 have rm : ∀ b base id, rho live M (ZX b base id) = ZX b base id := fun b base id => by
  have := Zfb b base id
  unfold rho
  rw [if_pos ⟨by omega, this.2⟩]
 have hι : ∀ k b, ι k = some b → (fun j => (sig live M j).bind ι) (rho live M k) = some b := fun k b hk => by
  simp only [s1 k, Option.bind_some, hk]
 have hlive : ∀ j k, live[j]? = some k → sig live M j = some k := fun j k hk => by
  have hlt := (List.getElem?_eq_some_iff.1 hk).1
  unfold sig
  rw [if_pos hlt]
  exact hk
 have back : ∀ j b, (sig live M j).bind ι = some b → ∃ k, sig live M j = some k ∧ ι k = some b := fun j b hj => by
  cases hs : sig live M j with
  | none => rw [hs] at hj; cases hj
  | some k => rw [hs] at hj; exact ⟨k, rfl, hj⟩
 have sm : ∀ k, ZbF k → sig live M k = some k := fun k hk => by
  unfold ZbF at hk
  unfold sig
  rw [if_neg (by omega), if_pos (by omega), if_pos hk.2]
 have old : ∀ k, ι0 k ≠ none → sig live M k = some k := fun k hk => (h3 k hk).elim (hlive k k) (sm k)
 have gC : ∀ j, isC (g j) = true → ∃ k, sig live M j = some k ∧ isC (h k) = true := fun j hj => by
  cases hx : g j with
  | none => rw [hx] at hj; cases hj
  | some o =>
   obtain ⟨k, hk, ho⟩ := hg j o hx
   cases o with
   | ro O m1 => rw [hx] at hj; exact ⟨k, hlive j k hk, by rw [show h k = some (.ro O m1) from ho]; exact hj⟩
   | cells c t q => obtain ⟨c', r, hc, hcr, hq, _⟩ := ho; exact ⟨k, hlive j k hk, by rw [hc]; rw [hx] at hj; exact Ztz hcr hq hj⟩
 have gS : ∀ j, sol (g j) → ∃ k, sig live M j = some k ∧ sol (h k) := fun j hj => by
  cases hx : g j with
  | none => rw [hx] at hj; cases hj
  | some o =>
   obtain ⟨k, hk, ho⟩ := hg j o hx
   cases o with
   | ro O m1 => exact ⟨k, hlive j k hk, by rw [show h k = some (.ro O m1) from ho]; rfl⟩
   | cells c t q => obtain ⟨c', r, hc, hcr, hq, _⟩ := ho; exact ⟨k, hlive j k hk, by rw [hc]; rw [hx] at hj; exact Zx6 hcr hq hj⟩
 have garb : ∀ t, ∃ u, VR (fun j => (sig live M j).bind ι) u (a.tmps.getD t undef) := fun t => Zuq hι rm (hT.2.2 t)
 refine ⟨fun t => (garb t).choose, fun j => (sig live M j).bind ι, ⟨hT.1, hT.2.1, fun t => ?_⟩, ⟨fun k b hk => ?_, ⟨fun j c t q hj => ?_, fun j O hj => ?_, fun j j' b b' h1 h2 h4 h5 h6 => ?_, fun j b hj => ?_, fun b base id q hq => ?_, fun x hx => (hS.emb.tb x hx).imp fun q hq => by
  show (sig live M (ZX x.1 0 (code x.2))).bind ι = some q
  rw [sm _ (Zg7 x.1 0 (code x.2))]; exact hq⟩, hS.os, hS.tape, hS.output, hS.size, hS.frame, fun j b h1 h2 => ?_, fun j h1 h2 => ?_, fun j h1 h2 => ?_⟩, fun j h1 h2 => ?_, fun j b hj => (back j b hj).imp fun k h => h.2, fun j k hk => by
  show (sig live M j).bind ι = ι k
  rw [hlive j k hk]; rfl⟩
 ·rw [Zrz]
  by_cases ht : t < nt
  ·rw [if_pos ht]
   cases hl : L t with
   | none => exact (garb t).choose_spec
   | some v =>
    obtain ⟨e, hd⟩ := hL t v ht hl
    subst e
    exact Zhu hι rm 3 _ _ (hT.2.2 t) hd
  ·rw [if_neg ht]
   have : a.tmps.getD t undef = undef := by
    have := hT.1
    simp [Array.getD, show ¬ t < a.tmps.size by omega]
   rw [this]
   exact VR.undef'
 ·show (sig live M k).bind ι = some b
  rw [old k (by rw [hk]; simp)]
  exact hS.ext k b hk
 ·obtain ⟨k, hk, c', r, hc, hcr, hq, hd⟩ := hg j _ hj
  obtain ⟨b, hb, ⟨z1, z2, z3⟩ | ⟨z1, C, hB, hC, hQ⟩⟩ := hS.emb.obj k c' t q hc
  ·refine ⟨b, by show (sig live M j).bind ι = some b; rw [hlive j k hk]; exact hb, .inl ⟨z1, ?_, z3⟩⟩
   subst z2
   have := congrArg List.length hcr
   simp at this
   exact List.eq_nil_of_length_eq_zero (by omega)
  have hqc : isC (some (.cells c t q)) = true := by
   cases q with
   | false => rfl
   | true =>
    rw [hq rfl, List.append_nil] at hcr
    cases c' with
    | nil => cases z1
    | cons x c' => rw [← hcr]; rfl
  have hle : c.length ≤ c'.length := by
   have := congrArg List.length hcr
   simp at this
   omega
  refine ⟨b, by show (sig live M j).bind ι = some b; rw [hlive j k hk]; exact hb, .inr ⟨hqc, C, hB, ⟨Nat.le_trans hle hC.1, fun i x y hx hy => ?_⟩, hQ⟩⟩
  have hx' : (c'.map (Zam (rho live M) 1))[i]? = some x := by
   rw [hcr, List.getElem?_append_left (List.getElem?_eq_some_iff.1 hx).1]
   exact hx
  rw [List.getElem?_map] at hx'
  cases hz : c'[i]? with
  | none => rw [hz] at hx'; cases hx'
  | some z =>
   rw [hz] at hx'
   injection hx' with hx'
   subst hx'
   exact Zhu hι rm 1 z y (hC.2 i z y hz hy) (Zao hd z (List.mem_of_getElem? hz))
 ·obtain ⟨k, hk, hr⟩ := hg j _ hj
  obtain ⟨b, hb, hB⟩ := hS.emb.ro k O hr
  exact ⟨b, by show (sig live M j).bind ι = some b; rw [hlive j k hk]; exact hb, hB⟩
 ·obtain ⟨k, q1, q2⟩ := gC j h1
  obtain ⟨k', q3, q4⟩ := gS j' h2
  obtain ⟨_, e1, e2⟩ := back j b h4
  rw [q1] at e1; injection e1 with e1; subst e1
  obtain ⟨_, e3, e4⟩ := back j' b' h5
  rw [q3] at e3; injection e3 with e3; subst e3
  have := hS.emb.inj k k' b b' q2 q4 e2 e4 h6
  subst this
  rw [← Zmu hn h2M hll q1, ← Zmu hn h2M hll q3]
 ·obtain ⟨k, _, e2⟩ := back j b hj
  exact hS.emb.lt k b e2
 ·obtain ⟨k, e1, e2⟩ := back _ q hq
  rw [sm _ (Zg7 b base id)] at e1; injection e1 with e1; subst e1
  obtain ⟨m1, m2, m3⟩ := hS.emb.mks b base id q e2
  refine ⟨m1, ⟨m2.1.ren hι rm, fun o c hc => by
   have := hι _ _ (m2.2 o c hc)
   rw [rm] at this
   exact this⟩, fun k d hk hd => ?_⟩
  obtain ⟨k', q1, q2⟩ := gC k hk
  obtain ⟨k2, e3, e4⟩ := back k d hd
  rw [q1] at e3; injection e3 with e3; subst e3
  exact m3 k' d q2 e4
 ·obtain ⟨k, e1, e2⟩ := back j b h2
  refine hS.new k b ?_ e2
  cases hk : ι0 k with
  | none => rfl
  | some c =>
   have := Zmu hn h2M hll (old k (by rw [hk]; simp))
   have e3 := Zmu hn h2M hll e1
   rw [this] at e3
   subst e3
   rw [h1] at hk; cases hk
 ·obtain ⟨k, e1, e2⟩ := gS j h1
  rw [old j h2] at e1; injection e1 with e1; subst e1
  exact hS.alive j e2 h2
 ·obtain ⟨k, e1, e2⟩ := gC j h1
  rw [old j h2] at e1; injection e1 with e1; subst e1
  exact hS.kind j e2 h2
 ·show (sig live M j).bind ι = none
  unfold sig
  rw [if_neg (by omega), if_neg (by omega)]
  rfl
theorem Zx7 {nt : Nat} {ι0 ι : Ren} {h0 h : AH} {w0 w : World} {T : Tr Value} {a : Act} (hT : TR ι nt [] T a) (hS : Step P ι0 h0 w0 ι h w)
  (live : List Nat) (m M : Nat) (hM : M = 1000000000) (hll : ∀ k ∈ live, k < M) (hlen : live.length = m) (hmM : m ≤ M) (hn : live.Nodup) (h3 : ∀ k, ι0 k ≠ none → live[k]? = some k ∨ ZbF k)
  (L : Nat → Option Value) (hL : ∀ t v, t < nt → L t = some v → v = Zam (rho live M) 3 ((T.get t).getD undef) ∧ ZY 3 ((T.get t).getD undef) = true)
  (g : AH) (hg : ∀ j o, g j = some o → ∃ k, live[j]? = some k ∧ match o with
   | .ro O m => h k = some (.ro O m)
   | .cells c t q => ∃ c' r, h k = some (.cells c' t q) ∧ c'.map (Zam (rho live M) 1) = c ++ r ∧ (q = true → r = []) ∧ Zw (ZY 1) c' = true) :
  ∃ gv, At P nt (tmps nt L gv) g m M ι0 h0 w0 a w := by
 obtain ⟨gv, ι', a1, a2, a3, _⟩ := Zr0 hT hS live m M hM hll hlen hmM hn h3 L hL g hg
 exact ⟨gv, ι', a1, a2, a3⟩
theorem Zxj (F : Fit P ext) {fu nt : Nat} {c : Code} {T T' : Tr Value} {s s' : St} {e : Ex} (h : ZaE P ext nt fu c T s = some (e, T', s')) (ho : ∀ p ∈ s'.ob, p.1 = p.2) {ι : Ren} {D : List Deferred} {a : Act} {w : World} (hT : TR ι nt D T a) (he : Emb P ι s.h.get w) (hf : Fresh ι s.n s'.n) :
  c.wp P (Zj7 P ι s w nt D e T' s') a w := (Zfl F fu).1 nt c T s e T' s' h ho ι D a w hT he hf
end
end Ev
end Go.Proofs.YtlbbiflodemagaaDoor
/- Functions with loops: a run stands ahead of a loop, at a round's end, or at the function's end. -/
namespace Go.Proofs.YtlbbiflodemagaaDoor
open Go.RowKit
namespace Ev
inductive Zbk where
 | seq (b : Code)
 | blk (id : Nat)
 | scp
 | rnd (i : Nat)
inductive Stop where
 | fin (v : Value) (s : St)
 | head (a : Code) (K : List Zbk) (T : Tr Value) (s : St)
 | next (i : Nat) (T : Tr Value) (s : St)
noncomputable section
def Stop.s : Stop → St
 | .fin _ s => s
 | .head _ _ _ s => s
 | .next _ _ s => s
def Zur (P : Program) (fn : Func) (T : Tr Value) (s : St) : Option Value :=
 match ZbT P T s fn.results.toList with
 | some [v] => some v
 | some vs => some (.tuple vs.toArray)
 | none => none
def Zus (s : St) : Option Value → Option Stop
 | some v => some (.fin v s)
 | none => none
def Zxk (P : Program) (fn : Func) (e : Ex) (T : Tr Value) (s : St) : Option Stop :=
 match e with
 | .exit _ => none
 | .normal => Zus s (Zur P fn T s)
 | .ret => Zus s (Zur P fn T s)
mutual
def Zgt (P : Program) (ext : FuncId → Option Ext) (fn : Func) (nt : Nat) : Nat → Code → List Zbk → Tr Value → St → Option Stop
 | 0, _, _, _, _ => none
 | fu + 1, c, K, T, s => match c with
  | .seq a b => Zgt P ext fn nt fu a (.seq b :: K) T s
  | .scope a => Zgt P ext fn nt fu a (.scp :: K) T s
  | .block id a => Zgt P ext fn nt fu a (.blk id :: K) T s
  | .cond x a b => match opnd T x with
   | .bool t => match t with
    | true => Zgt P ext fn nt fu a K T s
    | false => Zgt P ext fn nt fu b K T s
   | _ => none
  | .loop a => some (.head a K T s)
  | c => match ZaE P ext nt fu c T s with
   | some (e, T', s') => Zd1 P ext fn nt fu K e T' s'
   | none => none
termination_by structural fu _ _ _ _ => fu
def Zd1 (P : Program) (ext : FuncId → Option Ext) (fn : Func) (nt : Nat) : Nat → List Zbk → Ex → Tr Value → St → Option Stop
 | 0, _, _, _, _ => none
 | fu + 1, K, e, T, s => match K with
  | [] => Zxk P fn e T s
  | .seq b :: K => match e with
   | .normal => Zgt P ext fn nt fu b K T s
   | .exit i => Zd1 P ext fn nt fu K (.exit i) T s
   | .ret => Zd1 P ext fn nt fu K .ret T s
  | .blk id :: K => match e with
   | .exit i => bif Nat.beq i id then Zd1 P ext fn nt fu K .normal T s else Zd1 P ext fn nt fu K (.exit i) T s
   | .normal => Zd1 P ext fn nt fu K .normal T s
   | .ret => Zd1 P ext fn nt fu K .ret T s
  | .scp :: K => Zd1 P ext fn nt fu K e T s
  | .rnd i :: K => match e with
   | .normal => some (.next i T s)
   | .exit j => Zd1 P ext fn nt fu K (.exit j) T s
   | .ret => Zd1 P ext fn nt fu K .ret T s
termination_by structural fu _ _ _ _ => fu
end
end
section
variable {P : Program} {ext : FuncId → Option Ext}
theorem Zt0 {s : St} {o : Option Value} {st : Stop} (h : Zus s o = some st) : ∃ v, st = .fin v s ∧ o = some v := by
 cases o with
 | none => cases h
 | some v => injection h with h; exact ⟨v, h.symm, rfl⟩
theorem Zt1 {fn : Func} {e : Ex} {T : Tr Value} {s : St} {st : Stop} (h : Zxk P fn e T s = some st) : ∃ v, st = .fin v s ∧ (match e with | .exit _ => False | _ => True) ∧ (match ZbT P T s fn.results.toList with | some [v] => some v | some vs => some (.tuple vs.toArray) | none => none) = some v := by
 cases e with
 | exit i => cases h
 | normal => obtain ⟨v, h1, h2⟩ := Zt0 h; exact ⟨v, h1, trivial, h2⟩
 | ret => obtain ⟨v, h1, h2⟩ := Zt0 h; exact ⟨v, h1, trivial, h2⟩
theorem up_to (F : Fit P ext) {fn : Func} {nt : Nat} : ∀ fu : Nat, (∀ c K T s st, Zgt P ext fn nt fu c K T s = some st → Up s st.s) ∧ (∀ K e T s st, Zd1 P ext fn nt fu K e T s = some st → Up s st.s) := by
 intro fu
 induction fu with
 | zero => exact ⟨fun _ _ _ _ _ h => by simp [Zgt] at h, fun _ _ _ _ _ h => by simp [Zd1] at h⟩
 | succ fu ih =>
  obtain ⟨ihT, ihB⟩ := ih
  have other : ∀ c K T s st, (match ZaE P ext nt fu c T s with | some (e, T', s') => Zd1 P ext fn nt fu K e T' s' | none => none) = some st → Up s st.s := fun c K T s st h => by
   split at h
   ·exact ((Zc7 (P := P) (ext := ext) (fun f g hg => (F.hp f g hg).up) fu).1 _ _ _ _ _ _ _ (by assumption)).trans (ihB _ _ _ _ _ h)
   ·cases h
  refine ⟨fun c K T s st h => ?_, fun K e T s st h => ?_⟩
  ·cases c <;> simp only [Zgt] at h
   case seq a b => exact ihT _ _ _ _ _ h
   case scope a => exact ihT _ _ _ _ _ h
   case block id a => exact ihT _ _ _ _ _ h
   case cond x a b =>
    split at h
    ·split at h
     ·exact ihT _ _ _ _ _ h
     ·exact ihT _ _ _ _ _ h
    ·cases h
   case loop a => injection h with h; subst h; exact Up.refl _
   all_goals exact other _ _ _ _ _ h
  ·cases K with
   | nil => simp only [Zd1] at h; obtain ⟨v, rfl, _⟩ := Zt1 h; exact Up.refl _
   | cons k K =>
    cases k <;> simp only [Zd1] at h
    ·cases e <;> simp only at h
     ·exact ihT _ _ _ _ _ h
     ·exact ihB _ _ _ _ _ h
     ·exact ihB _ _ _ _ _ h
    ·cases e <;> simp only at h
     ·exact ihB _ _ _ _ _ h
     ·rename_i id i
      cases hb : Nat.beq i id <;> rw [hb] at h <;> exact ihB _ _ _ _ _ h
     ·exact ihB _ _ _ _ _ h
    ·exact ihB _ _ _ _ _ h
    ·cases e <;> simp only at h
     ·injection h with h; subst h; exact Up.refl _
     ·exact ihB _ _ _ _ _ h
     ·exact ihB _ _ _ _ _ h
def post (P : Program) (fn : Func) (R : Ending → World → Prop) (Nx : Nat → Act → World → Prop) : List Zbk → Exit → Act → World → Prop
 | [] => bodyPost P fn R
 | .seq b :: K => Exit.then (b.wp P (post P fn R Nx K)) (post P fn R Nx K)
 | .blk id :: K => Exit.inBlock id (post P fn R Nx K)
 | .scp :: K => Exit.noGoto (post P fn R Nx K)
 | .rnd i :: K => Exit.then (Nx i) (post P fn R Nx K)
def ZqF (P : Program) (fn : Func) (R : Ending → World → Prop) (Nx : Nat → Act → World → Prop) (nt : Nat) (ι : Ren) (a : Act) (w : World) : Stop → Prop
 | .fin v _ => ∀ v', VR ι v v' → R (.returned v') w
 | .head b K T _ => TR ι nt [] T a → (Code.loop b).wp P (post P fn R Nx K) a w
 | .next i T _ => TR ι nt [] T a → Nx i a w
theorem Zw0 (F : Fit P ext) {fn : Func} {nt : Nat} {R : Ending → World → Prop} {Nx : Nat → Act → World → Prop} : ∀ fu : Nat,
  (∀ c K T s st, Zgt P ext fn nt fu c K T s = some st → (∀ p ∈ st.s.ob, p.1 = p.2) → ∀ ι a w, TR ι nt [] T a → Emb P ι s.h.get w → Fresh ι s.n st.s.n →
   (∀ ι' a' w', Step P ι s.h.get w ι' st.s.h.get w' → Dom ι ι' s.n st.s.n → ZqF P fn R Nx nt ι' a' w' st) → c.wp P (post P fn R Nx K) a w) ∧
  (∀ K e T s st, Zd1 P ext fn nt fu K e T s = some st → (∀ p ∈ st.s.ob, p.1 = p.2) → ∀ ι a w, TR ι nt [] T a → Emb P ι s.h.get w → Fresh ι s.n st.s.n →
   (∀ ι' a' w', Step P ι s.h.get w ι' st.s.h.get w' → Dom ι ι' s.n st.s.n → ZqF P fn R Nx nt ι' a' w' st) → post P fn R Nx K e.out a w) := by
 intro fu
 induction fu with
 | zero => exact ⟨fun _ _ _ _ _ h => by simp [Zgt] at h, fun _ _ _ _ _ h => by simp [Zd1] at h⟩
 | succ fu ih =>
  obtain ⟨ihT, ihB⟩ := ih
  have other : ∀ c K T s st, (match ZaE P ext nt fu c T s with | some (e, T', s') => Zd1 P ext fn nt fu K e T' s' | none => none) = some st → (∀ p ∈ st.s.ob, p.1 = p.2) → ∀ ι a w, TR ι nt [] T a → Emb P ι s.h.get w → Fresh ι s.n st.s.n →
   (∀ ι' a' w', Step P ι s.h.get w ι' st.s.h.get w' → Dom ι ι' s.n st.s.n → ZqF P fn R Nx nt ι' a' w' st) → c.wp P (post P fn R Nx K) a w := fun c K T s st h ho ι a w hT he hf hQ => by
   split at h
   ·rename_i e T1 s1 h1
    have u1 := (Zc7 (P := P) (ext := ext) (fun f g hg => (F.hp f g hg).up) fu).1 _ _ _ _ _ _ _ h1
    have u2 := (up_to F (fn := fn) (nt := nt) fu).2 _ _ _ _ _ h
    refine wp_mono (Zxj F h1 (ZaG u2.ob ho) hT he (hf.mono (Nat.le_refl _) u2.n)) ?_
    rintro ex a1 w1 ⟨rfl, ι1, g1, g2, g3⟩
    exact ihB K e T1 s1 st h ho ι1 a1 w1 g3 g1.emb (hf.after g2 u1.n) fun ι' a' w' k1 k2 => hQ ι' a' w' (g1.trans k1) (g2.trans k2 u1.n u2.n)
   ·cases h
  refine ⟨fun c K T s st h ho ι a w hT he hf hQ => ?_, fun K e T s st h ho ι a w hT he hf hQ => ?_⟩
  ·have h0 := h
   cases c <;> simp only [Zgt] at h
   case seq x y => exact wp_seq (ihT x (.seq y :: K) T s st h ho ι a w hT he hf hQ)
   case scope x => exact wp_scope_straight (ihT x (.scp :: K) T s st h ho ι a w hT he hf hQ)
   case block id x => exact wp_block (ihT x (.blk id :: K) T s st h ho ι a w hT he hf hQ)
   case cond x y z =>
    split at h
    ·rename_i t ht
     have hx : a.eval x = .bool t := ZfH ((ht ▸ hT.opnd x : VR ι (.bool t) (Zc2 a x)).bool_inv)
     split at h
     ·exact wp_cond_true hx (ihT y K T s st h ho ι a w hT he hf hQ)
     ·exact wp_cond_false hx (ihT z K T s st h ho ι a w hT he hf hQ)
    ·cases h
   case loop x =>
    injection h with h
    subst h
    exact hQ ι a w (Step.refl he) Dom.refl hT
   all_goals exact other _ K T s st h ho ι a w hT he hf hQ
  ·cases K with
   | nil =>
    simp only [Zd1] at h
    obtain ⟨v, rfl, hne, hr⟩ := Zt1 h
    obtain ⟨v', hrun, hv⟩ := Zga hT he hr
    have := hQ ι a w (Step.refl he) Dom.refl v' hv
    cases e with
    | normal => exact ⟨hT.2.1, v', hrun, this⟩
    | ret => exact ⟨hT.2.1, v', hrun, this⟩
    | exit i => exact hne.elim
   | cons k K =>
    cases k with
    | seq b =>
     simp only [Zd1] at h
     cases e with
     | normal => exact ihT b K T s st h ho ι a w hT he hf hQ
     | exit i => exact ihB K (.exit i) T s st h ho ι a w hT he hf hQ
     | ret => exact ihB K .ret T s st h ho ι a w hT he hf hQ
    | blk id =>
     simp only [Zd1] at h
     cases e with
     | normal => exact ihB K .normal T s st h ho ι a w hT he hf hQ
     | ret => exact ihB K .ret T s st h ho ι a w hT he hf hQ
     | exit i =>
      simp only at h
      show if i = id then _ else _
      cases hb : Nat.beq i id with
      | true =>
       rw [hb] at h
       rw [if_pos (Nat.eq_of_beq_eq_true hb)]
       exact ihB K .normal T s st h ho ι a w hT he hf hQ
      | false =>
       rw [hb] at h
       rw [if_neg (fun e => by rw [ZiS e] at hb; cases hb)]
       exact ihB K (.exit i) T s st h ho ι a w hT he hf hQ
    | scp =>
     simp only [Zd1] at h
     have := ihB K e T s st h ho ι a w hT he hf hQ
     cases e <;> exact this
    | rnd i =>
     simp only [Zd1] at h
     cases e with
     | normal =>
      injection h with h
      subst h
      exact hQ ι a w (Step.refl he) Dom.refl hT
     | exit j => exact ihB K (.exit j) T s st h ho ι a w hT he hf hQ
     | ret => exact ihB K .ret T s st h ho ι a w hT he hf hQ
def Into (nt m : Nat) (L : Nat → Option Value) (H : Tr AObj) (T : Tr Value) (s : St) (live : List Nat) : Prop :=
 live.length = m ∧ live.Nodup ∧
  (∀ t v, t < nt → L t = some v → v = Zam (rho live far) 3 ((T.get t).getD undef) ∧ ZY 3 ((T.get t).getD undef) = true) ∧
  ∀ j o, H.get j = some o → ∃ k, live[j]? = some k ∧ match o with
   | .ro O m => s.h.get k = some (.ro O m)
   | .cells c t q => ∃ c' r, s.h.get k = some (.cells c' t q) ∧ c'.map (Zam (rho live far) 1) = c ++ r ∧ (q = true → r = []) ∧ Zw (ZY 1) c' = true
def Zcn (n : Nat) (live : List Nat) : Bool := (live.take n == List.range n) && Zw (fun k => Nat.blt k 1000000000) live
theorem Zoa {n : Nat} {live : List Nat} (h : Zcn n live = true) {k : Nat} (hk : k < n) : live[k]? = some k := by
 unfold Zcn at h
 rw [Bool.and_eq_true] at h
 have h := beq_iff_eq.1 h.1
 have : (live.take n)[k]? = some k := by rw [h]; simp [hk]
 rwa [List.getElem?_take_of_lt hk] at this
theorem Znt {n : Nat} {live : List Nat} (h : Zcn n live = true) : ∀ k ∈ live, k < far := fun k hk => by
 unfold Zcn at h
 rw [Bool.and_eq_true] at h
 have := Zao h.2 k hk
 rw [Nat.blt_eq] at this
 exact this
end
end Ev
end Go.Proofs.YtlbbiflodemagaaDoor
/- Functions that panic, and such as recover what is thrown. -/
namespace Go.Proofs.YtlbbiflodemagaaDoor
open Go.RowKit
namespace Ev
noncomputable section
def ZoV (P : Program) (ρ : Operand → Value) (o : Oper) (l : List Oper) : Option (Tmp × Value) :=
  match o.op with
  | .makeInterface _ x => match o.dst with
    | some d => match l with
      | o2 :: _ => match o2.op with
        | .panic y => match y with
          | .tmp d' => match o2.guard with
            | none => bif Nat.beq d' d && Zbl (ρ x) then match Zhm P (execOp (fun _ => ρ x) o) with
              | some (.value (.iface t u)) => some (d, .iface t u)
              | _ => none
              else none
            | _ => none
          | _ => none
        | _ => none
      | [] => none
    | none => none
  | _ => none
def ZgG (P : Program) (ext : FuncId → Option Ext) (nt : Nat) (call : FuncId → Array Value → St → Option (Value × St)) (fu : Nat) (ops : Array Oper) : List Oper → Tr Value → St → Option (Value × Tr Value × St)
  | [], _, _ => none
  | o :: l, T, s =>
    bif Zec nt o.dst && Zw ZfY o.op.operands.toList then
      match Zeg ops T o s with
      | some (true, s1) => match ZoV P (opnd T) o l with
        | some (d, v) => some (v, T.set d (some (.chan (some 0))), s1)
        | none => match ZfP P ext fu (opnd T) o s1 with
          | some (v, s') => ZgG P ext nt call fu ops l (Zc6 T o.dst v) s'
          | none => match Zke o with
            | some c => match callee (opnd T) c with
              | some (f, args) => match call f args s1 with
                | some (v, s') => some (v, T, s')
                | none => none
              | none => none
            | none => none
      | some (false, s1) => ZgG P ext nt call fu ops l (Zc6 T o.dst undef) s1
      | none => none
    else none
def ZaP (P : Program) (ext : FuncId → Option Ext) (nt : Nat) (call : FuncId → Array Value → St → Option (Value × St)) : Nat → Code → Tr Value → St → Option (Value × Tr Value × St)
  | 0, _, _, _ => none
  | fu + 1, c, T, s => match c with
    | .seq a b => match ZaE P ext nt fu a T s with
      | some (.normal, T', s') => ZaP P ext nt call fu b T' s'
      | some _ => none
      | none => ZaP P ext nt call fu a T s
    | .cond x a b => match opnd T x with
      | .bool t => match t with
        | true => ZaP P ext nt call fu a T s
        | false => ZaP P ext nt call fu b T s
      | _ => none
    | .block _ a => ZaP P ext nt call fu a T s
    | .loop a => match ZaE P ext nt fu a T s with
      | some (.normal, T', s') => ZaP P ext nt call fu (.loop a) T' s'
      | some _ => none
      | none => ZaP P ext nt call fu a T s
    | .region _ ops draw => match draw with
      | true => none
      | false => ZgG P ext nt call fu ops ops.toList T s
    | _ => none
def Zdy (P : Program) (ext : FuncId → Option Ext) : Nat → FuncId → Array Value → St → Option (Value × St)
  | 0, _, _, _ => none
  | fu + 1, f, args, s => match ext f with
   | some (.tc S) => match s.nextW with
    | (some (.call pre v post dn), s1) => match ZbL v with
      | true => ZkG S args pre v post dn s1
      | false => none
    | _ => none
   | _ => match P.funcs[f]? with
    | some fn => match fn.body with
      | some c => bif Nat.ble args.size fn.ntmps then match ZaP P ext fn.ntmps (Zdy P ext fu) fu c (Zeb 0 args.toList .nil) s with
        | some (v, _, s') => some (v, s')
        | none => none
        else none
      | none => none
    | none => none
end
section
variable {P : Program} {ext : FuncId → Option Ext}
def PostX (P : Program) (ι : Ren) (s : St) (w : World) (v : Value) (s' : St) (e : Ending) (w' : World) : Prop :=
  ∃ ι', e = .panicked (Zej v) ∧ Step P ι s.h.get w ι' s'.h.get w' ∧ Dom ι ι' s.n s'.n
def Zr1 (P : Program) (ι : Ren) (s : St) (w : World) (nt : Nat) (D : List Deferred) (v : Value) (T' : Tr Value) (s' : St) (ex : Exit) (a' : Act) (w' : World) : Prop :=
  ∃ ι', ex = .panic (Zej v) ∧ Step P ι s.h.get w ι' s'.h.get w' ∧ Dom ι ι' s.n s'.n ∧ TR ι' nt D T' a'
structure ZkL (P : Program) (call : FuncId → Array Value → St → Option (Value × St)) : Prop where
  up : ∀ f args s v s', call f args s = some (v, s') → Up s s'
  body : ∀ f args s v s', call f args s = some (v, s') → ∃ (fn : Func) (c : Code), P.funcs[f]? = some fn ∧ fn.body = some c
  does : ∀ f args s v s', call f args s = some (v, s') → (∀ p ∈ s'.ob, p.1 = p.2) → ∀ ι w args', VRs ι args args' → Emb P ι s.h.get w → Fresh ι s.n s'.n → Calls P f args' w (PostX P ι s w v s')
theorem ZsT {ι : Ren} {nt : Nat} {D : List Deferred} {T : Tr Value} {a : Act} {w : World} {ops : Array Oper} {o : Oper} {l : List Oper} {d : Tmp} {v : Value} {Q : Exit → Act → World → Prop} (hT : TR ι nt D T a) (hg : Zec nt o.dst = true) (hg2 : Zw ZfY o.op.operands.toList = true) (h : ZoV P (opnd T) o l = some (d, v))
    (hQ : TR ι nt D (T.set d (some (.chan (some 0)))) (a.put (some d) v) → Q (.panic (Zej v)) (a.put (some d) v) w) : o.wp P a w (wpList P ops Q l) Q := by
  unfold ZoV at h
  split at h
  · rename_i ty x hop
    split at h
    · rename_i d0 hd
      split at h
      · rename_i o2 l2
        split at h
        · rename_i y hop2
          split at h
          · rename_i d'
            split at h
            · rename_i hgd
              obtain ⟨hc, h⟩ := Zo h
              simp only [Bool.and_eq_true] at hc
              have hdd := Nat.eq_of_beq_eq_true hc.1
              subst hdd
              split at h
              · rename_i t u hp
                injection h with h; injection h with q1 q2; subst q1 q2
                have hx : Zc2 a x = opnd T x := (hT.opnd x).eq_of_free hc.2
                have hex : execOp (Zc2 a) o = execOp (fun _ => opnd T x) o := by simp only [execOp, hop, hx]
                unfold Oper.wp
                rw [← Zfk (fun cs b e => by rw [hop] at e; cases e) hg2, hex, Zfh w hp, Oper.upon_value, hd]
                have hT' : TR ι nt D (T.set d' (some (.chan (some 0)))) (a.put (some d') (.iface t u)) := by
                  rw [hd] at hg
                  exact hT.put (dst := some d') hg (.glob rfl)
                unfold wpList
                rw [if_pos (by simp [Region.wanted, hgd])]
                refine .inl ?_
                unfold Oper.wp
                have hlt : d' < a.tmps.size := by
                  rw [hd] at hg
                  rw [hT.1]
                  simpa [Zec, Nat.blt_eq] using hg
                have hrun : (execOp (a.put (some d') (.iface t u)).eval o2).run P w = .halt (.panic (.iface t u)) w := by
                  simp only [execOp, hop2, Act.eval, Act.put]
                  rw [show (a.tmps.setIfInBounds d' (Value.iface t u)).getD d' undef = .iface t u from by simp [Array.getD, hlt]]
                  rfl
                rw [hrun, Oper.upon_panic]
                exact hQ hT'
              · cases h
            · cases h
          · cases h
        · cases h
      · cases h
    · cases h
  · cases h
theorem Zmv (F : Fit P ext) {call : FuncId → Array Value → St → Option (Value × St)} (C : ZkL P call) {nt fu : Nat} {ops : Array Oper} : ∀ (l : List Oper) (T : Tr Value) (s : St) (v : Value) (T' : Tr Value) (s' : St), ZgG P ext nt call fu ops l T s = some (v, T', s') → Up s s'
  | [], T, s, v, T', s', h => by simp [ZgG] at h
  | o :: l, T, s, v, T', s', h => by
    simp only [ZgG] at h
    replace h := (Zo h).2
    have uP := (Zc7 (P := P) (ext := ext) (fun f g hg => (F.hp f g hg).up) fu).2.2.1
    split at h
    · split at h
      · injection h with h; simp only [Prod.mk.injEq] at h; obtain ⟨_, _, rfl⟩ := h; exact Za4 (by assumption)
      · split at h
        · exact (Za4 (by assumption)).trans ((uP _ _ _ _ _ (by assumption)).trans (Zmv F C l _ _ _ _ _ h))
        · split at h
          · split at h
            · split at h
              · injection h with h; simp only [Prod.mk.injEq] at h; obtain ⟨_, _, rfl⟩ := h
                exact (Za4 (by assumption)).trans (C.up _ _ _ _ _ (by assumption))
              · cases h
            · cases h
          · cases h
    · exact (Za4 (by assumption)).trans (Zmv F C l _ _ _ _ _ h)
    · cases h
theorem Zhv (F : Fit P ext) {call : FuncId → Array Value → St → Option (Value × St)} (C : ZkL P call) {nt : Nat} : ∀ (fu : Nat) (c : Code) (T : Tr Value) (s : St) (v : Value) (T' : Tr Value) (s' : St), ZaP P ext nt call fu c T s = some (v, T', s') → Up s s'
  | 0, _, _, _, _, _, _, h => by simp [ZaP] at h
  | fu + 1, c, T, s, v, T', s', h => by
    have uC := (Zc7 (P := P) (ext := ext) (fun f g hg => (F.hp f g hg).up) fu).1
    cases c <;> simp only [ZaP] at h
    case seq a b =>
      split at h
      · exact (uC _ _ _ _ _ _ _ (by assumption)).trans (Zhv F C fu _ _ _ _ _ _ h)
      · cases h
      · exact Zhv F C fu _ _ _ _ _ _ h
    case cond x a b =>
      split at h
      · split at h
        · exact Zhv F C fu _ _ _ _ _ _ h
        · exact Zhv F C fu _ _ _ _ _ _ h
      · cases h
    case block id a => exact Zhv F C fu _ _ _ _ _ _ h
    case loop a =>
      split at h
      · exact (uC _ _ _ _ _ _ _ (by assumption)).trans (Zhv F C fu _ _ _ _ _ _ h)
      · cases h
      · exact Zhv F C fu _ _ _ _ _ _ h
    case region id ops draw =>
      split at h
      · cases h
      · exact Zmv F C _ _ _ _ _ _ h
    all_goals cases h
theorem ZkM (F : Fit P ext) {call : FuncId → Array Value → St → Option (Value × St)} (C : ZkL P call) {nt fu : Nat} {ops : Array Oper} : ∀ (l : List Oper) (T : Tr Value) (s : St) (v : Value) (T' : Tr Value) (s' : St), ZgG P ext nt call fu ops l T s = some (v, T', s') → (∀ p ∈ s'.ob, p.1 = p.2) →
    ∀ ι D a w (Q : Exit → Act → World → Prop), TR ι nt D T a → Emb P ι s.h.get w → Fresh ι s.n s'.n → (∀ ι' a' w', Step P ι s.h.get w ι' s'.h.get w' → Dom ι ι' s.n s'.n → TR ι' nt D T' a' → Q (.panic (Zej v)) a' w') → wpList P ops Q l a w
  | [], T, s, v, T', s', h => by simp [ZgG] at h
  | o :: l, T, s, v, T', s', h => by
    intro ho ι D a w Q hT he hf hQ
    simp only [ZgG] at h
    obtain ⟨hg, h⟩ := Zo h
    simp only [Bool.and_eq_true] at hg
    split at h
    · rename_i s1 hw
      have u1 := Za4 hw
      obtain ⟨hwant, e2, e3⟩ := Zcm (fun t _ => hT.2.2 t) hw
      unfold wpList
      rw [if_pos hwant]
      split at h
      · rename_i d v0 ht
        injection h with h; simp only [Prod.mk.injEq] at h; obtain ⟨rfl, rfl, rfl⟩ := h
        exact .inl (ZsT hT hg.1 hg.2 ht fun hT' => hQ ι _ w (by rw [e2]; exact Step.refl he) (by rw [e3]; exact Dom.refl) (by first | exact hT' | (simp only [Act.put] at hT' ⊢; exact hT')))
      · split at h
        · rename_i v1 s2 hv
          have ua := Zc7 (P := P) (ext := ext) (fun f g hg => (F.hp f g hg).up) fu
          have u2 := ua.2.2.1 _ _ _ _ _ hv
          have u3 := Zmv F C _ _ _ _ _ _ h
          refine .inl ((Zfl F fu).2.2.1 (opnd T) (Zc2 a) o s1 v1 s2 hv (ZaG u3.ob ho) ι w hT.opnd (e2 ▸ he) (e3 ▸ (hf.mono (Nat.le_refl _) u3.n)) a _ _ (Zfk (ZiZ hv) hg.2).symm fun v' w' ι' g1 g2 g3 => ?_)
          rw [e2] at g1
          rw [e3] at g2
          have hle : s.n ≤ s2.n := by rw [← e3]; exact u2.n
          exact ZkM F C l (Zc6 T o.dst v1) s2 v T' s' h ho ι' D _ w' Q ((hT.on g1.ext).put hg.1 g3) g1.emb (hf.after g2 hle) fun ι2 a2 w2 k1 k2 k3 => hQ ι2 a2 w2 (g1.trans k1) (g2.trans k2 hle u3.n) k3
        · split at h
          · rename_i c hc
            obtain ⟨hop, _⟩ := ZmX hc
            split at h
            · rename_i f args hcal
              split at h
              · rename_i v1 s2 hcall
                injection h with h; simp only [Prod.mk.injEq] at h; obtain ⟨rfl, rfl, rfl⟩ := h
                obtain ⟨args', hrun, hargs⟩ := ZlH (P := P) hT.opnd hop hcal w
                rw [Zfk (fun cs b e => by rw [hop] at e; cases e) hg.2] at hrun
                obtain ⟨fn, c', hfn, hb⟩ := C.body _ _ _ _ _ hcall
                refine .inl ?_
                unfold Oper.wp
                rw [hrun, Zdx hfn (F.go f fn hfn) hb, Oper.upon_enter]
                refine (C.does _ _ _ _ _ hcall ho ι w args' hargs (e2 ▸ he) (e3 ▸ hf)).mono ?_
                rintro e w2 ⟨ι2, rfl, k1, k2⟩
                exact hQ ι2 _ w2 (e2 ▸ k1) (e3 ▸ k2) (hT.on k1.ext)
              · cases h
            · cases h
          · cases h
    · rename_i s1 hw
      have u1 := Za4 hw
      obtain ⟨hwant, e2, e3⟩ := Zcm (fun t _ => hT.2.2 t) hw
      unfold wpList
      rw [if_neg (by rw [hwant]; simp)]
      exact ZkM F C l (Zc6 T o.dst undef) s1 v T' s' h ho ι D _ w Q (hT.put hg.1 VR.undef') (e2 ▸ he) (e3 ▸ hf) fun ι2 a2 w2 k1 k2 k3 => hQ ι2 a2 w2 (e2 ▸ k1) (e3 ▸ k2) k3
    · cases h
theorem Zob (F : Fit P ext) {call : FuncId → Array Value → St → Option (Value × St)} (C : ZkL P call) {nt : Nat} : ∀ (fu : Nat),
    (∀ (c : Code) (T : Tr Value) (s : St) (v : Value) (T' : Tr Value) (s' : St), ZaP P ext nt call fu c T s = some (v, T', s') → (∀ p ∈ s'.ob, p.1 = p.2) →
      ∀ ι D a w, TR ι nt D T a → Emb P ι s.h.get w → Fresh ι s.n s'.n → c.wp P (Zr1 P ι s w nt D v T' s') a w) ∧
    (∀ (c : Code) (T : Tr Value) (s : St) (v : Value) (T' : Tr Value) (s' : St), ZaP P ext nt call fu (.loop c) T s = some (v, T', s') → (∀ p ∈ s'.ob, p.1 = p.2) →
      ∀ ι D a w, TR ι nt D T a → Emb P ι s.h.get w → Fresh ι s.n s'.n → Code.rounds P c (Zr1 P ι s w nt D v T' s') fu a w) := by
  intro fu
  induction fu with
  | zero => exact ⟨fun _ _ _ _ _ _ h => by simp [ZaP] at h, fun _ _ _ _ _ _ h => by simp [ZaP] at h⟩
  | succ fu ih =>
    obtain ⟨ihC, ihL⟩ := ih
    have uC := (Zc7 (P := P) (ext := ext) (fun f g hg => (F.hp f g hg).up) fu).1
    have sC := (Zfl F fu).1
    have loops : ∀ (c : Code) (T : Tr Value) (s : St) (v : Value) (T' : Tr Value) (s' : St), ZaP P ext nt call (fu + 1) (.loop c) T s = some (v, T', s') → (∀ p ∈ s'.ob, p.1 = p.2) →
        ∀ ι D a w, TR ι nt D T a → Emb P ι s.h.get w → Fresh ι s.n s'.n → Code.rounds P c (Zr1 P ι s w nt D v T' s') (fu + 1) a w := by
      intro x T s v T' s' h ho ι D a w hT he hf
      simp only [ZaP] at h
      rw [rounds_succ]
      split at h
      · rename_i T1 s1 h1
        have u1 := uC _ _ _ _ _ _ _ h1
        have u2 := Zhv F C fu _ _ _ _ _ _ h
        refine wp_mono (sC nt x T s .normal T1 s1 h1 (ZaG u2.ob ho) ι D a w hT he (hf.mono (Nat.le_refl _) u2.n)) ?_
        rintro ex a1 w1 ⟨rfl, ι1, g1, g2, g3⟩
        refine ZjN ?_ fu a1 w1 (ihL x T1 s1 v T' s' h ho ι1 D a1 w1 g3 g1.emb (hf.after g2 u1.n))
        rintro ex a2 w2 ⟨ι2, rfl, k1, k2, k3⟩
        exact ⟨ι2, rfl, g1.trans k1, g2.trans k2 u1.n u2.n, k3⟩
      · cases h
      · refine wp_mono (ihC x T s v T' s' h ho ι D a w hT he hf) ?_
        rintro ex a1 w1 ⟨ι1, rfl, g⟩
        exact ⟨ι1, rfl, g⟩
    refine ⟨fun c T s v T' s' h ho ι D a w hT he hf => ?_, loops⟩
    have h0 := h
    cases c <;> simp only [ZaP] at h
    case seq x y =>
      split at h
      · rename_i T1 s1 h1
        have u1 := uC _ _ _ _ _ _ _ h1
        have u2 := Zhv F C fu _ _ _ _ _ _ h
        refine wp_seq (wp_mono (sC nt x T s .normal T1 s1 h1 (ZaG u2.ob ho) ι D a w hT he (hf.mono (Nat.le_refl _) u2.n)) ?_)
        rintro ex a1 w1 ⟨rfl, ι1, g1, g2, g3⟩
        refine wp_mono (ihC y T1 s1 v T' s' h ho ι1 D a1 w1 g3 g1.emb (hf.after g2 u1.n)) ?_
        rintro ex a2 w2 ⟨ι2, rfl, k1, k2, k3⟩
        exact ⟨ι2, rfl, g1.trans k1, g2.trans k2 u1.n u2.n, k3⟩
      · cases h
      · refine wp_seq (wp_mono (ihC x T s v T' s' h ho ι D a w hT he hf) ?_)
        rintro ex a1 w1 ⟨ι1, rfl, g⟩
        exact ⟨ι1, rfl, g⟩
    case cond x y z =>
      split at h
      · rename_i t ht
        have hx : a.eval x = .bool t := ZfH ((ht ▸ hT.opnd x : VR ι (.bool t) (Zc2 a x)).bool_inv)
        split at h
        · exact wp_cond_true hx (ihC y T s v T' s' h ho ι D a w hT he hf)
        · exact wp_cond_false hx (ihC z T s v T' s' h ho ι D a w hT he hf)
      · cases h
    case block id x =>
      refine wp_block (wp_mono (ihC x T s v T' s' h ho ι D a w hT he hf) ?_)
      rintro ex a1 w1 ⟨ι1, rfl, g⟩
      exact ⟨ι1, rfl, g⟩
    case loop x => exact wp_loop_rounds (fu + 1) (loops x T s v T' s' h0 ho ι D a w hT he hf)
    case region id ops draw =>
      split at h
      · cases h
      · exact wp_region_list (ZkM F C _ T s v T' s' h ho ι D a w _ hT he hf fun ι' a' w' g1 g2 g3 => ⟨ι', rfl, g1, g2, g3⟩)
    all_goals cases h
theorem Zvz {ι : Ren} {v v' : Value} (ht : ZbL v = true) : ¬ VR ι v v' := by
  intro h
  cases h with
  | atom h =>
    unfold ZbL at ht
    split at ht
    · simp only [Ev.atom] at h
      simp [h] at ht
    · cases ht
  | _ => simp [ZbL] at ht
theorem ZkN (F : Fit P ext) : ∀ fu : Nat, ZkL P (Zdy P ext fu)
  | 0 => ⟨fun _ _ _ _ _ h => by simp [Zdy] at h, fun _ _ _ _ _ h => by simp [Zdy] at h, fun _ _ _ _ _ h => by simp [Zdy] at h⟩
  | fu + 1 => by
    have C := ZkN F fu
    refine ⟨fun f args s v s' h => ?_, fun f args s v s' h => ?_, fun f args s v s' h ho ι w args' ha he hf => ?_⟩
    · simp only [Zdy] at h
      split at h
      · split at h
        · rename_i hw
          split at h
          · exact (ZN hw).trans (Zrr h)
          · cases h
        · cases h
      · split at h
        · split at h
          · replace h := (Zo h).2
            split at h
            · injection h with h; injection h with q1 q2; subst q1 q2; exact Zhv F C _ _ _ _ _ _ _ (by assumption)
            · cases h
          · cases h
        · cases h
    · simp only [Zdy] at h
      split at h
      · rename_i S hx
        exact (F.tc f S hx).1
      · split at h
        · rename_i fn hfn
          split at h
          · rename_i c hb
            exact ⟨fn, c, hfn, hb⟩
          · cases h
        · cases h
    · simp only [Zdy] at h
      split at h
      · rename_i S hx
        split at h
        · rename_i pre u post dn s1 hw
          obtain ⟨e1, e2, _⟩ := ZR hw
          split at h
          · rename_i ht
            obtain ⟨rfl, h3⟩ := ZmV (F.tc f S hx).2 h ho ha (e1 ▸ he) (e2 ▸ hf)
            refine h3.mono ?_
            rintro e w' (⟨v', ι', rfl, g1, g2, g3⟩ | ⟨_, ι', rfl, g1, g2⟩)
            · exact absurd g3 (Zvz ht)
            · exact ⟨ι', rfl, e1 ▸ g1, e2 ▸ g2⟩
          · cases h
        · cases h
      · split at h
        · rename_i fn hfn
          split at h
          · rename_i c hb
            obtain ⟨hsz, h⟩ := Zo h
            have hle : args.size ≤ fn.ntmps := Nat.le_of_ble_eq_true hsz
            split at h
            · rename_i v1 T1 s1 h1
              injection h with h; injection h with q1 q2; subst q1 q2
              refine calls_of_wp hfn hb (wp_mono ((Zob F C fu).1 c _ s _ T1 _ h1 ho ι [] _ w (Zhs ha hle) he hf) ?_)
              rintro ex a1 w1 ⟨ι1, rfl, g1, g2, g3⟩
              exact ⟨g3.2.1, ι1, rfl, g1, g2⟩
            · cases h
          · cases h
        · cases h
end
end Ev
end Go.Proofs.YtlbbiflodemagaaDoor
/- What is known of a function, in blocks' numbers of its own; and what that says at a call. -/
namespace Go.Proofs.YtlbbiflodemagaaDoor
open Go.RowKit
namespace Ev
noncomputable section
def ZdG : Nat → List AObj → Tr AObj
 | _, [] => .nil
 | i, o :: l => (ZdG (i + 1) l).set i (some o)
theorem ZpY : ∀ (l : List AObj) (i k : Nat), (ZdG i l).get k = if i ≤ k then l[k - i]? else none
 | [], i, k => by
  show (Tr.nil : Tr AObj).get k = _
  rw [Tr.get_nil]
  split <;> simp
 | o :: l, i, k => by
  show ((ZdG (i + 1) l).set i (some o)).get k = _
  rw [Tr.get_set]
  by_cases hk : k = i
  ·subst hk; rw [Zr, if_pos (Nat.le_refl _)]; simp
  ·rw [Zk hk, ZpY l (i + 1) k]
   by_cases h : i + 1 ≤ k
   ·rw [if_pos h, if_pos (by omega)]
    have : k - i = (k - (i + 1)) + 1 := by omega
    rw [this, List.getElem?_cons_succ]
   ·rw [if_neg h, if_neg (by omega)]
end
def lk (l : List AObj) : AH := fun k => l[k]?
def lkO (l : List (Option AObj)) : AH := fun k => (l[k]?).join
theorem Zfm (l : List AObj) : (ZdG 0 l).get = lk l := funext fun k => by rw [ZpY]; simp [lk]
section
variable {P : Program} {ext : FuncId → Option Ext}
def Fin (P : Program) (ι : Ren) (pre : List AObj) (w : World) (v : Value) (post : List (Option AObj)) (e : Ending) (w' : World) : Prop :=
 (∃ v' ι', e = .returned v' ∧ Step P ι (lk pre) w ι' (lkO post) w' ∧ (∀ k, ι' k ≠ none → k < post.length ∨ far ≤ k) ∧ VR ι' v v') ∨ (ZbL v = true ∧ ∃ ι', e = .panicked (Zej v) ∧ Step P ι (lk pre) w ι' (lkO post) w' ∧ (∀ k, ι' k ≠ none → k < post.length ∨ far ≤ k))
def LSpec (P : Program) (f : FuncId) (A : Array Value) (pre : List AObj) (v : Value) (post : List (Option AObj)) : Prop :=
 ∀ ι w args', (∀ k, ι k ≠ none → k < pre.length ∨ ZbF k) → VRs ι A args' → Emb P ι (lk pre) w → Calls P f args' w (Fin P ι pre w v post)
def Zoc (n0 : Nat) (v : Value) (post : List (Option AObj)) (u : Value) (s : St) (live : List Nat) : Prop :=
 live.length = post.length ∧ live.Nodup ∧ Zcn n0 live = true ∧ (v = Zam (rho live far) 3 u ∧ ZY 3 u = true) ∧
  ∀ j o, lkO post j = some o → ∃ k, live[j]? = some k ∧ match o with
   | .ro O m => s.h.get k = some (.ro O m)
   | .cells c t q => ∃ c' r, s.h.get k = some (.cells c' t q) ∧ c'.map (Zam (rho live far) 1) = c ++ r ∧ (q = true → r = []) ∧ Zw (ZY 1) c' = true
theorem ZlI {ι0 ι : Ren} {pre : List AObj} {w0 w : World} {u v v' : Value} {post : List (Option AObj)} {s : St} {live : List Nat} (hle : post.length ≤ far) (hd : ∀ k, ι0 k ≠ none → k < pre.length ∨ ZbF k) (h : Zoc pre.length v post u s live) (hS : Step P ι0 (lk pre) w0 ι s.h.get w) (hv : VR ι u v') : Fin P ι0 pre w0 v post (.returned v') w := by
 obtain ⟨h1, h2, h3, h4, h5⟩ := h
 have hT : TR ι 1 [] ((Tr.nil : Tr Value).set 0 (some u)) { tmps := #[v'], defers := [] } := ⟨rfl, rfl, fun t => by
  rw [Tr.get_set]
  by_cases ht : t = 0
  ·subst ht; rw [Zr]; exact hv
  ·rw [Zk ht, Tr.get_nil]
   have : (#[v'] : Array Value).getD t undef = undef := by simp [Array.getD, show ¬ t < 1 by omega]
   rw [this]
   exact VR.undef'⟩
 obtain ⟨gv, ι', hT', hS', hfr⟩ := Zx7 hT hS live post.length far rfl (Znt h3) h1 hle h2 (fun k hk => (hd k hk).imp (Zoa h3) id) (fun _ => some v) (fun t x ht hx => by
  injection hx with hx
  subst hx
  obtain rfl : t = 0 := by omega
  rw [Tr.get_set, Zr]
  exact h4) (lkO post) h5
 refine .inl ⟨v', ι', rfl, hS', fun k hk => ?_, ?_⟩
 ·rcases Nat.lt_or_ge k post.length with h | h
  ·exact .inl h
  ·rcases Nat.lt_or_ge k far with h' | h'
   ·exact absurd (hfr k h h') hk
   ·exact .inr h'
 ·have := hT'.2.2 0
  rw [Zrz, if_pos (by omega)] at this
  exact this
theorem Zw1 (F : Fit P ext) {f : FuncId} {fn : Func} {c : Code} (hfn : P.funcs[f]? = some fn) (hb : fn.body = some c) {A : Array Value} {pre : List AObj} {v : Value} {post : List (Option AObj)} (hA : Nat.ble A.size fn.ntmps = true) {fu : Nat} {orc : Orc} {st : Stop}
  (hev : Zgt P ext fn fn.ntmps fu c [] (Zeb 0 A.toList .nil) ⟨ZdG 0 pre, pre.length, [], orc, []⟩ = some st) (ho : ∀ p ∈ st.s.ob, p.1 = p.2) (hn : st.s.n ≤ far)
  (hto : ∀ ι0 w0, (∀ k, ι0 k ≠ none → k < pre.length ∨ ZbF k) → ∀ ι' a' w', Step P ι0 (lk pre) w0 ι' st.s.h.get w' → ZqF P fn (Fin P ι0 pre w0 v post) (fun _ _ _ => False) fn.ntmps ι' a' w' st) : LSpec P f A pre v post := by
 intro ι w args' hd ha he
 refine calls_of_wp hfn hb ?_
 have := (Zw0 F (R := Fin P ι pre w v post) (Nx := fun _ _ _ => False) fu).1 c [] _ _ st hev ho ι _ w (Zhs ha (Nat.le_of_ble_eq_true hA)) (by show Emb P ι (ZdG 0 pre).get w; rw [Zfm]; exact he)
  ⟨hn, fun k h1 h2 => by
   cases hk : ι k with
   | none => rfl
   | some b => exact absurd (hd k (by rw [hk]; simp)) (by have h3 : pre.length ≤ k := h1; have h4 : st.s.n ≤ 1000000000 := hn; have h5 : k < st.s.n := h2; unfold ZbF; omega)⟩
  (fun ι' a' w' g1 _ => hto ι w hd ι' a' w' (by have := g1; simp only [Zfm] at this; exact this))
 exact this
theorem Zv0 (F : Fit P ext) {f : FuncId} {fn : Func} {c : Code} (hfn : P.funcs[f]? = some fn) (hb : fn.body = some c) {A : Array Value} {pre : List AObj} {v u : Value} {post : List (Option AObj)} (hA : Nat.ble A.size fn.ntmps = true) {fu : Nat} {orc : Orc} {s : St}
  (hev : Zgt P ext fn fn.ntmps fu c [] (Zeb 0 A.toList .nil) ⟨ZdG 0 pre, pre.length, [], orc, []⟩ = some (.fin u s)) (ho : ∀ p ∈ s.ob, p.1 = p.2) (hn : s.n ≤ far) (hle : post.length ≤ far) (live : List Nat) (h : Zoc pre.length v post u s live) : LSpec P f A pre v post :=
 Zw1 F hfn hb hA hev ho hn fun _ _ hd _ _ _ hS _ hv => ZlI hle hd h hS hv
/-! ### At a call -/
def ZaM (m : Nat) : Nat → Value → Bool
 | d + 1, .agg cs => Zw (ZaM m d) cs.toList
 | d + 1, .tuple cs => Zw (ZaM m d) cs.toList
 | _, .pointer (some ⟨k, _, none⟩) => Nat.blt k m
 | _, .slice (some ⟨k, _, none⟩) _ _ => Nat.blt k m
 | _, .pointer (some ⟨_, _, some _⟩) => true
 | _, .slice (some ⟨_, _, some _⟩) _ _ => true
 | _, .map (some k) => Nat.blt k m
 | _, v => atom v
theorem Zi1 {ι ι2 : Ren} {ρ : Nat → Nat} {m : Nat} (hι : ∀ k b, k < m → ι k = some b → ι2 (ρ k) = some b) (hmk : ∀ b base id q, ι (ZX b base id) = some q → ι2 (ZX b base id) = some q) : ∀ (d : Nat) (v v' : Value), VR ι v v' → ZaM m d v = true → VR ι2 (Zam ρ d v) v'
 | d, v, v', h, hd => by
  cases h with
  | atom h => rw [ZhK d h]; exact .atom h
  | glob h => cases d <;> simp [ZaM, Ev.atom] at hd
  | ptr h => cases d <;> exact .ptr (hι _ _ (Nat.le_of_ble_eq_true hd) h)
  | map h => cases d <;> exact .map (hι _ _ (Nat.le_of_ble_eq_true hd) h)
  | slice h hn hc hq => cases d <;> exact .slice (hι _ _ (Nat.le_of_ble_eq_true hd) h) hn hc hq
  | slice0 h =>
   rename_i A _
   obtain ⟨k, o, sp⟩ := A
   cases sp <;> cases d <;> exact .slice0 h
  | mptr h => cases d <;> exact .mptr (hmk _ _ _ _ h)
  | mslice h hn hc => cases d <;> exact .mslice (hmk _ _ _ _ h) hn hc
  | func hs ht h1 h2 =>
   rename_i fn a a' b b'
   have ha : atom (.func fn a b) = true := by cases d <;> exact hd
   have e := VR.eq_of_atom ha (.func hs ht h1 h2)
   rw [e, ZhK d ha]
   exact .atom ha
  | agg hs h1 =>
   cases d with
   | zero => simp [ZaM, Ev.atom] at hd
   | succ d =>
    simp only [ZaM] at hd
    obtain ⟨q1, q2⟩ := ZiC (f := Zam ρ d) hs fun i x y hx hy => Zi1 hι hmk d x y (h1 i x y hx hy) (Zay hd i x hx)
    exact .agg q1 q2
  | tuple hs h1 =>
   cases d with
   | zero => simp [ZaM, Ev.atom] at hd
   | succ d =>
    simp only [ZaM] at hd
    obtain ⟨q1, q2⟩ := ZiC (f := Zam ρ d) hs fun i x y hx hy => Zi1 hι hmk d x y (h1 i x y hx hy) (Zay hd i x hx)
    exact .tuple q1 q2
theorem Znu {ι ι2 : Ren} {f : Value → Value} {a a' : Array Value} (h : VRs ι (Zgs f a) a') (g : ∀ (i : Nat) x y, a[i]? = some x → VR ι (f x) y → VR ι2 x y) : VRs ι2 a a' := by
 rw [Zty] at h
 refine ⟨by simpa using h.1, fun i x y hx hy => g i x y hx (h.2 i _ y (by rw [Array.getElem?_map, hx]; rfl) hy)⟩
theorem VR.agg_of {ι : Ren} {a : Array Value} {v' : Value} (h : VR ι (.agg a) v') : ∃ a', v' = .agg a' ∧ VRs ι a a' := by
 cases h with
 | atom h => simp [Ev.atom] at h
 | agg hs h1 => exact ⟨_, rfl, hs, h1⟩
theorem VR.tuple_of {ι : Ren} {a : Array Value} {v' : Value} (h : VR ι (.tuple a) v') : ∃ a', v' = .tuple a' ∧ VRs ι a a' := by
 cases h with
 | atom h => simp [Ev.atom] at h
 | tuple hs h1 => exact ⟨_, rfl, hs, h1⟩
theorem ZqG {ι ι2 : Ren} {ρ : Nat → Nat} {m : Nat} (hι : ∀ k b, k < m → ι (ρ k) = some b → ι2 k = some b) (hmk : ∀ b base id q, ι (ZX b base id) = some q → ι2 (ZX b base id) = some q) : ∀ (d : Nat) (v v' : Value), VR ι (Zam ρ d v) v' → ZaM m d v = true → VR ι2 v v'
 | d, v, v', h, hd => by
  have at_ : atom v = true → VR ι2 v v' := fun ha => by
   rw [ZhK d ha] at h
   rw [h.eq_of_atom ha]
   exact .atom ha
  cases v with
  | pointer a =>
   cases a with
   | none => exact at_ rfl
   | some a =>
    obtain ⟨k, o, sp⟩ := a
    cases sp with
    | some sp =>
     have h' : VR ι (.pointer (some ⟨k, o, some sp⟩)) v' := by cases d <;> exact h
     cases h' with
     | atom q => simp [Ev.atom] at q
     | mptr q => exact .mptr (hmk _ _ _ _ q)
    | none =>
     have hk : k < m := by cases d <;> exact Nat.le_of_ble_eq_true hd
     have h' : VR ι (.pointer (some ⟨ρ k, o, none⟩)) v' := by cases d <;> exact h
     cases h' with
     | atom q => simp [Ev.atom] at q
     | ptr q => exact .ptr (hι k _ hk q)
  | slice a n c =>
   cases a with
   | none =>
    have ha : atom (.slice none n c) = true := by cases d <;> exact hd
    exact at_ ha
   | some a =>
    obtain ⟨k, o, sp⟩ := a
    cases sp with
    | some sp =>
     have h' : VR ι (.slice (some ⟨k, o, some sp⟩) n c) v' := by cases d <;> exact h
     cases h' with
     | atom q => simp [Ev.atom] at q
     | mslice q hn hc => exact .mslice (hmk _ _ _ _ q) hn hc
     | slice0 h0 => exact .slice0 h0
    | none =>
     have hk : k < m := by cases d <;> exact Nat.le_of_ble_eq_true hd
     have h' : VR ι (.slice (some ⟨ρ k, o, none⟩) n c) v' := by cases d <;> exact h
     cases h' with
     | atom q => simp [Ev.atom] at q
     | slice q hn hc hq => exact .slice (hι k _ hk q) hn hc hq
     | slice0 h0 => exact .slice0 h0
  | map a =>
   cases a with
   | none =>
    have ha : atom (.map none) = true := rfl
    exact at_ ha
   | some k =>
    have hk : k < m := by cases d <;> exact Nat.le_of_ble_eq_true hd
    have h' : VR ι (.map (some (ρ k))) v' := by cases d <;> exact h
    cases h' with
    | atom q => simp [Ev.atom] at q
    | map q => exact .map (hι k _ hk q)
  | agg cs =>
   cases d with
   | zero => simp [ZaM, Ev.atom] at hd
   | succ d =>
    simp only [ZaM] at hd
    obtain ⟨a', rfl, ha⟩ := VR.agg_of (a := Zgs (Zam ρ d) cs) h
    have := Znu ha fun i x y hx hv => ZqG hι hmk d x y hv (Zay hd i x hx)
    exact .agg this.1 this.2
  | tuple cs =>
   cases d with
   | zero => simp [ZaM, Ev.atom] at hd
   | succ d =>
    simp only [ZaM] at hd
    obtain ⟨a', rfl, ha⟩ := VR.tuple_of (a := Zgs (Zam ρ d) cs) h
    have := Znu ha fun i x y hx hv => ZqG hι hmk d x y hv (Zay hd i x hx)
    exact .tuple this.1 this.2
  | _ => exact at_ (by cases d <;> exact hd)
def kap (κ : List Nat) (n j : Nat) : Nat := match κ[j]? with | some k => k | none => n + (j - κ.length)
theorem Zod {κ : List Nat} {n j : Nat} (h : j < κ.length) : κ[j]? = some (kap κ n j) := by
 unfold kap
 rw [List.getElem?_eq_getElem h]
theorem Zv1 {κ : List Nat} {n j : Nat} (h : κ.length ≤ j) : kap κ n j = n + (j - κ.length) := by
 unfold kap
 rw [List.getElem?_eq_none h]
def Zih (ρ : Nat → Nat) : AObj → AObj
 | .cells c t q => .cells (c.map (Zam ρ 1)) t q
 | .ro O m => .ro O m
def ZhL (m : Nat) : AObj → Bool
 | .cells c _ _ => Zw (ZaM m 1) c
 | .ro _ _ => true
theorem Zel {ρ : Nat → Nat} {o : AObj} : isC (some (Zih ρ o)) = isC (some o) := by
 cases o with
 | cells c t q => cases q with
  | false => rfl
  | true => cases c <;> rfl
 | ro O m => rfl
theorem Zmw {ρ : Nat → Nat} {o : AObj} : sol (some (Zih ρ o)) = sol (some o) := by
 cases o with
 | cells c t q => cases q with
  | false => rfl
  | true => cases c <;> rfl
 | ro O m => rfl
theorem Znv : ∀ (n : Nat) (l : List Nat), l.Nodup → (∀ k ∈ l, k < n) → l.length ≤ n
 | 0, l, _, h => by
  cases l with
  | nil => exact Nat.le_refl _
  | cons x l => exact absurd (h x (List.mem_cons_self ..)) (Nat.not_lt_zero _)
 | n + 1, l, hn, h => by
  by_cases hm : n ∈ l
  ·have := Znv n (l.erase n) (hn.erase n) (fun k hk => by
    have h1 := h k (List.mem_of_mem_erase hk)
    have hne : k ≠ n := fun e => by subst e; exact (hn.mem_erase_iff.1 hk).1 rfl
    omega)
   rw [List.length_erase_of_mem hm] at this
   omega
  ·have := Znv n l hn (fun k hk => by
    have h1 := h k hk
    have : k ≠ n := fun e => hm (e ▸ hk)
    omega)
   omega
theorem Zx8 {ρ : Nat → Nat} {d : Nat} {v : Value} (h : ZbL v = true) : Zam ρ d v = v := by
 unfold ZbL at h
 split at h
 ·cases d <;> rfl
 ·cases h
theorem LSpec.call {f : FuncId} {A : Array Value} {pre : List AObj} {v : Value} {post : List (Option AObj)} (h : LSpec P f A pre v post) (κ : List Nat) (n : Nat) (hκ : κ.length = pre.length) (hnd : κ.Nodup) (hlt : ∀ k ∈ κ, k < n) (hle : pre.length ≤ post.length)
  (hA : Zw (ZaM pre.length 3) A.toList = true) (hpre : ∀ o ∈ pre, ZhL pre.length o = true) (hv : (ZaM post.length 3 v || ZbL v) = true) (hpost : ∀ o, some o ∈ post → ZhL post.length o = true)
  {A' : Array Value} {pre' : List (Nat × AObj)} {v' : Value} {post' : List (Nat × Option AObj)} {dn : Nat} (eA : A' = Zgs (Zam (kap κ n) 3) A) (ev : v' = Zam (kap κ n) 3 v) (edn : pre.length + dn = post.length)
  (e1 : ∀ j o, pre[j]? = some o → Zax (kap κ n j) pre' = some (Zih (kap κ n) o)) (e2 : ∀ k o, Zax k pre' = some o → ∃ j, j < pre.length ∧ k = kap κ n j)
  (e3 : ∀ j, j < post.length → behind pre' post' (kap κ n j) = (lkO post j).map (Zih (kap κ n))) (e4 : ∀ k o, behind pre' post' k = some o → ∃ j, j < post.length ∧ k = kap κ n j) : Z3 P f A' pre' v' post' n dn := by
 intro ι w args' ha he hf
 subst eA ev
 have kl : ∀ j, j < pre.length → kap κ n j ∈ κ := fun j hj => List.mem_of_getElem? (Zod (n := n) (by omega : j < κ.length))
 have kn : ∀ j, j < pre.length → kap κ n j < n := fun j hj => hlt _ (kl j hj)
 have kg : ∀ j, pre.length ≤ j → kap κ n j = n + (j - pre.length) := fun j hj => by rw [← hκ]; exact Zv1 (by omega)
 have kinj : ∀ i j, kap κ n i = kap κ n j → i = j := fun i j hij => by
  rcases Nat.lt_or_ge i pre.length with h1 | h1 <;> rcases Nat.lt_or_ge j pre.length with h2 | h2
  ·have a := Zod (n := n) (by omega : i < κ.length)
   have b := Zod (n := n) (by omega : j < κ.length)
   rw [hij, ← b] at a
   exact (List.getElem?_inj (by omega) hnd).1 a
  ·have := kn i h1; rw [hij, kg j h2] at this; omega
  ·have := kn j h2; rw [← hij, kg i h1] at this; omega
  ·rw [kg i h1, kg j h2] at hij; omega
 have hpn : pre.length ≤ n := hκ ▸ Znv n κ hnd hlt
 have hnf : n + dn ≤ 1000000000 := hf.1
 let ιl : Ren := fun j => if j < pre.length then ι (kap κ n j) else if 1000000000 ≤ j ∧ j % 2 = 0 then ι j else none
 have hιm : ∀ b base id, ιl (ZX b base id) = ι (ZX b base id) := fun b base id => by
  have := Zfb b base id
  simp only [ιl]
  rw [if_neg (by omega), if_pos this]
 have hmkl : ∀ b base id q, ι (ZX b base id) = some q → ιl (ZX b base id) = some q := fun b base id q h => by rw [hιm]; exact h
 have hιl : ∀ j, j < pre.length → ιl j = ι (kap κ n j) := fun j hj => by simp [ιl, hj]
 have hl : ∀ k b, k < pre.length → ι (kap κ n k) = some b → ιl k = some b := fun k b hk hb => by rw [hιl k hk]; exact hb
 have hargs : VRs ιl A args' := Znu ha fun i x y hx hv => ZqG hl hmkl 3 x y hv (Zay hA i x hx)
 have cr : ∀ {c : List Value} {C : Array Value}, Zw (ZaM pre.length 1) c = true → CR ι (c.map (Zam (kap κ n) 1)) C → CR ιl c C := fun {c C} hu hc => ⟨by simpa using hc.1, fun i x y hx hy => ZqG hl hmkl 1 x y (hc.2 i _ y (by rw [List.getElem?_map, hx]; rfl) hy) (Zao hu x (List.mem_of_getElem? hx))⟩
 have hemb : Emb P ιl (lk pre) w := by
  refine ⟨fun j c t q hj => ?_, fun j O hj => ?_, fun j j' b b' h1 h2 h3 h4 h5 => ?_, fun j b hj => ?_, fun b base id q hq => ?_, fun x hx => (he.tb x hx).imp fun q hq => hmkl _ _ _ _ hq⟩
  ·have hlt' : j < pre.length := (List.getElem?_eq_some_iff.1 hj).1
   obtain ⟨b, q1, ⟨z1, z2, z3⟩ | ⟨z1, C, q2, q3, q4⟩⟩ := he.obj _ _ t q (e1 j _ hj)
   ·exact ⟨b, by rw [hιl j hlt']; exact q1, .inl ⟨z1, List.map_eq_nil_iff.1 z2, z3⟩⟩
   ·exact ⟨b, by rw [hιl j hlt']; exact q1, .inr ⟨(Zel (ρ := kap κ n) (o := .cells c t q)).symm.trans z1, C, q2, cr (hpre _ (List.mem_of_getElem? hj)) q3, q4⟩⟩
  ·have hlt' : j < pre.length := (List.getElem?_eq_some_iff.1 hj).1
   obtain ⟨b, q1, q2⟩ := he.ro _ _ (e1 j _ hj)
   exact ⟨b, by rw [hιl j hlt']; exact q1, q2⟩
  ·obtain ⟨o, ho⟩ := Option.isSome_iff_exists.1 (ZbU h1)
   obtain ⟨o', ho'⟩ := Option.isSome_iff_exists.1 (Ze4 h2)
   have l1 : j < pre.length := (List.getElem?_eq_some_iff.1 ho).1
   have l2 : j' < pre.length := (List.getElem?_eq_some_iff.1 ho').1
   rw [hιl j l1] at h3
   rw [hιl j' l2] at h4
   have c1 : isC (Zax (kap κ n j) pre') = true := by rw [e1 j o ho, Zel, ← ho]; exact h1
   exact kinj j j' (he.inj _ _ b b' c1 (by show sol (Zax (kap κ n j') pre') = true; rw [e1 j' o' ho', Zmw, ← ho']; exact h2) h3 h4 h5)
  ·by_cases hj' : j < pre.length
   ·rw [hιl j hj'] at hj; exact he.lt _ b hj
   ·simp only [ιl] at hj
    rw [if_neg hj'] at hj
    split at hj
    ·exact he.lt _ b hj
    ·cases hj
  ·rw [hιm] at hq
   obtain ⟨m1, m2, m3⟩ := he.mks b base id q hq
   refine ⟨m1, ⟨m2.1.on hmkl, fun o c hc => hmkl _ _ _ _ (m2.2 o c hc)⟩, fun k d hk hd => ?_⟩
   obtain ⟨o, ho⟩ := Option.isSome_iff_exists.1 (ZbU hk)
   have l1 : k < pre.length := (List.getElem?_eq_some_iff.1 ho).1
   rw [hιl k l1] at hd
   exact m3 (kap κ n k) d (by show isC (Zax (kap κ n k) pre') = true; rw [e1 k o ho, Zel, ← ho]; exact hk) hd
 refine (h ιl w args' (fun k hk => by
  by_cases h : k < pre.length
  ·exact .inl h
  ·simp only [ιl] at hk
   rw [if_neg h] at hk
   split at hk
   ·exact .inr (by assumption)
   ·exact absurd rfl hk) hargs hemb).mono ?_
 intro e w' hfin
 obtain ⟨ι2, hS, hdom, hfin⟩ : ∃ ι2, Step P ιl (lk pre) w ι2 (lkO post) w' ∧ (∀ k, ι2 k ≠ none → k < post.length ∨ far ≤ k) ∧ ((∃ v', e = .returned v' ∧ VR ι2 v v') ∨ (ZbL v = true ∧ e = .panicked (Zej v))) := by
  rcases hfin with ⟨v', ι2, q1, q2, q3, q4⟩ | ⟨q1, ι2, q2, q3, q4⟩
  ·exact ⟨ι2, q2, q3, .inl ⟨v', q1, q4⟩⟩
  ·exact ⟨ι2, q3, q4, .inr ⟨q1, q2⟩⟩
 have live : ∀ j, j < pre.length → ∃ b, ιl j = some b := fun j hj => hemb.live (k := j) (by simp [lk, hj])
 let ι' : Ren := fun k => match ι k with | some b => some b | none => if n ≤ k ∧ k < n + dn then ι2 (k - n + pre.length) else if 1000000000 ≤ k ∧ k % 2 = 0 then ι2 k else none
 have hold : ∀ k b, ι k = some b → ι' k = some b := fun k b hk => by simp [ι', hk]
 have hnew : ∀ k b, k < post.length → ι2 k = some b → ι' (kap κ n k) = some b := fun k b hk hb => by
  rcases Nat.lt_or_ge k pre.length with h1 | h1
  ·obtain ⟨c, hc⟩ := live k h1
   have := hS.ext k c hc
   rw [hb] at this
   injection this with this
   subst this
   rw [hιl k h1] at hc
   exact hold _ _ hc
  ·have e := kg k h1
   have hn : ι (kap κ n k) = none := hf.2 _ (by omega) (by omega)
   have : ι' (kap κ n k) = ι2 (kap κ n k - n + pre.length) := by simp only [ι', hn]; rw [if_pos ⟨by omega, by omega⟩]
   rw [this, e, show n + (k - pre.length) - n + pre.length = k by omega]
   exact hb
 have hback : ∀ k b, k < post.length → ι' (kap κ n k) = some b → ι2 k = some b := fun k b hk hb => by
  rcases Nat.lt_or_ge k pre.length with h1 | h1
  ·obtain ⟨c, hc⟩ := live k h1
   have q := hS.ext k c hc
   rw [hιl k h1] at hc
   rw [hold _ _ hc] at hb
   rw [q]; exact hb
  ·have e := kg k h1
   have hn : ι (kap κ n k) = none := hf.2 _ (by omega) (by omega)
   have : ι' (kap κ n k) = ι2 (kap κ n k - n + pre.length) := by simp only [ι', hn]; rw [if_pos ⟨by omega, by omega⟩]
   rw [this, e, show n + (k - pre.length) - n + pre.length = k by omega] at hb
   exact hb
 have hnewM : ∀ b base id q, ι2 (ZX b base id) = some q → ι' (ZX b base id) = some q := fun b base id q hq => by
  have hf := Zfb b base id
  cases hi : ι (ZX b base id) with
  | some c =>
   have := hS.ext _ c (hmkl _ _ _ _ hi)
   rw [hq] at this
   injection this with this
   subst this
   exact hold _ _ hi
  | none =>
   simp only [ι', hi]
   rw [if_neg (by omega), if_pos hf]
   exact hq
 have hbackM : ∀ b base id q, ι' (ZX b base id) = some q → ι2 (ZX b base id) = some q := fun b base id q hq => by
  have hf := Zfb b base id
  cases hi : ι (ZX b base id) with
  | some c =>
   rw [hold _ _ hi] at hq
   rw [← hq]
   exact hS.ext _ c (hmkl _ _ _ _ hi)
  | none =>
   simp only [ι', hi] at hq
   rw [if_neg (by omega), if_pos hf] at hq
   exact hq
 have inv : ∀ k o, behind pre' post' k = some o → ∃ j o0, j < post.length ∧ k = kap κ n j ∧ lkO post j = some o0 ∧ o = Zih (kap κ n) o0 := fun k o hk => by
  obtain ⟨j, hj, rfl⟩ := e4 k o hk
  rw [e3 j hj] at hk
  cases hp : lkO post j with
  | none => rw [hp] at hk; cases hk
  | some o0 => rw [hp] at hk; injection hk with hk; exact ⟨j, o0, hj, rfl, hp, hk.symm⟩
 have mem : ∀ {j o}, lkO post j = some o → some o ∈ post := fun {j o} hj => by
  unfold lkO at hj
  cases hp : post[j]? with
  | none => rw [hp] at hj; cases hj
  | some x => rw [hp] at hj; exact (show x = some o from hj) ▸ List.mem_of_getElem? hp
 suffices hmain : Step P ι (fun k => Zax k pre') w ι' (behind pre' post') w' ∧ Dom ι ι' n (n + dn) by
  rcases hfin with ⟨v', q1, hvr⟩ | ⟨q1, q2⟩
  ·refine .inl ⟨v', ι', q1, hmain.1, hmain.2, ?_⟩
   have hu : ZaM post.length 3 v = true := by
    cases hu : ZaM post.length 3 v with
    | true => rfl
    | false => rw [hu] at hv; exact absurd hvr (Zvz hv)
   exact Zi1 hnew hnewM 3 v v' hvr hu
  ·rw [Zx8 q1]
   exact .inr ⟨q1, ι', q2, hmain.1, hmain.2⟩
 refine ⟨⟨hold, ⟨fun k c t q hk => ?_, fun k O hk => ?_, fun k k' b b' h1 h2 h3 h4 h5 => ?_, fun k b hk => ?_, fun b base id q hq => ?_, fun x hx => (hS.emb.tb x hx).imp fun q hq => hnewM _ _ _ _ hq⟩, hS.os, hS.tape, hS.output, hS.size, fun b hb hno => hS.frame b hb fun j c hj hc => ?_, fun k b h1 h2 => ?_, fun k h1 h2 => ?_, fun k h1 h2 => ?_⟩, fun k hk => ?_⟩
 ·obtain ⟨j, o0, hj, rfl, hp, ho⟩ := inv k _ hk
  cases o0 with
  | ro O => cases ho
  | cells c0 t0 q0 =>
   injection ho with q1 q2 q3
   subst q1 q2 q3
   obtain ⟨b, q1, ⟨z1, z2, z3⟩ | ⟨z1, C, q2, q3, q4⟩⟩ := hS.emb.obj j c0 _ _ hp
   ·exact ⟨b, hnew j b hj q1, .inl ⟨z1, by rw [z2]; rfl, z3⟩⟩
   have hu : Zw (ZaM post.length 1) c0 = true := hpost _ (mem hp)
   refine ⟨b, hnew j b hj q1, .inr ⟨(Zel (ρ := kap κ n) (o := .cells c0 t q)).trans z1, C, q2, ⟨by simpa using q3.1, fun i x y hx hy => ?_⟩, q4⟩⟩
   rw [List.getElem?_map] at hx
   cases hz : c0[i]? with
   | none => rw [hz] at hx; cases hx
   | some z =>
    rw [hz] at hx
    injection hx with hx
    subst hx
    exact Zi1 hnew hnewM 1 z y (q3.2 i z y hz hy) (Zao hu z (List.mem_of_getElem? hz))
 ·obtain ⟨j, o0, hj, rfl, hp, ho⟩ := inv k _ hk
  cases o0 with
  | cells c0 t0 => cases ho
  | ro O' m1 =>
   injection ho with q1 q2
   subst q1 q2
   obtain ⟨b, q1, q2⟩ := hS.emb.ro j _ hp
   exact ⟨b, hnew j b hj q1, q2⟩
 ·obtain ⟨o, ho⟩ := Option.isSome_iff_exists.1 (ZbU h1)
  obtain ⟨o', ho'⟩ := Option.isSome_iff_exists.1 (Ze4 h2)
  obtain ⟨j, o0, hj, rfl, hp, rfl⟩ := inv k _ ho
  obtain ⟨j', o0', hj', rfl, hp', rfl⟩ := inv k' _ ho'
  rw [ho, Zel] at h1
  have h2' : sol (behind pre' post' (kap κ n j')) = true := h2
  rw [ho', Zmw] at h2'
  rw [hS.emb.inj j j' b b' (by rw [hp]; exact h1) (by rw [hp']; exact h2') (hback j b hj h3) (hback j' b' hj' h4) h5]
 ·cases hi : ι k with
  | some c =>
   have := hold k c hi
   rw [hk] at this; injection this with this; subst this
   exact Nat.lt_of_lt_of_le (he.lt k b hi) hS.size
  | none =>
   simp only [ι', hi] at hk
   split at hk
   ·exact hS.emb.lt _ b hk
   ·split at hk
    ·exact hS.emb.lt _ b hk
    ·cases hk
 ·have hq2 := hbackM b base id q hq
  obtain ⟨m1, m2, m3⟩ := hS.emb.mks b base id q hq2
  refine ⟨m1, ⟨m2.1.on hnewM, fun o c hc => hnewM _ _ _ _ (m2.2 o c hc)⟩, fun k d hk hd => ?_⟩
  obtain ⟨o, ho⟩ := Option.isSome_iff_exists.1 (ZbU hk)
  obtain ⟨j, o0, hj, rfl, hp, rfl⟩ := inv k _ ho
  have hk' : isC (behind pre' post' (kap κ n j)) = true := hk
  rw [ho, Zel] at hk'
  exact m3 j d (by rw [hp]; exact hk') (hback j d hj hd)
 ·obtain ⟨o, ho⟩ := Option.isSome_iff_exists.1 (ZbU hj)
  have l1 : j < pre.length := (List.getElem?_eq_some_iff.1 ho).1
  rw [hιl j l1] at hc
  exact hno (kap κ n j) c (by rw [e1 j o ho, Zel, ← ho]; exact hj) hc
 ·simp only [ι', h1] at h2
  split at h2
  ·rename_i hr
   have hnone : ιl (k - n + pre.length) = none := by simp only [ιl]; rw [if_neg (by omega), if_neg (by omega)]
   rcases hS.new _ b hnone h2 with h | ⟨j, c, hj, hc, he2⟩
   ·exact .inl h
   ·obtain ⟨o, ho⟩ := Option.isSome_iff_exists.1 (ZbU hj)
    have l1 : j < pre.length := (List.getElem?_eq_some_iff.1 ho).1
    rw [hιl j l1] at hc
    exact .inr ⟨kap κ n j, c, by rw [e1 j o ho, Zel, ← ho]; exact hj, hc, he2⟩
  ·split at h2
   ·rename_i hr
    have hnone : ιl k = none := by simp only [ιl]; rw [if_neg (by omega), if_pos hr]; exact h1
    rcases hS.new _ b hnone h2 with h | ⟨j, c, hj, hc, he2⟩
    ·exact .inl h
    ·obtain ⟨o, ho⟩ := Option.isSome_iff_exists.1 (ZbU hj)
     have l1 : j < pre.length := (List.getElem?_eq_some_iff.1 ho).1
     rw [hιl j l1] at hc
     exact .inr ⟨kap κ n j, c, by rw [e1 j o ho, Zel, ← ho]; exact hj, hc, he2⟩
   ·cases h2
 ·obtain ⟨o, ho⟩ := Option.isSome_iff_exists.1 (Ze4 h1)
  obtain ⟨j, o0, hj, rfl, hp, rfl⟩ := inv k _ ho
  rcases Nat.lt_or_ge j pre.length with l1 | l1
  ·obtain ⟨c, hc⟩ := live j l1
   have h1' : sol (behind pre' post' (kap κ n j)) = true := h1
   rw [ho, Zmw] at h1'
   have q := hS.alive j (by rw [hp]; exact h1') (by rw [hc]; simp)
   obtain ⟨o1, ho1⟩ := Option.isSome_iff_exists.1 (Ze4 q)
   show sol (Zax (kap κ n j) pre') = true
   rw [e1 j o1 ho1, Zmw, ← ho1]
   exact q
  ·exact absurd (hf.2 _ (by rw [kg j l1]; omega) (by rw [kg j l1]; omega)) h2
 ·obtain ⟨o, ho⟩ := Option.isSome_iff_exists.1 (ZbU h1)
  obtain ⟨j, o0, hj, rfl, hp, rfl⟩ := inv k _ ho
  rcases Nat.lt_or_ge j pre.length with l1 | l1
  ·obtain ⟨c, hc⟩ := live j l1
   rw [ho, Zel] at h1
   have q := hS.kind j (by rw [hp]; exact h1) (by rw [hc]; simp)
   obtain ⟨o1, ho1⟩ := Option.isSome_iff_exists.1 (ZbU q)
   rw [e1 j o1 ho1, Zel, ← ho1]
   exact q
  ·exact absurd (hf.2 _ (by rw [kg j l1]; omega) (by rw [kg j l1]; omega)) h2
 ·cases hi : ι k with
  | some c => exact .inl (by simp)
  | none =>
   simp only [ι', hi] at hk
   split at hk
   ·rename_i hr; exact .inr (.inl hr)
   ·split at hk
    ·rename_i hr; exact .inr (.inr hr.1)
    ·exact absurd rfl hk
end
end Ev
end Go.Proofs.YtlbbiflodemagaaDoor
/- Tools of my own, over any program: contracts that hand back one value and leave what was there alone, and regions walked once in the class of worlds that are alike below a block. -/
namespace Go.Proofs.YtlbbiflodemagaaDoor
open Go.ChangeShapes Go.WideShapes Go.ChangeAt Go.RowKit

def Ret (v : Value) (w : World) (e : Ending) (w' : World) : Prop := e = .returned v ∧ Below w.heap.size w w'

def Cl (w : World) : Type := { w' : World // Below w.heap.size w w' }
def Cl.w {w : World} (x : Cl w) : World := x.1
theorem Cl.below {w : World} (x : Cl w) : Below w.heap.size w x.w := x.2
def Cl.start (w : World) : Cl w := ⟨w, Below.refl _ _⟩
instance (w : World) : Nonempty (Cl w) := ⟨Cl.start w⟩
theorem Cl.size {w : World} (x : Cl w) : w.heap.size ≤ x.w.heap.size := x.below.size
theorem Cl.cell {w : World} (x : Cl w) {b o : Nat} {v : Value} (hb : b < w.heap.size) (h : w.cell? ⟨b, o, none⟩ = some v) : x.w.cell? ⟨b, o, none⟩ = some v :=
 (x.below.cell (p := ⟨b, o, none⟩) hb).trans h
theorem Cl.frozen {w : World} (x : Cl w) {b o : Nat} {v : Bool} (hb : b < w.heap.size) (h : w.frozen? ⟨b, o, none⟩ = v) : x.w.frozen? ⟨b, o, none⟩ = v :=
 (x.below.frozen (p := ⟨b, o, none⟩) hb).trans h
theorem Cl.all {w : World} (_ : Cl w) (b o : Nat) (v : Value) (hb : b < w.heap.size) (h : w.cell? ⟨b, o, none⟩ = some v) : ∀ y : Cl w, y.w.cell? ⟨b, o, none⟩ = some v := fun y => y.cell hb h
theorem Cl.lt {w : World} (x : Cl w) {b : Nat} (h : b < w.heap.size) : b < x.w.heap.size := Nat.lt_of_lt_of_le h x.size
def Cl.on {w : World} (x : Cl w) {w' : World} (h : Below x.w.heap.size x.w w') : Cl w := ⟨w', x.below.trans (h.mono x.size)⟩
theorem Ret.next {w : World} {x : Cl w} {v : Value} {e : Ending} {w' : World} (h : Ret v x.w e w') : e = .returned v ∧ ∃ y : Cl w, w' = y.w :=
 ⟨h.1, x.on h.2, rfl⟩

theorem Ret.end {w W : World} {x : Cl W} {v : Value} (h : Below w.heap.size w W) : Ret v w (.returned v) x.w :=
 ⟨rfl, h.trans (x.below.mono h.size)⟩
theorem Ret.same {w : World} {v : Value} : Ret v w (.returned v) w := ⟨rfl, Below.refl _ _⟩
theorem Ret.alloc {w : World} {v : Value} (o : Obj) : Ret v w (.returned v) (w.alloc o) := ⟨rfl, (Below.refl _ _).alloc (Nat.le_refl _) _⟩

/-! ### Blocks that are known -/
def Has (W : World) (b : Nat) (cs : List Value) : Prop := b < W.heap.size ∧ ∀ i v, cs[i]? = some v → W.cell? ⟨b, i, none⟩ = some v ∧ W.frozen? ⟨b, i, none⟩ = false
section
variable {W : World} {b : Nat} {cs : List Value}
theorem Has.lt (h : Has W b cs) : b < W.heap.size := h.1
theorem Has.new (W : World) (cs : List Value) (t : TypeId) : Has (W.alloc (.cells cs.toArray t)) W.heap.size cs := by
 refine ⟨by simp, fun i v hi => ?_⟩
 have e : (W.alloc (.cells cs.toArray t)).heap[W.heap.size]? = some (.cells cs.toArray t (0, 0)) := heap_alloc_new W _
 refine ⟨?_, by simp only [World.frozen?, e]; simp⟩
 have := cell_of_row (W.alloc (.cells cs.toArray t)) W.heap.size i cs.toArray t (0, 0) e
 rw [this]; simpa using hi
theorem Has.below {W' : World} (h : Has W b cs) (hb : Below W.heap.size W W') : Has W' b cs :=
 ⟨Nat.lt_of_lt_of_le h.1 hb.size, fun i v hi => ⟨(hb.cell (p := ⟨b, i, none⟩) h.1).trans (h.2 i v hi).1, (hb.frozen (p := ⟨b, i, none⟩) h.1).trans (h.2 i v hi).2⟩⟩
theorem Has.ext (h : Has W b cs) (y : Cl W) : Has y.w b cs := h.below y.below
theorem Has.alloc (h : Has W b cs) (o : Obj) : Has (W.alloc o) b cs := h.below ((Below.refl _ _).alloc (Nat.le_refl _) _)
theorem Has.far (h : Has W b cs) {p : Addr} (hp : p.block ≠ b) (u : Value) : Has (W.setCell p u) b cs := by
 refine ⟨by simpa [World.setCell] using h.1, fun i v hi => ?_⟩
 have hb : (W.setCell p u).heap[b]? = W.heap[b]? := Below.heap_setCell W p u b (fun e => hp e.symm)
 exact ⟨(World.cell?_of_block (a := ⟨b, i, none⟩) hb).trans (h.2 i v hi).1, (World.frozen?_of_block (a := ⟨b, i, none⟩) hb).trans (h.2 i v hi).2⟩
theorem Has.at_ (h : Has W b cs) (i : Nat) (v : Value) (hi : cs[i]? = some v) : ∀ y : Cl W, y.w.cell? ⟨b, i, none⟩ = some v := fun y => ((h.ext y).2 i v hi).1
theorem Has.fr (h : Has W b cs) (i : Nat) (v : Value) (hi : cs[i]? = some v) : ∀ y : Cl W, y.w.frozen? ⟨b, i, none⟩ = false := fun y => ((h.ext y).2 i v hi).2
theorem Has.here (h : Has W b cs) (i : Nat) (v : Value) (hi : cs[i]? = some v) : W.cell? ⟨b, i, none⟩ = some v := (h.2 i v hi).1
end
theorem Cl.out {w W : World} (x : Cl W) (h : Below w.heap.size w W) : Below w.heap.size w x.w := h.trans (x.below.mono h.size)
theorem Ret.of {w T : World} {v : Value} (h : Below w.heap.size w T) : Ret v w (.returned v) T := ⟨rfl, h⟩
end Go.Proofs.YtlbbiflodemagaaDoor
/- The frame of every law, over any program: from 'called with whatever can be read, it hands back true and leaves what was there alone' to the row's own step. And how arguments are opened. -/
namespace Go.Proofs.YtlbbiflodemagaaDoor
open Go.ChangeShapes Go.WideShapes Go.ChangeAt Go.RowKit

section
variable {H : Type} {enc : TypeId × Value → H} {P : Program}

theorem ZlJ (hl : laidOutB P = true) {W W' : World} (hb : Below W.heap.size W W') : ∀ {ts : List TypeId} {vs : List Value} {ds : List (DataW H)} {ps : List MemPlace},
  (ts.all fun t => P.readableRec t && decide (t < P.types.size)) = true → DataW.TrodAll enc P W 0 (fun _ => true) true ts vs ds ps → (∀ x ∈ ps, x.block < W.heap.size) →
  DataW.TrodAll enc P W' 0 (fun b => decide (b < W.heap.size)) true ts vs ds ps
 | [], vs, ds, ps, _, h, _ => by
  obtain ⟨rfl, rfl, rfl⟩ := trodAll_nil h
  exact trodAll_mk0
 | t :: ts, vs, ds, ps, ha, h, hlt => by
  obtain ⟨v, vs', d, ds', p, q, rfl, rfl, rfl, h0, r0⟩ := trodAll_cons h
  simp only [List.all_cons, Bool.and_eq_true, decide_eq_true_eq] at ha
  exact trodAll_cons_mk (Below.trod hl ha.1.1 ha.1.2 h0 hb fun x hx => hlt x (List.mem_append_left _ hx))
   (ZlJ hl hb (by simpa using ha.2) r0 fun x hx => hlt x (List.mem_append_right _ hx))

end
end Go.Proofs.YtlbbiflodemagaaDoor
/- A round's frame: what the runner says of code holds there too. -/
namespace Go.Proofs.YtlbbiflodemagaaDoor
open Go.RowKit
namespace Ev
section
variable {P : Program} {ext : FuncId → Option Ext} {r : Option Nat}
end
end Ev
end Go.Proofs.YtlbbiflodemagaaDoor
/- Ranges over functions: the rounds, the iterator, the statement. -/
namespace Go.Proofs.YtlbbiflodemagaaDoor
open Go.RowKit
namespace Ev
noncomputable section
structure Cx where
 nt : Nat
 T : Tr Value
 ps : Array Tmp
 asg : Code
 body : Code
def dropY (dst : Option Tmp) (ys : List Tmp) : List Tmp := match dst with | some d => ys.filter (fun t => !Nat.beq t d) | none => ys
def addY (dst : Option Tmp) (ys : List Tmp) : List Tmp := match dst with | some d => d :: ys | none => ys
end
section
variable {P : Program} {ext : FuncId → Option Ext}
theorem Step.put {ι0 ι : Ren} {h0 h : AH} {w0 W : World} (st : Step P ι0 h0 w0 ι h W) {l : Nat} (hl : w0.heap.size ≤ l) (hn : ∀ k b, ι k = some b → b.1 ≠ l) (o : Obj) : Step P ι0 h0 w0 ι h (W.putObj l o) where
 ext := st.ext
 emb := ⟨fun k c t q hk => by
   obtain ⟨b, q1, hz⟩ := st.emb.obj k c t q hk
   exact ⟨b, q1, hz.imp id fun ⟨q0, C, q2, q3⟩ => ⟨q0, C, q2.on (World.putObj_heap_other (hn k b q1)), q3⟩⟩,
  fun k O hk => by
   obtain ⟨b, q1, q2⟩ := st.emb.ro k O hk
   exact ⟨b, q1, q2.on (World.putObj_heap_other (hn k b q1))⟩, st.emb.inj, fun k b hk => by
   have := st.emb.lt k b hk
   simpa [World.putObj] using this, fun b base id q hq => by
   obtain ⟨m1, m2, m3⟩ := st.emb.mks b base id q hq
   exact ⟨m1, ⟨m2.1.ext (fun _ _ h => h) (World.putObj_heap_other (by rw [← m1]; exact hn _ q hq)), m2.2⟩, m3⟩, st.emb.tb⟩
 os := st.os
 tape := st.tape
 output := st.output
 size := by have := st.size; simpa [World.putObj] using this
 frame := fun b hb hc => (World.putObj_heap_other (by omega)).trans (st.frame b hb hc)
 new := st.new
 alive := st.alive
 kind := st.kind
structure IS (P : Program) (ι0 : Ren) (h0 : AH) (w0 : World) (n0 : Nat) (cn : Nat) (cT : Tr Value) (ac : Act) (l K : Nat) (R : Loop) (ι : Ren) (s : St) (W : World) : Prop where
 st : Step P ι0 h0 w0 ι s.h.get W
 dm : Dom ι0 ι n0 s.n
 hn : n0 ≤ s.n
 tr : TR ι cn [] cT { tmps := ac.tmps, defers := [] }
 lo : W.heap[l]? = some (.loop R)
 de : W.heap[K]? = some (.deferred (some []))
 ll : w0.heap.size ≤ l
 lk : K ≠ l
 nl : ∀ k b, ι k = some b → b.1 ≠ l ∧ b.1 ≠ K
theorem Znw {ι ι1 : Ren} {h h1 : AH} {W W1 : World} (g : Step P ι h W ι1 h1 W1) {l : Nat} (hl : l < W.heap.size) (hn : ∀ k b, ι k = some b → b.1 ≠ l) : (∀ k b, ι1 k = some b → b.1 ≠ l) ∧ W1.heap[l]? = W.heap[l]? := by
 refine ⟨fun k b hk => ?_, g.frame l hl fun k c _ hc => hn k c hc⟩
 cases hi : ι k with
 | some c =>
  have := g.ext k c hi
  rw [hk] at this
  injection this with this
  rw [this]; exact hn k c hi
 | none =>
  rcases g.new k b hi hk with h | ⟨j, c, _, hj, e⟩
  ·omega
  ·rw [← e]; exact hn j c hj
section
variable {ι0 : Ren} {h0 : AH} {w0 : World} {n0 cn : Nat} {cT : Tr Value} {ac : Act} {l K : Nat} {R : Loop}
theorem IS.step {ι ι1 : Ren} {s s1 : St} {W W1 : World} (I : IS P ι0 h0 w0 n0 cn cT ac l K R ι s W) (g1 : Step P ι s.h.get W ι1 s1.h.get W1) (g2 : Dom ι ι1 s.n s1.n) (hle : s.n ≤ s1.n) : IS P ι0 h0 w0 n0 cn cT ac l K R ι1 s1 W1 := by
 have hl : l < W.heap.size := (Array.getElem?_eq_some_iff.1 I.lo).1
 have hk : K < W.heap.size := (Array.getElem?_eq_some_iff.1 I.de).1
 obtain ⟨a1, a2⟩ := Znw g1 hl fun k b h => (I.nl k b h).1
 obtain ⟨b1, b2⟩ := Znw g1 hk fun k b h => (I.nl k b h).2
 exact ⟨I.st.trans g1, I.dm.trans g2 I.hn hle, Nat.le_trans I.hn hle, I.tr.on g1.ext, a2.trans I.lo, b2.trans I.de, I.ll, I.lk, fun k b h => ⟨a1 k b h, b1 k b h⟩⟩
theorem IS.put {ι : Ren} {s : St} {W : World} (I : IS P ι0 h0 w0 n0 cn cT ac l K R ι s W) (R' : Loop) : IS P ι0 h0 w0 n0 cn cT ac l K R' ι s (W.putObj l (.loop R')) := by
 have hl : l < W.heap.size := (Array.getElem?_eq_some_iff.1 I.lo).1
 exact ⟨I.st.put I.ll (fun k b h => (I.nl k b h).1) _, I.dm, I.hn, I.tr, World.putObj_heap_same hl, (World.putObj_heap_other I.lk).trans I.de, I.ll, I.lk, I.nl⟩
end
section
variable {ι0 : Ren} {h0 : AH} {w0 : World} {n0 : Nat} {ac : Act} {l K : Nat} {R : Loop} {cx : Cx}
end
end
end Ev
end Go.Proofs.YtlbbiflodemagaaDoor
/- Ranges over functions: the iterator's code, the statement, the function. -/
namespace Go.Proofs.YtlbbiflodemagaaDoor
open Go.RowKit
namespace Ev
section
variable {P : Program} {ext : FuncId → Option Ext}
def YS (l : Nat) (ys : List Tmp) (a : Act) : Prop := ∀ t ∈ ys, a.tmps.getD t undef = .func (.yield l) #[] #[]
theorem YS.drop {l : Nat} {ys : List Tmp} {a : Act} {nt : Nat} (h : YS l ys a) (hs : a.tmps.size = nt) {dst : Option Tmp} (hd : Zec nt dst = true) (v : Value) : YS l (dropY dst ys) (a.put dst v) := fun t ht => by
 rw [Zns hs hd]
 cases dst with
 | none => rw [if_neg (by simp)]; exact h t ht
 | some d =>
  have ht : t ∈ ys.filter (fun t => !Nat.beq t d) := ht
  obtain ⟨h1, h2⟩ := List.mem_filter.1 ht
  have : ¬ d = t := fun e => by subst e; simp at h2
  rw [if_neg (by simpa using this)]
  exact h t h1
theorem YS.add {l : Nat} {ys : List Tmp} {a : Act} {nt : Nat} (h : YS l ys a) (hs : a.tmps.size = nt) {dst : Option Tmp} (hd : Zec nt dst = true) : YS l (addY dst ys) (a.put dst (.func (.yield l) #[] #[])) := fun t ht => by
 rw [Zns hs hd]
 split
 ·rfl
 ·rename_i hne
  cases dst with
  | none => exact h t ht
  | some d =>
   rcases List.mem_cons.1 (show t ∈ d :: ys from ht) with rfl | ht
   ·exact absurd rfl hne
   ·exact h t ht
section
variable {ι0 : Ren} {h0 : AH} {w0 : World} {n0 : Nat} {ac : Act} {l0 K : Nat} {R : Loop} {cx : Cx}
end
end
end Ev
end Go.Proofs.YtlbbiflodemagaaDoor
/- Ranges over functions: the iterator, the statement. -/
namespace Go.Proofs.YtlbbiflodemagaaDoor
open Go.RowKit
namespace Ev
section
variable {P : Program} {ext : FuncId → Option Ext}
section
variable {ι0 : Ren} {h0 : AH} {w0 : World} {n0 : Nat} {ac : Act} {l0 K : Nat} {R : Loop} {cx : Cx}
end
def Mk (b : Nat) (m : Bool) (D : List Deferred) (ι : Ren) (w : World) : Prop := match m with
 | false => D = []
 | true => ∃ K, b ≤ K ∧ D = [{ target := .collected K, args := #[] }] ∧ w.heap[K]? = some (.deferred (some [])) ∧ ∀ k b, ι k = some b → b.1 ≠ K
theorem Mk.step {b : Nat} {m : Bool} {D : List Deferred} {ι ι1 : Ren} {h h1 : AH} {w w1 : World} (hm : Mk b m D ι w) (g : Step P ι h w ι1 h1 w1) : Mk b m D ι1 w1 := by
 cases m with
 | false => exact hm
 | true =>
  obtain ⟨K, hb, e, hk, hn⟩ := hm
  obtain ⟨a1, a2⟩ := Znw g (Array.getElem?_eq_some_iff.1 hk).1 hn
  exact ⟨K, hb, e, a2.trans hk, a1⟩
end
end Ev
end Go.Proofs.YtlbbiflodemagaaDoor
/- Functions with a range over a function do what the runner says of them. -/
namespace Go.Proofs.YtlbbiflodemagaaDoor
open Go.RowKit
namespace Ev
section
variable {P : Program} {ext : FuncId → Option Ext}
end
end Ev
end Go.Proofs.YtlbbiflodemagaaDoor
/- Functions that recover what is thrown. -/
namespace Go.Proofs.YtlbbiflodemagaaDoor
open Go.RowKit
namespace Ev
noncomputable section
def ZkO (P : Program) (ext : FuncId → Option Ext) (nt : Nat) (call : FuncId → Array Value → St → Option (Value × St)) : Nat → Code → Tr Value → St → List (FuncId × Array Value) → Option (Value × Tr Value × St × List (FuncId × Array Value))
 | 0, _, _, _, _ => none
 | fu + 1, c, T, s, ds => match c with
  | .seq a b => match evD P ext nt fu a T s ds with
   | some (false, T', s', ds') => ZkO P ext nt call fu b T' s' ds'
   | some (true, _) => none
   | none => ZkO P ext nt call fu a T s ds
  | .region id ops draw => match ZaP P ext nt call fu (.region id ops draw) T s with
   | some (v, T', s') => some (v, T', s', ds)
   | none => none
  | .cond x a b => match ZaP P ext nt call fu (.cond x a b) T s with
   | some (v, T', s') => some (v, T', s', ds)
   | none => none
  | _ => none
abbrev ZbV := Option (Value × Bool)
def Zj9 (M : ZbV) : Value := match M with | some (v, false) => v | _ => .nilIface
def Zut (M : ZbV) : ZbV := match M with | some (v, false) => some (v, true) | M => M
def Zmx (M : ZbV) : ZbV := match M with | some (_, true) => none | M => M
def Zuu (P : Program) (o : Oper) : Bool :=
 match o.op with
 | .call _ => match o.op.operands.toList with
  | [] => match Zhm P (execOp (fun _ => undef) o) with
   | some .recover => true
   | _ => false
  | _ => false
 | _ => false
def Zuv : Value → Bool
 | .iface _ _ => true
 | .nilIface => true
 | _ => false
def Zw2 (P : Program) (nt : Nat) (o : Oper) (d : Tmp) (w : Value) : Option (Tmp × Value) :=
 match o.op with
 | .typeAssert x _ _ _ => match x with
  | .tmp d' => match o.guard with
   | none => match o.dst with
    | some d2 => bif Nat.beq d' d && Nat.blt d2 nt && Zuv w then match Zhm P (execOp (fun _ => w) o) with
     | some (.value r) => bif Zbl r then some (d2, r) else none
     | _ => none
     else none
    | none => none
   | some _ => none
  | _ => none
 | _ => none
def evDefOps (P : Program) (ext : FuncId → Option Ext) (nt fu : Nat) (ops : Array Oper) : List Oper → Tr Value → St → ZbV → Option (Tr Value × St × ZbV)
 | [], T, s, M => some (T, s, M)
 | o :: l, T, s, M =>
  bif Zec nt o.dst && Zw ZfY o.op.operands.toList then
   match Zeg ops T o s with
   | some (true, s1) => match Zuu P o with
    | true => match o.dst with
     | some d => match l with
      | o2 :: l2 => match Zw2 P nt o2 d (Zj9 M) with
       | some (d2, r) => evDefOps P ext nt fu ops l2 ((T.set d (some (.chan (some 0)))).set d2 (some r)) s1 (Zut M)
       | none => none
      | [] => none
     | none => none
    | false => match ZfP P ext fu (opnd T) o s1 with
     | some (v, s') => evDefOps P ext nt fu ops l (Zc6 T o.dst v) s' M
     | none => none
   | some (false, s1) => evDefOps P ext nt fu ops l (Zc6 T o.dst undef) s1 M
   | none => none
  else none
def ZgH (P : Program) (ext : FuncId → Option Ext) (nt : Nat) : Nat → Code → Tr Value → St → ZbV → Option (Tr Value × St × ZbV)
 | 0, _, _, _, _ => none
 | fu + 1, c, T, s, M => match c with
  | .seq a b => match ZgH P ext nt fu a T s M with
   | some (T', s', M') => ZgH P ext nt fu b T' s' M'
   | none => none
  | .cond x a b => match opnd T x with
   | .bool t => match t with
    | true => ZgH P ext nt fu a T s M
    | false => ZgH P ext nt fu b T s M
   | _ => none
  | .region id ops draw => match draw with
   | true => match ZaE P ext nt fu (.region id ops true) T s with
    | some (.normal, T', s') => some (T', s', M)
    | _ => none
   | false => evDefOps P ext nt fu ops ops.toList T s M
  | .skip => some (T, s, M)
  | _ => none
def Ze7 (P : Program) (ext : FuncId → Option Ext) (fu : Nat) : List (FuncId × Array Value) → St → ZbV → Option (St × ZbV)
 | [], s, M => some (s, M)
 | d :: ds, s, M => match P.funcs[d.1]? with
  | some fn => match fn.body with
   | some c => bif Nat.ble d.2.size fn.ntmps then match ZgH P ext fn.ntmps fu c (Zeb 0 d.2.toList .nil) s M with
    | some (T, s', M') => match (match ZbT P T s' fn.results.toList with | some [v] => some v | some vs => some (.tuple vs.toArray) | none => none) with
     | some _ => Ze7 P ext fu ds s' (Zmx M')
     | none => none
    | none => none
    else none
   | none => none
  | none => none
def Zkm (P : Program) (ext : FuncId → Option Ext) (fu : Nat) (fn : Func) (T : Tr Value) (s : St) (ds : List (FuncId × Array Value)) (M : ZbV) : Out :=
 match Ze7 P ext fu ds s M with
 | some (s2, none) => match (match ZbT P T s2 fn.results.toList with | some [v] => some v | some vs => some (.tuple vs.toArray) | none => none) with
  | some v => some (v, s2)
  | none => none
 | _ => none
def ZiD (P : Program) (ext : FuncId → Option Ext) (fu : Nat) (f : FuncId) (args : Array Value) (s : St) : Out :=
 match P.funcs[f]? with
 | some fn => match fn.body with
  | some c => bif Nat.ble args.size fn.ntmps then match evD P ext fn.ntmps fu c (Zeb 0 args.toList .nil) s [] with
   | some (_, T, s1, ds) => Zkm P ext fu fn T s1 ds none
   | none => match ZkO P ext fn.ntmps (Zdy P ext fu) fu c (Zeb 0 args.toList .nil) s [] with
    | some (v, T, s1, ds) => Zkm P ext fu fn T s1 ds (some (v, false))
    | none => none
   else none
  | none => none
 | none => none
end
section
variable {P : Program} {ext : FuncId → Option Ext}
theorem Zoe (F : Fit P ext) {call : FuncId → Array Value → St → Option (Value × St)} (C : ZkL P call) {nt : Nat} : ∀ (fu : Nat) (c : Code) (T : Tr Value) (s : St) (ds : List (FuncId × Array Value)) (v : Value) (T' : Tr Value) (s' : St) (ds' : List (FuncId × Array Value)), ZkO P ext nt call fu c T s ds = some (v, T', s', ds') → Up s s'
 | 0, _, _, _, _, _, _, _, _, h => by simp [ZkO] at h
 | fu + 1, c, T, s, ds, v, T', s', ds', h => by
  cases c <;> simp only [ZkO] at h
  case seq a b =>
   split at h
   ·exact (Zja F fu _ _ _ _ _ _ _ _ (by assumption)).trans (Zoe F C fu _ _ _ _ _ _ _ _ h)
   ·cases h
   ·exact Zoe F C fu _ _ _ _ _ _ _ _ h
  case region id ops draw =>
   split at h
   ·injection h with h; simp only [Prod.mk.injEq] at h; obtain ⟨_, _, rfl, _⟩ := h; exact Zhv F C _ _ _ _ _ _ _ (by assumption)
   ·cases h
  case cond x a b =>
   split at h
   ·injection h with h; simp only [Prod.mk.injEq] at h; obtain ⟨_, _, rfl, _⟩ := h; exact Zhv F C _ _ _ _ _ _ _ (by assumption)
   ·cases h
  all_goals cases h
def Zyj (P : Program) (ι : Ren) (s : St) (w : World) (nt : Nat) (v : Value) (T' : Tr Value) (s' : St) (ds' : List (FuncId × Array Value)) (ex : Exit) (a' : Act) (w' : World) : Prop :=
 ex = .panic (Zej v) ∧ ∃ ι' D', Step P ι s.h.get w ι' s'.h.get w' ∧ Dom ι ι' s.n s'.n ∧ TR ι' nt D' T' a' ∧ DR ι' ds' D'
theorem Znx (F : Fit P ext) {call : FuncId → Array Value → St → Option (Value × St)} (C : ZkL P call) {nt : Nat} : ∀ (fu : Nat) (c : Code) (T : Tr Value) (s : St) (ds : List (FuncId × Array Value)) (v : Value) (T' : Tr Value) (s' : St) (ds' : List (FuncId × Array Value)), ZkO P ext nt call fu c T s ds = some (v, T', s', ds') → (∀ p ∈ s'.ob, p.1 = p.2) →
  ∀ ι D a w, TR ι nt D T a → DR ι ds D → Emb P ι s.h.get w → Fresh ι s.n s'.n → c.wp P (Zyj P ι s w nt v T' s' ds') a w
 | 0, _, _, _, _, _, _, _, _, h => by simp [ZkO] at h
 | fu + 1, c, T, s, ds, v, T', s', ds', h => by
  intro ho ι D a w hT hD he hf
  cases c <;> simp only [ZkO] at h
  case seq x y =>
   split at h
   ·rename_i T1 s1 ds1 h1
    have u1 := Zja F fu _ _ _ _ _ _ _ _ h1
    have u2 := Zoe F C fu _ _ _ _ _ _ _ _ h
    refine wp_seq (wp_mono (Zht F fu x T s ds _ T1 s1 ds1 h1 (ZaG u2.ob ho) ι D a w hT hD he (hf.mono (Nat.le_refl _) u2.n)) ?_)
    rintro ex a1 w1 ⟨rfl, ι1, D1, g1, g2, g3, g4⟩
    refine wp_mono (Znx F C fu y T1 s1 ds1 v T' s' ds' h ho ι1 D1 a1 w1 g3 g4 g1.emb (hf.after g2 u1.n)) ?_
    rintro ex a2 w2 ⟨rfl, ι2, D2, k1, k2, k3, k4⟩
    exact ⟨rfl, ι2, D2, g1.trans k1, g2.trans k2 u1.n u2.n, k3, k4⟩
   ·cases h
   ·refine wp_seq (wp_mono (Znx F C fu x T s ds v T' s' ds' h ho ι D a w hT hD he hf) ?_)
    rintro ex a1 w1 ⟨rfl, g⟩
    exact ⟨rfl, g⟩
  case region id ops draw =>
   split at h
   ·rename_i v1 T1 s1 h1
    injection h with h; simp only [Prod.mk.injEq] at h; obtain ⟨rfl, rfl, rfl, rfl⟩ := h
    refine wp_mono ((Zob F C fu).1 _ T s _ _ _ h1 ho ι D a w hT he hf) ?_
    rintro ex a1 w1 ⟨ι1, rfl, g1, g2, g3⟩
    exact ⟨rfl, ι1, D, g1, g2, g3, hD.on g1.ext⟩
   ·cases h
  case cond x y z =>
   split at h
   ·rename_i v1 T1 s1 h1
    injection h with h; simp only [Prod.mk.injEq] at h; obtain ⟨rfl, rfl, rfl, rfl⟩ := h
    refine wp_mono ((Zob F C fu).1 _ T s _ _ _ h1 ho ι D a w hT he hf) ?_
    rintro ex a1 w1 ⟨ι1, rfl, g1, g2, g3⟩
    exact ⟨rfl, ι1, D, g1, g2, g3, hD.on g1.ext⟩
   ·cases h
  all_goals cases h
def MR (M : ZbV) (u : FrameMode) : Prop :=
 match M with
 | none => u = .returning
 | some (v, b) => u = .panicking [{ v := v, recovered := b }]
theorem MR.settle {M : ZbV} {u : FrameMode} (h : MR M u) : MR (Zmx M) (settle u) := by
 cases M with
 | none => cases h; rfl
 | some p =>
  obtain ⟨v, b⟩ := p
  cases h
  cases b <;> rfl
theorem MR.norun {M : ZbV} {u : FrameMode} (h : MR M u) : u ≠ .run := by
 cases M with
 | none => cases h; simp
 | some p => obtain ⟨v, b⟩ := p; cases h; simp
theorem MR.recover {M : ZbV} {u : FrameMode} (h : MR M u) (c : Frame) (cs : List Frame) :
  ∃ u', MR (Zut M) u' ∧ ((recoverD ({ c with mode := u } :: cs) = some (Zj9 M, { c with mode := u' } :: cs)) ∨ (recoverD ({ c with mode := u } :: cs) = none ∧ Zj9 M = .nilIface ∧ u' = u)) := by
 cases M with
 | none => cases h; exact ⟨_, rfl, .inr ⟨rfl, rfl, rfl⟩⟩
 | some p =>
  obtain ⟨v, b⟩ := p
  cases h
  cases b with
  | true => exact ⟨_, rfl, .inr ⟨rfl, rfl, rfl⟩⟩
  | false => exact ⟨_, rfl, .inl rfl⟩
theorem Zx9 {ρ : Operand → Value} {o : Oper} (h : Zuu P o = true) (w : World) : (execOp ρ o).run P w = .ok .recover w := by
 unfold Zuu at h
 split at h
 ·rename_i c hop
  split at h
  ·rename_i hl
   split at h
   ·rename_i hp
    have : execOp ρ o = execOp (fun _ => undef) o := execOp_congr o (fun cs b e => by rw [hop] at e; cases e) fun x hx => by
     have hx' : x ∈ o.op.operands.toList := by simpa using hx
     rw [hl] at hx'
     cases hx'
    rw [this]
    exact Zfh w hp
   ·cases h
  ·cases h
 ·cases h
theorem Zv2 {x : Value} (h : Zuv x = true) : x.oneCell' = true := by
 cases x <;> simp [Zuv] at h <;> rfl
theorem Zyk {nt : Nat} {o : Oper} {d d2 : Tmp} {x r : Value} {ρ : Operand → Value} (h : Zw2 P nt o d x = some (d2, r)) (hd : ρ (.tmp d) = x) (w : World) :
  o.guard = none ∧ o.dst = some d2 ∧ d2 < nt ∧ Zbl r = true ∧ (execOp ρ o).run P w = .ok (.value r) w ∧ Zuv x = true := by
 unfold Zw2 at h
 split at h
 ·rename_i y xt ty ok hop
  split at h
  ·rename_i d'
   split at h
   ·rename_i hg
    split at h
    ·rename_i d3 hd3
     replace h := Zo h
     obtain ⟨hc, h⟩ := h
     simp only [Bool.and_eq_true] at hc
     have hdd := Nat.eq_of_beq_eq_true hc.1.1
     subst hdd
     split at h
     ·rename_i r' hp
      replace h := Zo h
      obtain ⟨hfr, h⟩ := h
      injection h with h; injection h with q1 q2; subst q1 q2
      refine ⟨hg, hd3, by simpa [Nat.blt_eq] using hc.1.2, hfr, ?_, hc.2⟩
      have : execOp ρ o = execOp (fun _ => x) o := by simp only [execOp, hop, hd]
      rw [this]
      exact Zfh w hp
     ·cases h
    ·cases h
   ·cases h
  ·cases h
 ·cases h
theorem ZhM (F : Fit P ext) {nt fu : Nat} {ops : Array Oper} : ∀ (n : Nat) (l : List Oper) (T : Tr Value) (s : St) (M : ZbV) (T' : Tr Value) (s' : St) (M' : ZbV), l.length ≤ n → evDefOps P ext nt fu ops l T s M = some (T', s', M') → Up s s'
 | _, [], T, s, M, T', s', M', _, h => by simp only [evDefOps] at h; injection h with h; simp only [Prod.mk.injEq] at h; obtain ⟨_, rfl, _⟩ := h; exact Up.refl _
 | 0, _ :: _, T, s, M, T', s', M', hn, h => by simp at hn
 | n + 1, o :: l, T, s, M, T', s', M', hn, h => by
  have uP := (Zc7 (P := P) (ext := ext) (fun f g hg => (F.hp f g hg).up) fu).2.2.1
  have hn' : l.length ≤ n := by simpa using hn
  rw [evDefOps.eq_def] at h
  simp only at h
  replace h := (Zo h).2
  split at h
  ·split at h
   ·split at h
    ·split at h
     ·rename_i o2 l2
      split at h
      ·exact (Za4 (by assumption)).trans (ZhM F n l2 _ _ _ _ _ _ (by simp at hn'; omega) h)
      ·cases h
     ·cases h
    ·cases h
   ·split at h
    ·exact (Za4 (by assumption)).trans ((uP _ _ _ _ _ (by assumption)).trans (ZhM F n l _ _ _ _ _ _ hn' h))
    ·cases h
  ·exact (Za4 (by assumption)).trans (ZhM F n l _ _ _ _ _ _ hn' h)
  ·cases h
theorem Zny {c : Code} {Q Q' : Exit → Act → List Frame → World → Prop} {a : Act} {cs : List Frame} {w : World} (h : c.wpS P Q a cs w) (hq : ∀ e a cs w, Q e a cs w → Q' e a cs w) : c.wpS P Q' a cs w :=
 fun b k hb hr => let ⟨e, a', cs', w', q, r⟩ := h b k hb hr; ⟨e, a', cs', w', hq _ _ _ _ q, r⟩
theorem ZpZ {ops : Array Oper} {Q : Exit → Act → List Frame → World → Prop} {i : Nat} {rest : List Nat} {a : Act} {cs : List Frame} {w : World} {o : Oper} (ho : ops[i]? = some o) (hw : Region.wanted o (yielded ops a.tmps) = true)
  (h : o.wp P a w (fun a' w' => wpOpsS P ops Q rest a' cs w') (fun e a' w' => Q e a' cs w')) : wpOpsS P ops Q (i :: rest) a cs w := by
 unfold Oper.wp at h
 simp only [wpOpsS, ho, hw, if_true]
 split
 ·rename_i w' hr
  rw [hr] at h
  exact h.elim
 ·exact h
theorem Zv3 {ops : Array Oper} {Q : Exit → Act → List Frame → World → Prop} {i : Nat} {rest : List Nat} {a : Act} {cs : List Frame} {w : World} {o : Oper} (ho : ops[i]? = some o) (hw : Region.wanted o (yielded ops a.tmps) = false)
  (h : wpOpsS P ops Q rest (a.put o.dst undef) cs w) : wpOpsS P ops Q (i :: rest) a cs w := by
 simp only [wpOpsS, ho, hw]
 exact h
theorem Zw3 {ops : Array Oper} {Q : Exit → Act → List Frame → World → Prop} {i : Nat} {rest : List Nat} {a : Act} {w : World} {o : Oper} {c : Frame} {cs : List Frame} {u : FrameMode} {M : ZbV} (ho : ops[i]? = some o) (hw : Region.wanted o (yielded ops a.tmps) = true)
  (hr : (execOp a.eval o).run P w = .ok .recover w) (hM : MR M u) (h : ∀ u', MR (Zut M) u' → wpOpsS P ops Q rest (a.put o.dst (Zj9 M)) ({ c with mode := u' } :: cs) w) : wpOpsS P ops Q (i :: rest) a ({ c with mode := u } :: cs) w := by
 obtain ⟨u', h1, h2⟩ := hM.recover c cs
 simp only [wpOpsS, ho, hw, if_true, hr]
 rcases h2 with h2 | ⟨h2, h3, h4⟩
 ·rw [h2]; exact h u' h1
 ·rw [h2]
  have := h u' h1
  rw [h3, h4] at this
  exact this
theorem ZgI (F : Fit P ext) {nt fu : Nat} {ops : Array Oper} {c : Frame} {cs : List Frame} : ∀ (n : Nat) (l : List Oper) (k : Nat) (T : Tr Value) (s : St) (M : ZbV) (T' : Tr Value) (s' : St) (M' : ZbV), l.length ≤ n → (∀ j, l[j]? = ops[k + j]?) → evDefOps P ext nt fu ops l T s M = some (T', s', M') → (∀ p ∈ s'.ob, p.1 = p.2) →
  ∀ ι D a u w (Q : Exit → Act → List Frame → World → Prop), TR ι nt D T a → MR M u → Emb P ι s.h.get w → Fresh ι s.n s'.n →
   (∀ ι' a' u' w', Step P ι s.h.get w ι' s'.h.get w' → Dom ι ι' s.n s'.n → TR ι' nt D T' a' → MR M' u' → Q .normal a' ({ c with mode := u' } :: cs) w') → wpOpsS P ops Q (List.range' k l.length) a ({ c with mode := u } :: cs) w
 | _, [], k, T, s, M, T', s', M', _, _, h => by
  intro ho ι D a u w Q hT hM he hf hQ
  simp only [evDefOps] at h
  injection h with h; simp only [Prod.mk.injEq] at h; obtain ⟨rfl, rfl, rfl⟩ := h
  exact hQ ι a u w (Step.refl he) Dom.refl hT hM
 | 0, _ :: _, k, T, s, M, T', s', M', hn, _, h => by simp at hn
 | n + 1, o :: l, k, T, s, M, T', s', M', hn, hl, h => by
  intro ho ι D a u w Q hT hM he hf hQ
  have hn' : l.length ≤ n := by simpa using hn
  have h0 : ops[k]? = some o := by simpa using (hl 0).symm
  have hl' : ∀ j, l[j]? = ops[k + 1 + j]? := fun j => by have := hl (j + 1); simpa [Nat.add_assoc, Nat.add_comm 1 j] using this
  rw [evDefOps.eq_def] at h
  simp only at h
  obtain ⟨hg, h⟩ := Zo h
  simp only [Bool.and_eq_true] at hg
  rw [List.length_cons, List.range'_succ]
  split at h
  ·rename_i s1 hw
   obtain ⟨hwant, e2, e3⟩ := Zcm (fun t _ => hT.2.2 t) hw
   split at h
   ·rename_i hrec
    split at h
    ·rename_i d hd
     cases l with
     | nil => cases h
     | cons o2 l2 =>
      simp only at h
      split at h
      ·rename_i d2 r has
       refine Zw3 h0 hwant (Zx9 hrec w) hM fun u' hM' => ?_
       have h1 : ops[k + 1]? = some o2 := by simpa using (hl' 0).symm
       have hlt : d < a.tmps.size := by
        have := hg.1
        rw [hd] at this
        rw [hT.1]
        simpa [Zec, Nat.blt_eq] using this
       have hev : (a.put o.dst (Zj9 M)).eval (.tmp d) = Zj9 M := by
        rw [hd]
        simp only [Act.eval, Act.put]
        simp [Array.getD, hlt]
       obtain ⟨q1, q2, q3, q4, q5, q6⟩ := Zyk (ρ := (a.put o.dst (Zj9 M)).eval) has hev w
       have hT1 : TR ι nt D (T.set d (some (.chan (some 0)))) (a.put o.dst (Zj9 M)) := by
        rw [hd]
        have := hg.1
        rw [hd] at this
        exact hT.put (dst := some d) this (.glob (Zv2 q6))
       rw [List.length_cons, List.range'_succ]
       refine ZpZ h1 (by simp [Region.wanted, q1]) ?_
       unfold Oper.wp
       rw [q5, Oper.upon_value, q2]
       have hl2 : ∀ j, l2[j]? = ops[k + 1 + 1 + j]? := fun j => by have := hl' (j + 1); rw [show k + 1 + 1 + j = k + 1 + (j + 1) by omega]; simpa using this
       exact ZgI F n l2 (k + 1 + 1) _ s1 (Zut M) T' s' M' (by simp at hn'; omega) hl2 h ho ι D _ u' w Q (hT1.put (dst := some d2) (by simpa [Zec, Nat.blt_eq] using q3) (VR.of_free q4)) hM' (e2 ▸ he) (e3 ▸ hf) fun ι2 a2 u2 w2 k1 k2 k3 k4 => hQ ι2 a2 u2 w2 (e2 ▸ k1) (e3 ▸ k2) k3 k4
      ·cases h
    ·cases h
   ·split at h
    ·rename_i v1 s2 hv
     have ua := Zc7 (P := P) (ext := ext) (fun f g hg => (F.hp f g hg).up) fu
     have u2 := ua.2.2.1 _ _ _ _ _ hv
     have u3 := ZhM F n l _ _ _ _ _ _ hn' h
     refine ZpZ h0 hwant ((Zfl F fu).2.2.1 (opnd T) (Zc2 a) o s1 v1 s2 hv (ZaG u3.ob ho) ι w hT.opnd (e2 ▸ he) (e3 ▸ (hf.mono (Nat.le_refl _) u3.n)) a _ _ (Zfk (ZiZ hv) hg.2).symm fun v' w' ι' g1 g2 g3 => ?_)
     rw [e2] at g1
     rw [e3] at g2
     have hle : s.n ≤ s2.n := by rw [← e3]; exact u2.n
     exact ZgI F n l (k + 1) (Zc6 T o.dst v1) s2 M T' s' M' hn' hl' h ho ι' D _ u w' Q ((hT.on g1.ext).put hg.1 g3) hM g1.emb (hf.after g2 hle) fun ι2 a2 u2 w2 k1 k2 k3 k4 => hQ ι2 a2 u2 w2 (g1.trans k1) (g2.trans k2 hle u3.n) k3 k4
    ·cases h
  ·rename_i s1 hw
   obtain ⟨hwant, e2, e3⟩ := Zcm (fun t _ => hT.2.2 t) hw
   refine Zv3 h0 hwant ?_
   exact ZgI F n l (k + 1) (Zc6 T o.dst undef) s1 M T' s' M' hn' hl' h ho ι D _ u w Q (hT.put hg.1 VR.undef') hM (e2 ▸ he) (e3 ▸ hf) fun ι2 a2 u2 w2 k1 k2 k3 k4 => hQ ι2 a2 u2 w2 (e2 ▸ k1) (e3 ▸ k2) k3 k4
  ·cases h
theorem ZhN (F : Fit P ext) {nt : Nat} : ∀ (fu : Nat) (c : Code) (T : Tr Value) (s : St) (M : ZbV) (T' : Tr Value) (s' : St) (M' : ZbV), ZgH P ext nt fu c T s M = some (T', s', M') → Up s s'
 | 0, _, _, _, _, _, _, _, h => by simp [ZgH] at h
 | fu + 1, c, T, s, M, T', s', M', h => by
  have uC := (Zc7 (P := P) (ext := ext) (fun f g hg => (F.hp f g hg).up) fu).1
  cases c <;> simp only [ZgH] at h
  case seq a b =>
   split at h
   ·exact (ZhN F fu _ _ _ _ _ _ _ (by assumption)).trans (ZhN F fu _ _ _ _ _ _ _ h)
   ·cases h
  case cond x a b =>
   split at h
   ·split at h
    ·exact ZhN F fu _ _ _ _ _ _ _ h
    ·exact ZhN F fu _ _ _ _ _ _ _ h
   ·cases h
  case region id ops draw =>
   split at h
   ·split at h
    ·injection h with h; simp only [Prod.mk.injEq] at h; obtain ⟨_, rfl, _⟩ := h; exact uC _ _ _ _ _ _ _ (by assumption)
    ·cases h
   ·exact ZhM F _ _ _ _ _ _ _ _ (Nat.le_refl _) h
  case skip => injection h with h; simp only [Prod.mk.injEq] at h; obtain ⟨_, rfl, _⟩ := h; exact Up.refl _
  all_goals cases h
def ZxA (P : Program) (ι : Ren) (s : St) (w : World) (nt : Nat) (D : List Deferred) (T' : Tr Value) (s' : St) (M' : ZbV) (c : Frame) (cs : List Frame) (ex : Exit) (a' : Act) (cs' : List Frame) (w' : World) : Prop :=
 ex = .normal ∧ ∃ ι' u', cs' = { c with mode := u' } :: cs ∧ Step P ι s.h.get w ι' s'.h.get w' ∧ Dom ι ι' s.n s'.n ∧ TR ι' nt D T' a' ∧ MR M' u'
theorem ZhO (F : Fit P ext) {nt : Nat} {c0 : Frame} {cs : List Frame} : ∀ (fu : Nat) (c : Code) (T : Tr Value) (s : St) (M : ZbV) (T' : Tr Value) (s' : St) (M' : ZbV), ZgH P ext nt fu c T s M = some (T', s', M') → (∀ p ∈ s'.ob, p.1 = p.2) →
  ∀ ι D a u w, TR ι nt D T a → MR M u → Emb P ι s.h.get w → Fresh ι s.n s'.n → c.wpS P (ZxA P ι s w nt D T' s' M' c0 cs) a ({ c0 with mode := u } :: cs) w
 | 0, _, _, _, _, _, _, _, h => by simp [ZgH] at h
 | fu + 1, c, T, s, M, T', s', M', h => by
  intro ho ι D a u w hT hM he hf
  cases c <;> simp only [ZgH] at h
  case seq x y =>
   split at h
   ·rename_i T1 s1 M1 h1
    have u1 := ZhN F fu _ _ _ _ _ _ _ h1
    have u2 := ZhN F fu _ _ _ _ _ _ _ h
    refine wpS_seq (Zny (ZhO F fu x T s M T1 s1 M1 h1 (ZaG u2.ob ho) ι D a u w hT hM he (hf.mono (Nat.le_refl _) u2.n)) ?_)
    rintro ex a1 cs1 w1 ⟨rfl, ι1, v1, rfl, g1, g2, g3, g4⟩
    refine Zny (ZhO F fu y T1 s1 M1 T' s' M' h ho ι1 D a1 v1 w1 g3 g4 g1.emb (hf.after g2 u1.n)) ?_
    rintro ex a2 cs2 w2 ⟨rfl, ι2, v2, rfl, k1, k2, k3, k4⟩
    exact ⟨rfl, ι2, v2, rfl, g1.trans k1, g2.trans k2 u1.n u2.n, k3, k4⟩
   ·cases h
  case cond x y z =>
   split at h
   ·rename_i t ht
    have hx : a.eval x = .bool t := ZfH ((ht ▸ hT.opnd x : VR ι (.bool t) (Zc2 a x)).bool_inv)
    split at h
    ·exact wpS_cond hx (ZhO F fu y T s M T' s' M' h ho ι D a u w hT hM he hf)
    ·exact wpS_cond hx (ZhO F fu z T s M T' s' M' h ho ι D a u w hT hM he hf)
   ·cases h
  case region id ops draw =>
   split at h
   ·split at h
    ·rename_i T1 s1 h1
     injection h with h; simp only [Prod.mk.injEq] at h; obtain ⟨rfl, rfl, rfl⟩ := h
     refine wpS_of_wp (wp_mono ((Zfl F fu).1 nt _ T s .normal _ _ h1 ho ι D a w hT he hf) ?_)
     rintro ex a1 w1 ⟨rfl, ι1, g1, g2, g3⟩
     exact ⟨rfl, ι1, u, rfl, g1, g2, g3, hM⟩
    ·cases h
   ·refine wpS_region ?_
    rw [List.range_eq_range', ← Array.length_toList]
    exact ZgI F _ ops.toList 0 T s M T' s' M' (Nat.le_refl _) (by simp) h ho ι D a u w _ hT hM he hf fun ι' a' u' w' k1 k2 k3 k4 => ⟨rfl, ι', u', rfl, k1, k2, k3, k4⟩
  case skip =>
   injection h with h; simp only [Prod.mk.injEq] at h; obtain ⟨rfl, rfl, rfl⟩ := h
   exact wpS_of_wp (wp_skip ⟨rfl, ι, u, rfl, Step.refl he, Dom.refl, hT, hM⟩)
  all_goals cases h
theorem ZlK (F : Fit P ext) {fu : Nat} : ∀ (ds : List (FuncId × Array Value)) (s : St) (M : ZbV) (s' : St) (M' : ZbV), Ze7 P ext fu ds s M = some (s', M') → Up s s'
 | [], s, M, s', M', h => by simp only [Ze7] at h; injection h with h; simp only [Prod.mk.injEq] at h; obtain ⟨rfl, _⟩ := h; exact Up.refl _
 | d :: ds, s, M, s', M', h => by
  simp only [Ze7] at h
  split at h
  ·split at h
   ·replace h := (Zo h).2
    split at h
    ·rename_i T1 s1 M1 h1
     have h' : Ze7 P ext fu ds s1 (Zmx M1) = some (s', M') := by
      split at h
      ·exact h
      ·cases h
     exact (ZhN F fu _ _ _ _ _ _ _ h1).trans (ZlK F ds _ _ _ _ h')
    ·cases h
   ·cases h
  ·cases h
theorem ZlL (F : Fit P ext) {fu : Nat} {fn : Func} {tmps : Array Value} {R : Ending → World → Prop} : ∀ (ds : List (FuncId × Array Value)) (s : St) (M : ZbV) (s' : St), Ze7 P ext fu ds s M = some (s', none) → (∀ p ∈ s'.ob, p.1 = p.2) →
  ∀ ι D u w, DR ι ds D → MR M u → Emb P ι s.h.get w → Fresh ι s.n s'.n → (∀ ι' w', Step P ι s.h.get w ι' s'.h.get w' → Dom ι ι' s.n s'.n → Leaves P fn tmps R [] .returning w') → Leaves P fn tmps R D u w
 | [], s, M, s', h => by
  intro ho ι D u w hD hM he hf hR
  simp only [Ze7] at h
  injection h with h; simp only [Prod.mk.injEq] at h; obtain ⟨rfl, rfl⟩ := h
  cases hM
  cases D with
  | nil => exact hR ι w (Step.refl he) Dom.refl
  | cons _ _ => exact hD.elim
 | d :: ds, s, M, s', h => by
  intro ho ι D u w hD hM he hf hR
  simp only [Ze7] at h
  split at h
  ·rename_i fn' hfn
   split at h
   ·rename_i c hb
    replace h := Zo h
    obtain ⟨hsz, h⟩ := h
    have hle : d.2.size ≤ fn'.ntmps := Nat.le_of_ble_eq_true hsz
    split at h
    ·rename_i T1 s1 M1 h1
     split at h
     ·rename_i v1 hv1
      cases D with
      | nil => exact hD.elim
      | cons x D =>
       obtain ⟨⟨b, ht, hargs⟩, hD⟩ := hD
       have u1 := ZhN F fu _ _ _ _ _ _ _ h1
       have u2 := ZlK F ds _ _ _ _ h
       refine ⟨hM.norun, _, _, d.1, x.args ++ b, ht, ?_, ?_⟩
       ·rw [ht]
        exact Zdx hfn (F.go _ _ hfn) hb _ _
       ·refine callsD_of_wpS hfn hb fun c0 cs hu => ?_
        have hc0 : c0 = { c0 with mode := u } := by subst hu; rfl
        have key := ZhO F (nt := fn'.ntmps) (c0 := c0) (cs := cs) fu c _ s M T1 s1 M1 h1 (ZaG u2.ob ho) ι [] _ u w (Zhs hargs hle) hM he (hf.mono (Nat.le_refl _) u2.n)
        rw [← hc0] at key
        refine Zny key ?_
        rintro ex a1 cs1 w1 ⟨rfl, ι1, u1', rfl, g1, g2, g3, g4⟩
        obtain ⟨v', hrun, hv⟩ := Zga g3 g1.emb hv1
        exact ⟨g3.2.1, u1', rfl, v', hrun, ZlL F ds s1 (Zmx M1) s' h ho ι1 D _ w1 (hD.on g1.ext) g4.settle g1.emb (hf.after g2 u1.n) fun ι2 w2 k1 k2 => hR ι2 w2 (g1.trans k1) (g2.trans k2 u1.n u2.n)⟩
     ·cases h
    ·cases h
   ·cases h
  ·cases h
theorem Zkn (F : Fit P ext) {fu : Nat} {fn : Func} {T : Tr Value} {s : St} {ds : List (FuncId × Array Value)} {M : ZbV} {v : Value} {s' : St} (h : Zkm P ext fu fn T s ds M = some (v, s')) : Up s s' := by
 unfold Zkm at h
 split at h
 ·rename_i s2 h2
  have u := ZlK F _ _ _ _ _ h2
  split at h
  ·injection h with h; injection h with q1 q2; subst q1 q2; exact u
  ·cases h
 ·cases h
theorem ZmY (F : Fit P ext) {fu : Nat} {fn : Func} {T : Tr Value} {s0 s : St} {ds : List (FuncId × Array Value)} {M : ZbV} {v : Value} {s' : St} (h : Zkm P ext fu fn T s ds M = some (v, s')) (ho : ∀ p ∈ s'.ob, p.1 = p.2) {ι0 ι : Ren} {w0 w : World} {D : List Deferred} {u : FrameMode} {nt : Nat} {a : Act}
  (u0 : Up s0 s) (g1 : Step P ι0 s0.h.get w0 ι s.h.get w) (g2 : Dom ι0 ι s0.n s.n) (hf : Fresh ι0 s0.n s'.n) (hT : TR ι nt D T a) (hD : DR ι ds D) (hM : MR M u) : Leaves P fn a.tmps (Zms P ι0 s0 w0 v s') a.defers u w := by
 have uf := Zkn F h
 unfold Zkm at h
 split at h
 ·rename_i s2 h2
  split at h
  ·rename_i v1 hres
   injection h with h; injection h with q1 q2; subst q1 q2
   rw [hT.2.1]
   refine ZlL F ds s M s2 h2 ho ι D u w hD hM g1.emb (hf.after g2 u0.n) fun ι2 w2 k1 k2 => ?_
   obtain ⟨v', hrun, hv⟩ := Zga (hT.on k1.ext) k1.emb hres
   exact ⟨v', hrun, v', ι2, rfl, g1.trans k1, g2.trans k2 u0.n uf.n, hv⟩
  ·cases h
 ·cases h
theorem ZkP (F : Fit P ext) {fu : Nat} {f : FuncId} {fn : Func} {c : Code} (hfn : P.funcs[f]? = some fn) (hb : fn.body = some c) : Zfj P f (ZiD P ext fu f) := by
 refine ⟨fun args s v s' h => ?_, fun args s v s' h ho ι w args' ha he hf => .inl ⟨⟨fn, c, hfn, hb⟩, ?_⟩⟩
 ·unfold ZiD at h
  rw [hfn] at h
  simp only [hb] at h
  replace h := (Zo h).2
  split at h
  ·rename_i r T s1 ds h1
   exact (Zja F fu _ _ _ _ _ _ _ _ h1).trans (Zkn F h)
  ·split at h
   ·rename_i v1 T s1 ds h1
    exact (Zoe F (ZkN F fu) fu _ _ _ _ _ _ _ _ h1).trans (Zkn F h)
   ·cases h
 ·unfold ZiD at h
  rw [hfn] at h
  simp only [hb] at h
  replace h := Zo h
  obtain ⟨hsz, h⟩ := h
  have hle : args.size ≤ fn.ntmps := Nat.le_of_ble_eq_true hsz
  split at h
  ·rename_i r T s1 ds h1
   have u1 := Zja F fu _ _ _ _ _ _ _ _ h1
   have u2 := Zkn F h
   refine calls_of_wp_defers hfn hb (wp_mono (Zht F fu c _ s [] r T s1 ds h1 (ZaG u2.ob ho) ι [] _ w (Zhs ha hle) trivial he (hf.mono (Nat.le_refl _) u2.n)) ?_)
   rintro ex a1 w1 ⟨rfl, ι1, D1, g1, g2, g3, g4⟩
   have key := ZmY F (u := .returning) h ho u1 g1 g2 hf g3 g4 rfl
   cases r <;> exact key
  ·split at h
   ·rename_i v1 T s1 ds h1
    have u1 := Zoe F (ZkN F fu) fu _ _ _ _ _ _ _ _ h1
    have u2 := Zkn F h
    refine calls_of_wp_defers hfn hb (wp_mono (Znx F (ZkN F fu) fu c _ s [] v1 T s1 ds h1 (ZaG u2.ob ho) ι [] _ w (Zhs ha hle) trivial he (hf.mono (Nat.le_refl _) u2.n)) ?_)
    rintro ex a1 w1 ⟨rfl, ι1, D1, g1, g2, g3, g4⟩
    exact ZmY F (u := .panicking (Zej v1)) h ho u1 g1 g2 hf g3 g4 rfl
   ·cases h
end
end Ev
end Go.Proofs.YtlbbiflodemagaaDoor
/- Functions of no body of their own. -/
namespace Go.Proofs.YtlbbiflodemagaaDoor
open Go.RowKit
namespace Ev
noncomputable section
def ZlM (P : Program) (e : Array Value → Sem Value) (args : Array Value) (s : St) : Out :=
 bif Zw Zbl args.toList then match Zhm P (e args) with
  | some v => bif Zbl v then some (v, s) else none
  | none => none
  else none
def Zof (args : Array Value) (s : St) : Out :=
 match args.toList with
 | [x] => some (x, s)
 | _ => none
end
section
variable {P : Program}
theorem Zqa {f : FuncId} {fn : Func} {e : Array Value → Sem Value} (hf : P.funcs[f]? = some fn) (hn : (fn.name == "runtime.NumGoroutine") = false) (hb : fn.body.isNone = true) (hx : Extern.findNext fn = none) (he : Extern.find fn = some e) : Zfj P f (ZlM P e) := by
 refine ⟨fun args s v s' h => ?_, fun args s v s' h ho ι w args' ha hE hF => .inr ?_⟩
 ·unfold ZlM at h
  replace h := (Zo h).2
  split at h
  ·replace h := (Zo h).2
   injection h with h; injection h with h1 h2; subst h2; exact Up.refl _
  ·cases h
 ·unfold ZlM at h
  replace h := Zo h
  obtain ⟨hfree, h⟩ := h
  split at h
  ·rename_i v1 hp
   replace h := Zo h
   obtain ⟨hfv, h⟩ := h
   injection h with h; injection h with h1 h2; subst h1 h2
   have hae : args' = args := Ze3 ha.1 fun i x y hx1 hy1 => (ha.2 i x y hx1 hy1).eq_of_free (Zay hfree i x hx1)
   subst hae
   refine ⟨v1, w, ?_, v1, ι, rfl, Step.refl hE, Dom.refl, VR.of_free hfv⟩
   rw [run_callFunc_extern hf hn hb hx he, Zfh w hp]; rfl
  ·cases h
theorem Zv4 {f : FuncId} {fn : Func} (hf : P.funcs[f]? = some fn) (hn : (fn.name == "runtime.NumGoroutine") = false) (hb : fn.body.isNone = true) (hx : Extern.findNext fn = none) (he : Extern.find fn = some Extern.AbiNoEscape.same) : Zfj P f Zof := by
 refine ⟨fun args s v s' h => ?_, fun args s v s' h ho ι w args' ha hE hF => .inr ?_⟩
 ·unfold Zof at h
  split at h
  ·injection h with h; injection h with h1 h2; subst h2; exact Up.refl _
  ·cases h
 ·unfold Zof at h
  split at h
  ·rename_i x hx1
   injection h with h; injection h with h1 h2; subst h1 h2
   have hA : args = #[x] := by rw [← Array.toArray_toList (xs := args), hx1]
   subst hA
   obtain ⟨y, rfl⟩ : ∃ y, args' = #[y] := by
    have h1 : args'.size = 1 := ha.1.symm
    exact ⟨args'[0], by apply Array.ext; simp [h1]; intro i h1 h2; simp at h2; subst h2; rfl⟩
   refine ⟨y, w, ?_, y, ι, rfl, Step.refl hE, Dom.refl, ha.2 0 x y rfl rfl⟩
   rw [run_callFunc_extern hf hn hb hx he]; rfl
  ·cases h
end
end Ev
end Go.Proofs.YtlbbiflodemagaaDoor
/- Strings: what the library's functions do of them. -/
namespace Go.Proofs
open Go.Shelf
def YtlbbiflodemagaaDoor.Ev.lays156_ren : Go.Shelf.Ren := ⟨fun | 156 => 19 | 165 => 29 | 166 => 22 | 169 => 23 | 240 => 31 | 241 => 36 | 276 => 39 | 277 => 47 | n => n, fun | 31 => 44 | 9 => 9 | 3 => 3 | 4 => 4 | 0 => 0 | 20 => 20 | 72 => 62 | 76 => 65 | 70 => 60 | 37 => 40 | 75 => 64 | 127 => 79 | 164 => 90 | 5 => 5 | 80 => 67 | n => n, fun | n => n⟩
theorem YtlbbiflodemagaaDoor.Ev.lays156 : Go.Proofs.Lays.n156 Tryd.prog YtlbbiflodemagaaDoor.Ev.lays156_ren := {
  mixed := by kernel_rfl
  f156 := Tryd.func19.trans (congrArg some (by kernel_rfl))
  f165 := Tryd.func29.trans (congrArg some (by kernel_rfl))
  f166 := Tryd.func22.trans (congrArg some (by kernel_rfl))
  f169 := Tryd.func23.trans (congrArg some (by kernel_rfl))
  f240 := Tryd.func31.trans (congrArg some (by kernel_rfl))
  f241 := Tryd.func36.trans (congrArg some (by kernel_rfl))
  f276 := Tryd.func39.trans (congrArg some (by kernel_rfl))
  f277 := Tryd.func47.trans (congrArg some (by kernel_rfl))
  t0 := Tryd.underlying0
  a0 := Tryd.isAgg0
  z0 := Tryd.sizeOf0
  v0 := Tryd.zeroValue0
  t3 := Tryd.underlying3
  a3 := Tryd.isAgg3
  z3 := Tryd.sizeOf3
  v3 := Tryd.zeroValue3
  t4 := Tryd.underlying4
  a4 := Tryd.isAgg4
  z4 := Tryd.sizeOf4
  v4 := Tryd.zeroValue4
  t9 := Tryd.underlying9
  a9 := Tryd.isAgg9
  z9 := Tryd.sizeOf9
  v9 := Tryd.zeroValue9
  t20 := Tryd.underlying20
  a20 := Tryd.isAgg20
  z20 := Tryd.sizeOf20
  v20 := Tryd.zeroValue20
  t31 := Tryd.underlying44
  a31 := Tryd.isAgg44
  z31 := Tryd.sizeOf44
  v31 := Tryd.zeroValue44
  t37 := Tryd.underlying40
  a37 := Tryd.isAgg40
  z37 := Tryd.sizeOf40
  v37 := Tryd.zeroValue40
  t70 := Tryd.underlying60
  a70 := Tryd.isAgg60
  z70 := Tryd.sizeOf60
  v70 := Tryd.zeroValue60
  t72 := Tryd.underlying62
  a72 := Tryd.isAgg62
  z72 := Tryd.sizeOf62
  v72 := Tryd.zeroValue62
  t75 := Tryd.underlying64
  a75 := Tryd.isAgg64
  z75 := Tryd.sizeOf64
  v75 := Tryd.zeroValue64
  t76 := Tryd.underlying65
  a76 := Tryd.isAgg65
  z76 := Tryd.sizeOf65
  v76 := Tryd.zeroValue65
  t127 := Tryd.underlying79
  a127 := Tryd.isAgg79
  z127 := Tryd.sizeOf79
  v127 := Tryd.zeroValue79
  t164 := Tryd.underlying90
  a164 := Tryd.isAgg90
  z164 := Tryd.sizeOf90
  v164 := Tryd.zeroValue90 }
def YtlbbiflodemagaaDoor.Ev.lays105_ren : Go.Shelf.Ren := ⟨fun | 105 => 26 | 212 => 32 | 99 => 33 | 165 => 29 | 166 => 22 | 170 => 34 | 169 => 23 | 263 => 40 | 264 => 41 | 206 => 42 | 240 => 31 | 241 => 36 | 276 => 39 | 277 => 47 | n => n, fun | 9 => 9 | 3 => 3 | 4 => 4 | 20 => 20 | 0 => 0 | 46 => 81 | 109 => 82 | 5 => 5 | 72 => 62 | 76 => 65 | 51 => 92 | 146 => 93 | 53 => 95 | 148 => 96 | 70 => 60 | 37 => 40 | 75 => 64 | 127 => 79 | 164 => 90 | 80 => 67 | n => n, fun | n => n⟩
theorem YtlbbiflodemagaaDoor.Ev.lays105 : Go.Proofs.Lays.n105 Tryd.prog YtlbbiflodemagaaDoor.Ev.lays105_ren := {
  mixed := by kernel_rfl
  f99 := Tryd.func33.trans (congrArg some (by kernel_rfl))
  f105 := Tryd.func26.trans (congrArg some (by kernel_rfl))
  f165 := Tryd.func29.trans (congrArg some (by kernel_rfl))
  f166 := Tryd.func22.trans (congrArg some (by kernel_rfl))
  f169 := Tryd.func23.trans (congrArg some (by kernel_rfl))
  f170 := Tryd.func34.trans (congrArg some (by kernel_rfl))
  f206 := Tryd.func42.trans (congrArg some (by kernel_rfl))
  f212 := Tryd.func32.trans (congrArg some (by kernel_rfl))
  f240 := Tryd.func31.trans (congrArg some (by kernel_rfl))
  f241 := Tryd.func36.trans (congrArg some (by kernel_rfl))
  f263 := Tryd.func40.trans (congrArg some (by kernel_rfl))
  f264 := Tryd.func41.trans (congrArg some (by kernel_rfl))
  f276 := Tryd.func39.trans (congrArg some (by kernel_rfl))
  f277 := Tryd.func47.trans (congrArg some (by kernel_rfl))
  t0 := Tryd.underlying0
  a0 := Tryd.isAgg0
  z0 := Tryd.sizeOf0
  v0 := Tryd.zeroValue0
  t3 := Tryd.underlying3
  a3 := Tryd.isAgg3
  z3 := Tryd.sizeOf3
  v3 := Tryd.zeroValue3
  t4 := Tryd.underlying4
  a4 := Tryd.isAgg4
  z4 := Tryd.sizeOf4
  v4 := Tryd.zeroValue4
  t5 := Tryd.underlying5
  a5 := Tryd.isAgg5
  z5 := Tryd.sizeOf5
  v5 := Tryd.zeroValue5
  t9 := Tryd.underlying9
  a9 := Tryd.isAgg9
  z9 := Tryd.sizeOf9
  v9 := Tryd.zeroValue9
  t20 := Tryd.underlying20
  a20 := Tryd.isAgg20
  z20 := Tryd.sizeOf20
  v20 := Tryd.zeroValue20
  t37 := Tryd.underlying40
  a37 := Tryd.isAgg40
  z37 := Tryd.sizeOf40
  v37 := Tryd.zeroValue40
  t46 := Tryd.underlying81
  a46 := Tryd.isAgg81
  z46 := Tryd.sizeOf81
  v46 := Tryd.zeroValue81
  t51 := Tryd.underlying92
  a51 := Tryd.isAgg92
  z51 := Tryd.sizeOf92
  v51 := Tryd.zeroValue92
  t53 := Tryd.underlying95
  a53 := Tryd.isAgg95
  z53 := Tryd.sizeOf95
  v53 := Tryd.zeroValue95
  t70 := Tryd.underlying60
  a70 := Tryd.isAgg60
  z70 := Tryd.sizeOf60
  v70 := Tryd.zeroValue60
  t72 := Tryd.underlying62
  a72 := Tryd.isAgg62
  z72 := Tryd.sizeOf62
  v72 := Tryd.zeroValue62
  t75 := Tryd.underlying64
  a75 := Tryd.isAgg64
  z75 := Tryd.sizeOf64
  v75 := Tryd.zeroValue64
  t76 := Tryd.underlying65
  a76 := Tryd.isAgg65
  z76 := Tryd.sizeOf65
  v76 := Tryd.zeroValue65
  t109 := Tryd.underlying82
  a109 := Tryd.isAgg82
  z109 := Tryd.sizeOf82
  v109 := Tryd.zeroValue82
  t127 := Tryd.underlying79
  a127 := Tryd.isAgg79
  z127 := Tryd.sizeOf79
  v127 := Tryd.zeroValue79
  t146 := Tryd.underlying93
  a146 := Tryd.isAgg93
  z146 := Tryd.sizeOf93
  v146 := Tryd.zeroValue93
  t148 := Tryd.underlying96
  a148 := Tryd.isAgg96
  z148 := Tryd.sizeOf96
  v148 := Tryd.zeroValue96
  t164 := Tryd.underlying90
  a164 := Tryd.isAgg90
  z164 := Tryd.sizeOf90
  v164 := Tryd.zeroValue90 }
def YtlbbiflodemagaaDoor.Ev.lays171_ren : Go.Shelf.Ren := ⟨fun | 171 => 17 | 243 => 28 | 246 => 35 | 283 => 43 | 284 => 44 | 285 => 45 | 286 => 46 | 129 => 54 | 317 => 53 | 318 => 55 | 319 => 56 | 320 => 57 | 337 => 64 | 338 => 65 | n => n, fun | 3 => 3 | 9 => 9 | 2 => 2 | 4 => 4 | 171 => 98 | 0 => 0 | 53 => 95 | 37 => 40 | 5 => 5 | 173 => 101 | 212 => 109 | 51 => 92 | 20 => 20 | 213 => 110 | 46 => 81 | 232 => 127 | 233 => 128 | n => n, fun | 17 => 0 | 18 => 2 | 19 => 3 | n => n⟩
theorem YtlbbiflodemagaaDoor.Ev.lays171 : Go.Proofs.LaysM.n171 Tryd.prog YtlbbiflodemagaaDoor.Ev.lays171_ren := {
  mixed := by kernel_rfl
  f129 := Tryd.func54.trans (congrArg some (by kernel_rfl))
  f171 := Tryd.func17.trans (congrArg some (by kernel_rfl))
  f243 := Tryd.func28.trans (congrArg some (by kernel_rfl))
  f246 := Tryd.func35.trans (congrArg some (by kernel_rfl))
  f283 := Tryd.func43.trans (congrArg some (by kernel_rfl))
  f284 := Tryd.func44.trans (congrArg some (by kernel_rfl))
  f285 := Tryd.func45.trans (congrArg some (by kernel_rfl))
  f286 := Tryd.func46.trans (congrArg some (by kernel_rfl))
  f317 := Tryd.func53.trans (congrArg some (by kernel_rfl))
  f318 := Tryd.func55.trans (congrArg some (by kernel_rfl))
  f319 := Tryd.func56.trans (congrArg some (by kernel_rfl))
  f320 := Tryd.func57.trans (congrArg some (by kernel_rfl))
  f337 := Tryd.func64.trans (congrArg some (by kernel_rfl))
  f338 := Tryd.func65.trans (congrArg some (by kernel_rfl))
  t0 := Tryd.underlying0
  a0 := Tryd.isAgg0
  z0 := Tryd.sizeOf0
  v0 := Tryd.zeroValue0
  t2 := Tryd.underlying2
  a2 := Tryd.isAgg2
  z2 := Tryd.sizeOf2
  v2 := Tryd.zeroValue2
  t3 := Tryd.underlying3
  a3 := Tryd.isAgg3
  z3 := Tryd.sizeOf3
  v3 := Tryd.zeroValue3
  t4 := Tryd.underlying4
  a4 := Tryd.isAgg4
  z4 := Tryd.sizeOf4
  v4 := Tryd.zeroValue4
  t5 := Tryd.underlying5
  a5 := Tryd.isAgg5
  z5 := Tryd.sizeOf5
  v5 := Tryd.zeroValue5
  t9 := Tryd.underlying9
  a9 := Tryd.isAgg9
  z9 := Tryd.sizeOf9
  v9 := Tryd.zeroValue9
  t20 := Tryd.underlying20
  a20 := Tryd.isAgg20
  z20 := Tryd.sizeOf20
  v20 := Tryd.zeroValue20
  t37 := Tryd.underlying40
  a37 := Tryd.isAgg40
  z37 := Tryd.sizeOf40
  v37 := Tryd.zeroValue40
  t46 := Tryd.underlying81
  a46 := Tryd.isAgg81
  z46 := Tryd.sizeOf81
  v46 := Tryd.zeroValue81
  t51 := Tryd.underlying92
  a51 := Tryd.isAgg92
  z51 := Tryd.sizeOf92
  v51 := Tryd.zeroValue92
  t53 := Tryd.underlying95
  a53 := Tryd.isAgg95
  z53 := Tryd.sizeOf95
  v53 := Tryd.zeroValue95
  t171 := Tryd.underlying98
  a171 := Tryd.isAgg98
  z171 := Tryd.sizeOf98
  v171 := Tryd.zeroValue98
  t173 := Tryd.underlying101
  a173 := Tryd.isAgg101
  z173 := Tryd.sizeOf101
  v173 := Tryd.zeroValue101
  t212 := Tryd.underlying109
  a212 := Tryd.isAgg109
  z212 := Tryd.sizeOf109
  v212 := Tryd.zeroValue109
  t213 := Tryd.underlying110
  a213 := Tryd.isAgg110
  z213 := Tryd.sizeOf110
  t232 := Tryd.underlying127
  a232 := Tryd.isAgg127
  z232 := Tryd.sizeOf127
  v232 := Tryd.zeroValue127
  t233 := Tryd.underlying128
  a233 := Tryd.isAgg128
  z233 := Tryd.sizeOf128
  v233 := Tryd.zeroValue128
  g17 := by kernel_rfl
  g18 := by kernel_rfl
  g19 := by kernel_rfl
  i0 := by kernel_rfl
  i2 := by kernel_rfl
  i3 := by kernel_rfl
  i4 := by kernel_rfl
  i5 := by kernel_rfl
  i9 := by kernel_rfl
  i20 := by kernel_rfl
  i37 := by kernel_rfl
  i46 := by kernel_rfl
  i51 := by kernel_rfl
  i53 := by kernel_rfl
  i171 := by kernel_rfl
  i173 := by kernel_rfl
  i212 := by kernel_rfl
  i232 := by kernel_rfl
  i233 := by kernel_rfl
  m17 := by kernel_rfl
  m18 := by kernel_rfl
  m19 := by kernel_rfl }
end Go.Proofs
namespace Go.Proofs.YtlbbiflodemagaaDoor
open Go.RowKit
namespace Ev
set_option linter.unusedVariables false
def ZeO : Nat → Nat → List Int
 | 0, _ => []
 | f + 1, u => if u < 10 then [(48 + u : Nat)] else ZeO f (u / 10) ++ [((48 + u % 10 : Nat) : Int)]
def Zd (n : Int) : List Int := if n < 0 then 45 :: ZeO 20 n.natAbs else ZeO 20 n.toNat
def u8s (l : List Int) : List UInt8 := l.map fun n => UInt8.ofNat n.toNat
theorem Zmy (a b : List Int) : u8s (a ++ b) = u8s a ++ u8s b := List.map_append
theorem Zuw (ns : List Int) : ∀ acc : ByteArray, (ns.foldl (fun r n => r.push (UInt8.ofNat n.toNat)) acc).data = acc.data ++ (u8s ns).toArray := by
 induction ns with
 | nil => intro acc; simp [u8s]
 | cons n ns ih => intro acc; rw [List.foldl_cons, ih]; simp [ByteArray.push, u8s]
theorem Zcw (ns : List Int) : Zb ns = ⟨(u8s ns).toArray⟩ := by
 apply ByteArray.ext
 unfold Zb
 rw [Zuw]
 simp
theorem Zr2 : ∀ (f u : Nat), u < 10 ^ f → u8s (ZeO f u) = if f = 0 then [] else Lib.decDigits u
 | 0, u, h => rfl
 | f + 1, u, h => by
  rw [if_neg (by omega)]
  unfold ZeO
  rw [Lib.decDigits]
  by_cases hu : u < 10
  ·rw [if_pos hu, dif_pos hu]; rfl
  ·rw [if_neg hu, dif_neg hu, Zmy]
   cases f with
   | zero => simp at h; omega
   | succ f =>
    rw [Zr2 (f + 1) (u / 10) (by rw [Nat.pow_succ] at h; omega), if_neg (by omega)]
    rfl
theorem ZoW {n : Int} (h0 : -9223372036854775808 ≤ n) (h1 : n ≤ 9223372036854775807) : Zb (Zd n) = ⟨(Lib.itoa n).toArray⟩ := by
 rw [Zcw]
 congr 2
 unfold Zd Lib.itoa
 by_cases hn : n < 0
 ·rw [if_pos hn, if_pos hn]
  show (45 : UInt8) :: u8s (ZeO 20 n.natAbs) = _
  rw [Zr2 20 _ (by omega), if_neg (by decide)]
 ·rw [if_neg hn, if_neg hn, Zr2 20 _ (by omega), if_neg (by decide)]
def Zog : List Value → Option (List ByteArray)
 | [] => some []
 | .string x :: l => match Zog l with | some r => some (x :: r) | none => none
 | _ => none
theorem Zqb : ∀ {l : List Value} {r : List ByteArray}, Zog l = some r → l = r.map Value.string
 | [], r, h => by injection h with h; subst h; rfl
 | v :: l, r, h => by
  unfold Zog at h
  split at h
  ·rename_i e; cases e
  ·rename_i x l' e
   injection e with e1 e2
   subst e1 e2
   split at h
   ·rename_i r' hr
    injection h with h
    subst h
    rw [Zqb hr]; rfl
   ·cases h
  ·cases h
def Zmz (sep : ByteArray) : List ByteArray → ByteArray
 | [] => ByteArray.empty
 | x :: l => l.foldl (fun a y => a ++ sep ++ y) x
def ZoX (x : ByteArray) : Nat → ByteArray
 | 0 => ByteArray.empty
 | n + 1 => x ++ ZoX x n
theorem Zt2 (x : ByteArray) : x = ⟨x.data.toList.toArray⟩ := by cases x; simp
theorem Zqc (sep : ByteArray) : ∀ (l : List ByteArray) (a : ByteArray), (l.foldl (fun a y => a ++ sep ++ y) a).data.toList = a.data.toList ++ Lib.joinTail sep.data.toList (l.map (·.data.toList))
 | [], a => by simp [Lib.joinTail]
 | y :: l, a => by
  rw [List.foldl_cons, Zqc sep l]
  simp [Lib.joinTail, ByteArray.data_append]
theorem Zr3 (sep : ByteArray) (xs : List ByteArray) : Zmz sep xs = ⟨(Lib.join (xs.map (·.data.toList)) sep.data.toList).toArray⟩ := by
 cases xs with
 | nil => rfl
 | cons x l =>
  rw [Zt2 (Zmz sep (x :: l))]
  unfold Zmz
  rw [Zqc, List.map_cons, Lib.join_cons]
theorem Zux (sep : ByteArray) (xs : List ByteArray) : (Zmz sep xs).size = (Lib.join (xs.map (·.data.toList)) sep.data.toList).length := by
 rw [Zr3]; simp [ByteArray.size]
noncomputable section
def ZqH (args : Array Value) (s : St) : Out :=
 match args.toList with
 | [.int .i64 n] => match s.tst (decide (-9223372036854775808 ≤ n) && decide (n ≤ 9223372036854775807)) with
  | (true, s1) => some (.string (Zb (Zd n)), s1)
  | (false, _) => none
 | _ => none
def ZqI (args : Array Value) (s : St) : Out :=
 match args.toList with
 | [.slice (some ⟨k, o, none⟩) n c, .string sep] => match rowAt s k o n with
  | some l => match Zog l with
   | some xs => bif Nat.ble n c && Nat.ble n 100000 then match s.tst (Nat.ble (Zmz sep xs).size 140737488355328) with
    | (true, s1) => some (.string (Zmz sep xs), s1)
    | (false, _) => none
    else none
   | none => none
  | none => none
 | _ => none
def Zm0 (args : Array Value) (s : St) : Out :=
 match args.toList with
 | [.string x, .int .i64 (.ofNat n)] => bif Nat.ble n 100000 then match s.tst (Nat.ble (x.size * n) 140737488355328) with
  | (true, s1) => some (.string (ZoX x n), s1)
  | (false, _) => none
  else none
 | _ => none
end
section
variable {P : Program}
theorem Zko {f : FuncId} {fn : Func} {c : Code} {g : Array Value → St → Out} (hf : P.funcs[f]? = some fn) (hb : fn.body = some c) (up : ∀ args s v s', g args s = some (v, s') → Up s s')
  (h : ∀ args s v s', g args s = some (v, s') → (∀ p ∈ s'.ob, p.1 = p.2) → s'.h = s.h ∧ s'.n = s.n ∧ Zbl v = true ∧ ∀ ι w args', VRs ι args args' → Emb P ι s.h.get w → Calls P f args' w fun e w' => e = .returned v ∧ Below w.heap.size w w') : Zfj P f g := by
 refine ⟨up, fun args s v s' hg ho ι w args' ha he hF => .inl ⟨⟨fn, c, hf, hb⟩, ?_⟩⟩
 obtain ⟨q1, q2, q3, q4⟩ := h args s v s' hg ho
 refine (q4 ι w args' ha he).mono ?_
 rintro e w' ⟨rfl, hB⟩
 refine ⟨v, ι, rfl, ?_, ?_, VR.of_free q3⟩
 ·rw [q1]; exact Step.below he hB
 ·rw [q2]; exact Dom.refl
theorem Znz {s s1 : St} {t : Bool} (h : s.tst t = (true, s1)) (ho : ∀ p ∈ s1.ob, p.1 = p.2) : t = true ∧ s1.h = s.h ∧ s1.n = s.n := by
 unfold St.tst at h
 split at h
 ·injection h with h1 h2; subst h2; exact ⟨h1, rfl, rfl⟩
 ·injection h with h1 h2; subst h2; exact ⟨h1, rfl, rfl⟩
 ·injection h with h1 h2; subst h1 h2
  exact ⟨ho (t, true) (List.mem_cons_self ..), rfl, rfl⟩
end
theorem ZkQ {w w' : World} (h : ∃ k os, w' = Go.Sort.grow (w.drewN k) os) : Below w.heap.size w w' := by
 obtain ⟨k, os, rfl⟩ := h
 refine ⟨rfl, rfl, rfl, by show w.heap.size ≤ (w.heap ++ os).size; rw [Array.size_append]; omega, fun j hj => ?_⟩
 show (w.heap ++ os)[j]? = w.heap[j]?
 exact Array.getElem?_append_left hj
theorem tabItoa {w : World} (h : TabW w) : Lib.TabIs Tryd.prog w "internal/strconv.uint64pow10" .u64 Lib.pow10Tab := by
  obtain ⟨C, t, fr, hw, hC⟩ := h _ (List.mem_cons_self ..)
  obtain rfl : C = _ := hC
  unfold Lib.TabIs World.var?
  rw [show Tryd.prog.globalNamed "internal/strconv.uint64pow10" = some 0 from by kernel_rfl]
  simp only [Option.bind_some]
  rw [hw]
  rfl
theorem itoa_does : Zfj Tryd.prog 17 ZqH := by
  refine Zko Tryd.func17 rfl (fun args s v s' h => ?_) fun args s v s' h ho => ?_
  · unfold ZqH at h
    split at h
    · split at h
      · rename_i s1 hs; injection h with h; injection h with h1 h2; subst h2; exact ZeD hs
      · cases h
    · cases h
  · unfold ZqH at h
    split at h
    · rename_i n hl
      split at h
      · rename_i s1 hs
        injection h with h; injection h with h1 h2; subst h1 h2
        obtain ⟨t1, t2, t3⟩ := Znz hs ho
        simp only [Bool.and_eq_true, decide_eq_true_eq] at t1
        refine ⟨t2, t3, rfl, fun ι w args' ha he => ?_⟩
        have hA : args = #[.int .i64 n] := by rw [← Array.toArray_toList (xs := args), hl]
        subst hA
        obtain rfl : args' = #[.int .i64 n] := Ze3 ha.1 fun i x y hx1 hy1 => (ha.2 i x y hx1 hy1).eq_of_free (Zay (p := Zbl) (a := #[.int .i64 n]) rfl i x hx1)
        refine (Any.strconv_Itoa lays171 n t1.1 t1.2 w (tabItoa he.tabw)).mono ?_
        rintro e w' ⟨rfl, hw⟩
        exact ⟨by rw [ZoW t1.1 t1.2], ZkQ hw⟩
      · cases h
    · cases h
theorem Zv5 {ι : Ren} {a b : Value} {args' : Array Value} (h : VRs ι #[a, b] args') : ∃ x' y', args' = #[x', y'] ∧ VR ι a x' ∧ VR ι b y' := by
 obtain ⟨l⟩ := args'
 match l, h with
 | [x, y], h => exact ⟨x, y, rfl, h.2 0 a x rfl rfl, h.2 1 b y rfl rfl⟩
 | [], h => exact absurd h.1 (by simp)
 | [_], h => exact absurd h.1 (by simp)
 | _ :: _ :: _ :: _, h => exact absurd h.1 (by simp)
theorem ZxB (x : ByteArray) (n : Nat) : ZoX x n = ⟨(Lib.repeatL x.data.toList n).toArray⟩ := by
 have : ∀ n : Nat, (ZoX x n).data.toList = Lib.repeatL x.data.toList n := fun n => by
  induction n with
  | zero => rfl
  | succ n ih => unfold ZoX; rw [ByteArray.data_append, Array.toList_append, ih]; rfl
 rw [Zt2 (ZoX x n), this]
theorem extra156 : Builder.Extra Tryd.prog lays156_ren := { sizeBuilder := by kernel_rfl, liesBuilder := by kernel_rfl, t5 := Tryd.underlying5, a5 := Tryd.isAgg5, z5 := Tryd.sizeOf5, v5 := Tryd.zeroValue5, infoByte := by kernel_rfl, cellsByte := by kernel_rfl, sizeByte := by kernel_rfl, neB5 := by decide }
theorem join_does : Zfj Tryd.prog 19 ZqI := by
  refine Zko Tryd.func19 rfl (fun args s v s' h => ?_) fun args s v s' h ho => ?_
  · unfold ZqI at h
    split at h
    · split at h
      · split at h
        · replace h := (Zo h).2
          split at h
          · rename_i s1 hs; injection h with h; injection h with h1 h2; subst h2; exact ZeD hs
          · cases h
        · cases h
      · cases h
    · cases h
  · unfold ZqI at h
    split at h
    · rename_i k o n c sep hl
      split at h
      · rename_i l hr
        split at h
        · rename_i xs hx
          obtain ⟨hnc, h⟩ := Zo h
          simp only [Bool.and_eq_true] at hnc
          split at h
          · rename_i s1 hs
            injection h with h; injection h with h1 h2; subst h1 h2
            obtain ⟨t1, t2, t3⟩ := Znz hs ho
            refine ⟨t2, t3, rfl, fun ι w args' ha he => ?_⟩
            have hA : args = #[.slice (some ⟨k, o, none⟩) n c, .string sep] := by rw [← Array.toArray_toList (xs := args), hl]
            subst hA
            obtain ⟨b, cs, hb, hcl, hll, hcs, hvv⟩ := ZiU he hr
            have hxl := Zqb hx
            subst hxl
            have hcell : ∀ (j : Nat) x, xs[j]? = some x → w.cell? ⟨b.1, o + j, none⟩ = some (.string x) := fun j x hj => by
              have hjl : j < xs.length := (List.getElem?_eq_some_iff.1 hj).1
              have hjc : j < cs.length := by rw [hcl, ← hll, List.length_map]; exact hjl
              have h1 := hcs j cs[j] (List.getElem?_eq_getElem hjc)
              have h2 := (hvv j (.string x) cs[j] (by rw [List.getElem?_map, hj]; rfl) (List.getElem?_eq_getElem hjc)).eq_of_atom rfl
              rw [h2, Addr.add_lit] at h1
              exact h1
            have hln : xs.length = n := by simpa using hll
            obtain ⟨x', y', rfl, hv1, hv2⟩ := Zv5 ha
            obtain rfl := hv2.eq_of_atom rfl
            have hsz : (Lib.join (xs.map (·.data.toList)) sep.data.toList).length ≤ 140737488355328 := by rw [← Zux]; exact Nat.le_of_ble_eq_true t1
            have hle : n ≤ c := Nat.le_of_ble_eq_true hnc.1
            have hN : n ≤ 100000 := Nat.le_of_ble_eq_true hnc.2
            cases hv1 with
            | atom h => exact (Bool.false_ne_true h).elim
            | slice hb2 hn hc hq =>
              rename_i b2 c'
              rw [hb] at hb2; injection hb2 with hb2; subst hb2
              subst hln
              refine (Any.strings_Join lays156 extra156 b.1 o c' xs sep w hcell (he.lt _ _ hb) (by omega) (by omega) hsz).mono ?_
              rintro e w' ⟨rfl, hB⟩
              exact ⟨by rw [Zr3], hB⟩
            | slice0 _h0 =>
              rename_i a'
              have : xs = [] := List.eq_nil_of_length_eq_zero hln
              subst this
              refine (Any.strings_Join_none lays156 extra156 a' 0 sep w).mono ?_
              rintro e w' ⟨rfl, rfl⟩
              exact ⟨rfl, Below.refl _ _⟩
          · cases h
        · cases h
      · cases h
    · cases h
theorem extra105 : Builder.Extra Tryd.prog lays105_ren := { sizeBuilder := by kernel_rfl, liesBuilder := by kernel_rfl, t5 := Tryd.underlying5, a5 := Tryd.isAgg5, z5 := Tryd.sizeOf5, v5 := Tryd.zeroValue5, infoByte := by kernel_rfl, cellsByte := by kernel_rfl, sizeByte := by kernel_rfl, neB5 := by decide }
theorem repeat_does : Zfj Tryd.prog 26 Zm0 := by
  refine Zko Tryd.func26 rfl (fun args s v s' h => ?_) fun args s v s' h ho => ?_
  · unfold Zm0 at h
    split at h
    · replace h := (Zo h).2
      split at h
      · rename_i s1 hs; injection h with h; injection h with h1 h2; subst h2; exact ZeD hs
      · cases h
    · cases h
  · unfold Zm0 at h
    split at h
    · rename_i x n hl
      obtain ⟨hn, h⟩ := Zo h
      split at h
      · rename_i s1 hs
        injection h with h; injection h with h1 h2; subst h1 h2
        obtain ⟨t1, t2, t3⟩ := Znz hs ho
        refine ⟨t2, t3, rfl, fun ι w args' ha he => ?_⟩
        have hA : args = #[.string x, .int .i64 (.ofNat n)] := by rw [← Array.toArray_toList (xs := args), hl]
        subst hA
        obtain rfl : args' = #[.string x, .int .i64 (.ofNat n)] := Ze3 ha.1 fun i y z hx1 hy1 => (ha.2 i y z hx1 hy1).eq_of_free (Zay (p := Zbl) (a := #[.string x, .int .i64 (.ofNat n)]) rfl i y hx1)
        have hn2 := Nat.le_of_ble_eq_true hn
        refine (Any.strings_Repeat lays105 extra105 x n w (by omega) (Nat.le_of_ble_eq_true t1)).mono ?_
        rintro e w' ⟨rfl, hB⟩
        exact ⟨by rw [ZxB], hB⟩
      · cases h
    · cases h
end Ev
end Go.Proofs.YtlbbiflodemagaaDoor
/- A strings.Builder's text. -/
namespace Go.Proofs.YtlbbiflodemagaaDoor
open Go.RowKit Go.Shelf
namespace Ev
set_option linter.unusedVariables false
section
variable {P : Program}
theorem Zkp (w : World) : ∀ (l : List Int) (a : Addr) (acc : ByteArray), (∀ j x, l[j]? = some x → w.cell? (a.add j) = some (.int .u8 x)) → (loadBytes a acc l.length).run P w = .ok (l.foldl (fun r n => r.push (UInt8.ofNat n.toNat)) acc) w
 | [], a, acc, _ => rfl
 | x :: l, a, acc, h => by
  have h0 : w.cell? a = some (.int .u8 x) := by
   have := h 0 x rfl
   simpa [Addr.add] using this
  have ih := Zkp w l (a.add 1) (acc.push (UInt8.ofNat x.toNat)) (fun j y hy => by
   have := h (j + 1) y (by simpa using hy)
   have e : (a.add 1).add j = a.add (j + 1) := by
    unfold Addr.add
    by_cases hj : j = 0
    ·subst hj; simp
    ·simp [hj]; omega
   rw [e]; exact this)
  simp only [List.length_cons, loadBytes, Sem.run_bind, run_load, h0, Result.andThen]
  exact ih
theorem Zm9 (w : World) (pt it ty e : TypeId) (hp : P.underlying pt = some (.pointer e)) (hc : P.cellsOf e = 1) (g cells : Nat) (hsh : w.shape? g = some (e, cells)) (l : List Int) (h0 : l ≠ []) (hn : l.length ≤ cells) (h63 : l.length ≤ 9223372036854775807)
  (hcell : ∀ j x, l[j]? = some x → w.cell? ((⟨g, 0, none⟩ : Addr).add j) = some (.int .u8 x)) :
  (Builtin.unsafeString_ #[pt, it] ty #[.pointer (some ⟨g, 0, none⟩), .int .i64 l.length]).run P w = .ok (.string (Zb l)) (w.freeze ⟨g, 0, none⟩ l.length) := by
 have hl : l.length ≠ 0 := by simpa using h0
 have hlb := Zkp (P := P) w l ⟨g, 0, none⟩ .empty hcell
 have hlies := Lib.liesAt_bytes (P := P) hc (cells / P.cellsOf e) l.length (by rw [hc]; simpa using hn)
 have h63' : ¬ (9223372036854775807 : Int) < (l.length : Int) := by omega
 have hneg : ¬ (l.length : Int) < 0 := by omega
 have hmax : IntKind.i64.max = 9223372036854775807 := rfl
 rw [show Builtin.unsafeString_ #[pt, it] ty #[.pointer (some ⟨g, 0, none⟩), .int .i64 l.length] = asInt (.int .i64 l.length) >>= _ from rfl]
 simp [asInt, asIntOf, hmax, h63', hneg, hl, variablesAt, hsh, elemOf, run_underlying hp, hlies, hlb, Zb]
end
set_option maxHeartbeats 1000000 in
set_option maxRecDepth 100000 in
theorem Zw4 {tb : TypeId} {b g n cap : Nat} {cur : Array Value} {l : List Int} {w : World} {C : Array Value} {fr fr2 : Nat × Nat} (hb : w.heap[b]? = some (.cells C tb fr)) (hC : C[1]? = some (.slice (some ⟨g, 0, none⟩) n cap)) (hg : w.heap[g]? = some (.cells cur 5 fr2)) (hn : l.length = n) (h0 : l ≠ []) (hc : cap ≠ 0) (h63 : l.length ≤ 9223372036854775807) (hl : ∀ (j : Nat) (x : Int), l[j]? = some x → cur[j]? = some (Value.int .u8 x)) :
  Calls Tryd.prog 23 #[.pointer (some ⟨b, 0, none⟩)] w fun e w' => e = .returned (.string (Zb l)) ∧ w' = w.drew.freeze ⟨g, 0, none⟩ l.length := by
 subst hn
 have hsz : l.length ≤ cur.size := by
  rcases Nat.lt_or_ge cur.size l.length with h | h
  ·have := hl cur.size l[cur.size] (List.getElem?_eq_getElem h)
   simp at this
  ·exact h
 have c1 : w.drew.cell? ⟨b, 1, none⟩ = some (.slice (some ⟨g, 0, none⟩) l.length cap) := by
  have : w.drew.heap[b]? = some (.cells C tb fr) := hb
  rw [Lib.cell_of_heap this]; exact hC
 have hSD : (Builtin.unsafeSliceData_ #[40] 79 #[.slice (some ⟨g, 0, none⟩) l.length cap]).run Tryd.prog w.drew = .ok (.pointer (some ⟨g, 0, none⟩)) w.drew :=
  Lib.run_unsafeSliceData_row _ _ _ _ _ _ hc
 have hUS : (Builtin.unsafeString_ #[79, 3] 9 #[.pointer (some ⟨g, 0, none⟩), .int .i64 l.length]).run Tryd.prog w.drew = .ok (.string (Zb l)) (w.drew.freeze ⟨g, 0, none⟩ l.length) := by
  refine Zm9 w.drew 79 3 9 5 Tryd.underlying79 (by kernel_rfl) g cur.size (by have hg' : w.drew.heap[g]? = some (.cells cur 5 fr2) := hg; simp [World.shape?, hg']) l h0 hsz h63 ?_
  intro j x hx
  have h1 := hl j x hx
  have h2 : w.drew.heap[g]? = some (.cells cur 5 fr2) := hg
  rw [Addr.add_lit, Lib.cell_of_heap h2, Nat.zero_add]; exact h1
 have mixed : Tryd.prog.follows .mixedOrders = true := by kernel_rfl
 go_enter Tryd.func23, Tryd.ntmps23
 go_wp2
 go_region_o
 all_goals (go_wp2; go_ret; exact ⟨rfl, rfl⟩)
theorem Zw5 {tb : TypeId} {b : Nat} {C : Array Value} {fr : Nat × Nat} {w : World} (hb : w.heap[b]? = some (.cells C tb fr)) (hC : C[1]? = some (.slice none 0 0)) :
  Calls Tryd.prog 23 #[.pointer (some ⟨b, 0, none⟩)] w fun e w' => e = .returned (.string ByteArray.empty) ∧ w' = w.drew := by
 have c1 : w.drew.cell? ⟨b, 1, none⟩ = some (.slice none 0 0) := by
  have : w.drew.heap[b]? = some (.cells C tb fr) := hb
  rw [Lib.cell_of_heap this]; exact hC
 have hSD : (Builtin.unsafeSliceData_ #[40] 79 #[.slice none 0 0]).run Tryd.prog w.drew = .ok (.pointer none) w.drew := rfl
 have hUS : (Builtin.unsafeString_ #[79, 3] 9 #[.pointer none, .int .i64 0]).run Tryd.prog w.drew = .ok (.string .empty) w.drew := Lib.run_unsafeString_none w.drew _ _ _ none
 have mixed : Tryd.prog.follows .mixedOrders = true := by kernel_rfl
 go_enter Tryd.func23, Tryd.ntmps23
 go_wp2
 go_region_o
 all_goals (go_wp2; go_ret; exact ⟨rfl, rfl⟩)
theorem Step.gone {P : Program} {ι : Ren} {h : AH} {w w' : World} (e : Emb P ι h w) {k0 : Nat} {b : Nat × Nat} (hl : isC (h k0) = true) (hb : ι k0 = some b) (hO : ∀ i, i ≠ b.1 → w'.heap[i]? = w.heap[i]?) (hs : w'.heap.size = w.heap.size) (ho : w'.os = w.os) (ht : w'.tape = w.tape) (hp : w'.output = w.output) :
  Step P ι h w ι (upd h k0 none) w' := by
 have ne : ∀ k o, upd h k0 none k = some o → k ≠ k0 ∧ h k = some o := fun k o hk => by
  have h1 := (Zlz (h := h) (k0 := k0) (k := k) (by rw [hk]; rfl)).1
  rw [Zk h1] at hk
  exact ⟨h1, hk⟩
 have far_ : ∀ k c, sol (h k) → k ≠ k0 → ι k = some c → c.1 ≠ b.1 := fun k c h1 h2 h3 h4 => h2 (e.inj k0 k b c hl h1 hb h3 h4.symm).symm
 refine ⟨fun _ _ h => h, ⟨fun k c t q hk => ?_, fun k O hk => ?_, fun k k' b1 b2 h1 h2 => e.inj k k' b1 b2 (Zex h1).2 (Zhp h2).2, fun k b hk => by rw [hs]; exact e.lt k b hk, e.marks (fun _ _ h => h) (fun i _ hno => hO i fun e1 => hno k0 b hl hb e1.symm) (fun _ _ _ _ h => h) (fun k d hk hd => .inr ⟨k, d, (Zex hk).2, hd, rfl⟩), e.tb⟩,
  ho, ht, hp, by rw [hs]; exact Nat.le_refl _, fun i _ hno => hO i fun e1 => hno k0 b hl hb e1.symm, fun k b h1 h2 => (by rw [h1] at h2; cases h2), fun k h1 _ => (Zhp h1).2, fun k h1 _ => (Zex h1).2⟩
 ·obtain ⟨h1, h2⟩ := ne k _ hk
  obtain ⟨b1, q1, hz | ⟨q0, C1, q2, q3, q4⟩⟩ := e.obj k c t q h2
  ·exact ⟨b1, q1, .inl hz⟩
  ·exact ⟨b1, q1, .inr ⟨q0, C1, q2.on (hO _ (far_ k b1 (by rw [h2]; exact ZeI q0) h1 q1)), q3, q4⟩⟩
 ·obtain ⟨h1, h2⟩ := ne k _ hk
  obtain ⟨b1, q1, q2⟩ := e.ro k O h2
  exact ⟨b1, q1, q2.on (hO _ (far_ k b1 (by rw [h2]; rfl) h1 q1))⟩
noncomputable section
def St.kill (s : St) (k : Nat) : St := ⟨s.h.set k none, s.n, k :: s.wr, s.orc, s.ob⟩
def ZqJ (args : Array Value) (s : St) : Out :=
 match args.toList with
 | [.pointer (some ⟨k, 0, none⟩)] => match s.h.get k with
  | some (.cells (_ :: q :: _) _) => match q with
   | .slice none 0 0 => some (.string ByteArray.empty, s)
   | .slice (some ⟨j, 0, none⟩) n c => match s.h.get j with
    | some (.cells cs t') => bif Nat.beq t' 5 && !Nat.beq j k then match s.nextW with
     | (some (.bs ns), s1) => some (.string (Zb ns), (s1.kill j).told (dP (Z8 n cs = some (ns.map (Value.int .u8)) ∧ 0 < n ∧ n ≤ c ∧ n ≤ 1000000000)))
     | (some _, _) => none
     | (none, s1) => match Z8 n cs with
      | some l => match Zi9 l with
       | some ns => bif Nat.blt 0 n && Nat.ble n c && Nat.ble n 1000000000 then some (.string (Zb ns), s1.kill j) else none
       | none => none
      | none => none
     else none
    | _ => none
   | _ => none
  | _ => none
 | _ => none
end
theorem Zt3 {s : St} {k : Nat} : Up s (s.kill k) := ⟨Nat.le_refl _, List.suffix_refl _, [k], rfl, fun j hj _ => by
 show (s.h.set k none).get j = _
 rw [Tr.get_set, Zk (by simpa using hj)]⟩
theorem Zt4 {tb : TypeId} {ι : Ren} {s : St} {w : World} {k j n c : Nat} {x : Value} {r cs : List Value} {ns : List Int} {s' : St} (he : Emb Tryd.prog ι s.h.get w) (hk : s.h.get k = some (.cells (x :: .slice (some ⟨j, 0, none⟩) n c :: r) tb)) (hj : s.h.get j = some (.cells cs 5)) (ht : Z8 n cs = some (ns.map (Value.int .u8))) (h0 : 0 < n) (hc : n ≤ c) (hn : n ≤ 1000000000) {args' : Array Value} (ha : VRs ι #[.pointer (some ⟨k, 0, none⟩)] args') (e1 : s'.h = s.h.set j none) (e2 : s'.n = s.n) :
  Calls Tryd.prog 23 args' w (Zms Tryd.prog ι s w (.string (Zb ns)) s') := by
 obtain ⟨b, C, q1, q2, q3, _⟩ := he.objF k _ _ hk
 obtain ⟨g, D, r1, r2, r3, _⟩ := he.objF j _ _ hj
 obtain ⟨fr1, q2, _⟩ := q2
 obtain ⟨fr2, r2, _⟩ := r2
 obtain ⟨t1, t2⟩ := Zdm ht
 have hC1 : ∃ y, C[1]? = some y ∧ VR ι (.slice (some ⟨j, 0, none⟩) n c) y := by
  have hl := q3.1
  simp only [List.length_cons] at hl
  exact ⟨C[1]'(by omega), Array.getElem?_eq_getElem (by omega), q3.2 1 _ _ rfl (Array.getElem?_eq_getElem (by omega))⟩
 obtain ⟨y, hy, hv⟩ := hC1
 have hne : ns.length = n := by
  have := congrArg List.length t1
  simp at this; omega
 have hcell : ∀ (i : Nat) (z : Int), ns[i]? = some z → D[i]? = some (Value.int .u8 z) := fun i z hz => by
  have hi : i < n := by have := (List.getElem?_eq_some_iff.1 hz).1; omega
  have h1 : cs[i]? = some (.int .u8 z) := by
   have h2 : (cs.take n)[i]? = some (.int .u8 z) := by rw [← t1, List.getElem?_map, hz]; rfl
   rwa [List.getElem?_take_of_lt hi] at h2
  have hil := (List.getElem?_eq_some_iff.1 h1).1
  have hD : D[i]? = some (D[i]'(by have := r3.1; omega)) := Array.getElem?_eq_getElem _
  rw [hD, (r3.2 i _ _ h1 hD).int_inv]
 have hA : args' = #[.pointer (some ⟨b.1, 0, none⟩)] := by
  obtain ⟨l⟩ := args'
  match l, ha with
  | [z], ha =>
   have := ha.2 0 _ z rfl rfl
   cases this with
   | atom h => exact (Bool.false_ne_true h).elim
   | ptr h => rw [q1] at h; injection h with h; subst h; rfl
  | [], ha => exact absurd ha.1 (by simp)
  | _ :: _ :: _, ha => exact absurd ha.1 (by simp)
 subst hA
 cases hv with
 | atom h => exact (Bool.false_ne_true h).elim
 | slice0 _ => omega
 | slice hb2 hn2 hc2 hq =>
  rename_i b2 c'
  rw [r1] at hb2; injection hb2 with hb2; subst hb2
  refine (Zw4 (l := ns) q2 hy r2 hne (fun e => by subst e; simp at hne; omega) (by omega) (by omega) hcell).mono ?_
  rintro e w' ⟨rfl, rfl⟩
  refine ⟨_, ι, rfl, ?_, by rw [e2]; exact Dom.refl, .atom rfl⟩
  rw [e1, Tr.get_set]
  have hns : ns.length ≠ 0 := by omega
  refine Step.gone he (by rw [hj]; rfl) r1 (fun i hi => ?_) ?_ ?_ ?_ ?_
  ·unfold World.freeze
   rw [if_neg hns]
   show (w.heap.modify g.1 _)[i]? = _
   rw [Array.getElem?_modify, if_neg (fun e => hi e.symm)]
  ·unfold World.freeze
   rw [if_neg hns]
   show (w.heap.modify g.1 _).size = _
   rw [Array.size_modify]
  all_goals (unfold World.freeze; rw [if_neg hns]; rfl)
theorem Zv6 : Zfj Tryd.prog 23 ZqJ := by
 refine ⟨fun args s v s' h => ?_, fun args s v s' h ho ι w args' ha he hF => .inl ⟨⟨_, _, Tryd.func23, rfl⟩, ?_⟩⟩
 ·unfold ZqJ at h
  split at h
  ·split at h
   ·split at h
    ·injection h with h; injection h with h1 h2; subst h2; exact Up.refl _
    ·split at h
     ·replace h := (Zo h).2
      split at h
      ·rename_i hw; injection h with h; injection h with h1 h2; subst h2; exact ((ZN hw).trans Zt3).trans (Zab _)
      ·cases h
      ·rename_i hw
       split at h
       ·split at h
        ·replace h := (Zo h).2
         injection h with h; injection h with h1 h2; subst h2; exact (ZN hw).trans Zt3
        ·cases h
       ·cases h
     ·cases h
    ·cases h
   ·cases h
  ·cases h
 ·unfold ZqJ at h
  split at h
  ·rename_i k hl
   have hA : args = #[.pointer (some ⟨k, 0, none⟩)] := by rw [← Array.toArray_toList (xs := args), hl]
   subst hA
   split at h
   ·rename_i x q r t hk
    split at h
    ·injection h with h; injection h with h1 h2; subst h1 h2
     obtain ⟨b, C, q1, q2, q3, _⟩ := he.objF k _ _ hk
     obtain ⟨fr1, q2, _⟩ := q2
     have hC1 : C[1]? = some (.slice none 0 0) := by
      have hl := q3.1
      simp only [List.length_cons] at hl
      have h2 : C[1]? = some (C[1]'(by omega)) := Array.getElem?_eq_getElem (by omega)
      rw [h2, (q3.2 1 _ _ rfl h2).eq_of_atom rfl]
     have hA : args' = #[.pointer (some ⟨b.1, 0, none⟩)] := by
      obtain ⟨l⟩ := args'
      match l, ha with
      | [z], ha =>
       have := ha.2 0 _ z rfl rfl
       cases this with
       | atom h => exact (Bool.false_ne_true h).elim
       | ptr h => rw [q1] at h; injection h with h; subst h; rfl
      | [], ha => exact absurd ha.1 (by simp)
      | _ :: _ :: _, ha => exact absurd ha.1 (by simp)
     subst hA
     refine (Zw5 q2 hC1).mono ?_
     rintro e w' ⟨rfl, rfl⟩
     exact ⟨_, ι, rfl, Step.still he rfl rfl rfl rfl, Dom.refl, .atom rfl⟩
    ·rename_i j n c
     split at h
     ·rename_i cs t' hj
      replace h := Zo h; obtain ⟨hb2, h⟩ := h
      simp only [Bool.and_eq_true] at hb2
      obtain rfl := Nat.eq_of_beq_eq_true hb2.1
      split at h
      ·rename_i ns s1 hw
       injection h with h; injection h with h1 h2; subst h1 h2
       obtain ⟨w1, w2, _⟩ := ZR hw
       have hq := ZU.1 (ho _ (List.mem_cons_self ..))
       exact Zt4 he hk hj hq.1 hq.2.1 hq.2.2.1 hq.2.2.2 ha (by show s1.h.set j none = _; rw [w1]) (by show s1.n = _; rw [w2])
      ·cases h
      ·rename_i s1 hw
       obtain ⟨w1, w2, _⟩ := ZR hw
       split at h
       ·rename_i l htk
        split at h
        ·rename_i ns hns
         replace h := Zo h; obtain ⟨hg, h⟩ := h
         simp only [Bool.and_eq_true] at hg
         injection h with h; injection h with h1 h2; subst h1 h2
         have hbs := ZiW hns
         exact Zt4 he hk hj (by rw [htk, hbs]) (Nat.le_of_ble_eq_true hg.1.1) (Nat.le_of_ble_eq_true hg.1.2) (Nat.le_of_ble_eq_true hg.2) ha (by show s1.h.set j none = _; rw [w1]) (by show s1.n = _; rw [w2])
        ·cases h
       ·cases h
     ·cases h
    ·cases h
   ·cases h
  ·cases h
end Ev
end Go.Proofs.YtlbbiflodemagaaDoor
/- Strings cut at a byte: lists of their bytes, and what the library's functions do of them. -/
namespace Go.Proofs
open Go.Shelf Go.RowKit Go.Lib
section
variable {P : Program} {ρ : Ren}
set_option maxHeartbeats 2000000 in
set_option maxRecDepth 100000 in
theorem ZxC (L : Lays.n220 P ρ) (s : ByteArray) (c : UInt8) (w : World) (hs : s.size < 4294967281) :
  Calls P (ρ.f 220) #[.string s, .string ⟨#[c]⟩] w fun e w' => e = .returned (.tuple #[.string ⟨(Lib.cut s.data.toList [c]).1.toArray⟩, .string ⟨(Lib.cut s.data.toList [c]).2.1.toArray⟩, .bool (Lib.cut s.data.toList [c]).2.2]) ∧ ∃ n, w' = w.drewN n := by
 have hone : Lib.indexB s ⟨#[c]⟩ = Lib.indexByte s.data.toList c := Lib.index_one _ _
 rcases Lib.indexB_cases s ⟨#[c]⟩ with hix | ⟨i, hix, hroom⟩
 ·obtain ⟨e1, e2, e3⟩ := Lib.cutB_miss s ⟨#[c]⟩ hix
  rw [show (⟨#[c]⟩ : ByteArray).data.toList = [c] from rfl] at e1 e2 e3
  rw [e1, e2, e3]
  have hix' : Lib.indexByte s.data.toList c = -1 := hone ▸ hix
  have t3 := L.t3; have t4 := L.t4; have t9 := L.t9
  have a3 : ∀ w, (isAgg (ρ.t 3)).run P w = .ok false w := run_isAgg_plain L.t3 rfl; have a4 : ∀ w, (isAgg (ρ.t 4)).run P w = .ok false w := run_isAgg_plain L.t4 rfl; have a9 : ∀ w, (isAgg (ρ.t 9)).run P w = .ok false w := run_isAgg_plain L.t9 rfl
  have e219 : ∀ args w, (callFunc (ρ.f 219) args).run P w = .ok (.enter (ρ.f 219) args) w := enters_of L.f219 (by kernel_rfl) rfl
  have mixed := L.mixed; have z3 := L.z3; have v3 := L.v3; have z4 := L.z4; have v4 := L.v4; have z9 := L.z9; have v9 := L.v9
  go_enter L.f220, Body.n220_ntmps ρ
  go_wp2_with (go_at_fn (ρ.f 219); refine (Any.stringslite_Index_one { L with } _ _ _).mono ?_; rintro e w' ⟨rfl, rfl⟩; rw [hix'])
  go_ret3
  exact ⟨rfl, 0, rfl⟩
 ·obtain ⟨e1, e2, e3⟩ := Lib.cutB_hit s ⟨#[c]⟩ i hix
  rw [show (⟨#[c]⟩ : ByteArray).data.toList = [c] from rfl] at e1 e2 e3
  rw [e1, e2, e3]
  have hix' : Lib.indexByte s.data.toList c = i := hone ▸ hix
  have hz : (⟨#[c]⟩ : ByteArray).size = 1 := rfl
  rw [hz] at hroom ⊢
  have c1 : (0 : Int) ≤ ↑i := by omega
  have c2 : (↑i : Int) ≤ ↑s.size := by omega
  have c3 : (0 : Int) ≤ ↑i + 1 := by omega
  have c4 : (↑i + 1 : Int) ≤ ↑s.size := by omega
  have t3 := L.t3; have t4 := L.t4; have t9 := L.t9
  have a3 : ∀ w, (isAgg (ρ.t 3)).run P w = .ok false w := run_isAgg_plain L.t3 rfl; have a4 : ∀ w, (isAgg (ρ.t 4)).run P w = .ok false w := run_isAgg_plain L.t4 rfl; have a9 : ∀ w, (isAgg (ρ.t 9)).run P w = .ok false w := run_isAgg_plain L.t9 rfl
  have e219 : ∀ args w, (callFunc (ρ.f 219) args).run P w = .ok (.enter (ρ.f 219) args) w := enters_of L.f219 (by kernel_rfl) rfl
  have mixed := L.mixed; have z3 := L.z3; have v3 := L.v3; have z4 := L.z4; have v4 := L.v4; have z9 := L.z9; have v9 := L.v9
  go_enter L.f220, Body.n220_ntmps ρ
  go_wp2_with (go_at_fn (ρ.f 219); refine (Any.stringslite_Index_one { L with } _ _ _).mono ?_; rintro e w' ⟨rfl, rfl⟩; rw [hix'])
  go_region_o
  go_wp2
  go_ret3
  exact ⟨rfl, 1, rfl⟩
set_option maxHeartbeats 1000000 in
theorem Zv7 (L : Lays.n145 P ρ) (s : ByteArray) (c : UInt8) (w : World) (hs : s.size < 4294967281) :
  Calls P (ρ.f 145) #[.string s, .string ⟨#[c]⟩] w fun e w' => e = .returned (.tuple #[.string ⟨(Lib.cut s.data.toList [c]).1.toArray⟩, .string ⟨(Lib.cut s.data.toList [c]).2.1.toArray⟩, .bool (Lib.cut s.data.toList [c]).2.2]) ∧ ∃ n, w' = w.drewN n := by
 have t4 := L.t4; have t9 := L.t9; have t59 := L.t59
 have a4 : ∀ w, (isAgg (ρ.t 4)).run P w = .ok false w := run_isAgg_plain L.t4 rfl; have a9 : ∀ w, (isAgg (ρ.t 9)).run P w = .ok false w := run_isAgg_plain L.t9 rfl; have a59 : ∀ w, (isAgg (ρ.t 59)).run P w = .ok false w := run_isAgg_plain L.t59 rfl
 have e220 : ∀ args w, (callFunc (ρ.f 220) args).run P w = .ok (.enter (ρ.f 220) args) w := enters_of L.f220 (by kernel_rfl) rfl
 have mixed := L.mixed; have z4 := L.z4; have v4 := L.v4; have z9 := L.z9; have v9 := L.v9; have z59 := L.z59; have v59 := L.v59
 go_enter L.f145, Body.n145_ntmps ρ
 go_wp2_with (go_at_fn (ρ.f 220); refine (ZxC { L with } _ _ _ hs).mono ?_; rintro e w' ⟨rfl, n, rfl⟩)
 go_ret3
 exact ⟨rfl, n, rfl⟩
set_option maxHeartbeats 1000000 in
theorem Zw6 (L : Lays.n143 P ρ) (s : ByteArray) (c : UInt8) (w : World) :
  Calls P (ρ.f 143) #[.string s, .string ⟨#[c]⟩] w fun e w' => e = .returned (.int .i64 (Lib.indexB s ⟨#[c]⟩)) ∧ w' = w := by
 have hone : Lib.indexB s ⟨#[c]⟩ = Lib.indexByte s.data.toList c := Lib.index_one _ _
 rw [hone]
 have t3 := L.t3; have t9 := L.t9
 have a3 : ∀ w, (isAgg (ρ.t 3)).run P w = .ok false w := run_isAgg_plain L.t3 rfl; have a9 : ∀ w, (isAgg (ρ.t 9)).run P w = .ok false w := run_isAgg_plain L.t9 rfl
 have e219 : ∀ args w, (callFunc (ρ.f 219) args).run P w = .ok (.enter (ρ.f 219) args) w := enters_of L.f219 (by kernel_rfl) rfl
 have mixed := L.mixed; have z3 := L.z3; have v3 := L.v3; have z9 := L.z9; have v9 := L.v9
 go_enter L.f143, Body.n143_ntmps ρ
 go_wp2_with (go_at_fn (ρ.f 219); refine (Any.stringslite_Index_one { L with } _ _ _).mono ?_; rintro e w' ⟨rfl, rfl⟩)
 go_ret
 exact ⟨rfl, rfl⟩
theorem Zw7 (L : Lays.n138 P ρ) (s : ByteArray) (c : UInt8) (w : World) :
  Calls P (ρ.f 138) #[.string s, .string ⟨#[c]⟩] w fun e w' => e = .returned (.int .i64 (Lib.countB s ⟨#[c]⟩)) ∧ w' = w := by
 refine (Any.strings_Count_one L s c w).mono fun e w' ⟨he, hw⟩ => ⟨?_, hw⟩
 rw [he]
 show _ = Ending.returned (Value.int .i64 ((Lib.count s.data.toList [c] : Nat) : Int))
 rw [Lib.count_one]
 rfl
set_option maxHeartbeats 1000000 in
theorem Zw8 (L : Lays.n146 P ρ) (hi9 : (P.info? (ρ.t 9)).map (fun i => (i.zero, i.size, i.bytes)) = some (some (.string ByteArray.empty), 1, 16)) (s : ByteArray) (b : UInt8) (w : World) (hs : s.size < 4294967281) :
  Calls P (ρ.f 146) #[.string s, .string ⟨#[b]⟩] w fun e w' =>
   e = .returned (.slice (some ⟨w.heap.size, 0, none⟩) (Lib.countB s ⟨#[b]⟩ + 1) (Lib.countB s ⟨#[b]⟩ + 1)) ∧ w' = w.alloc (.cells ((Lib.splitB ⟨#[b]⟩ 0 (Lib.countB s ⟨#[b]⟩) s).map Value.string).toArray (ρ.t 9)) := by
 have h1 : 1 ≤ (⟨#[b]⟩ : ByteArray).size := Nat.le_refl _
 have hle := Lib.countB_le ⟨#[b]⟩ h1 s.size s (Nat.le_refl _)
 have hlen := Lib.splitB_all ⟨#[b]⟩ h1 0 _ s rfl
 have c := Any.strings_genSplit_core { L with } hi9 s ⟨#[b]⟩ 0 (-1) (Lib.countB s ⟨#[b]⟩ + 1) w hs h1 (Nat.zero_le _)
  (fun x cc _ => Zw6 { L with } x b _) (Zw7 { L with } s b w) (by decide) (by decide) (by rw [if_pos (by decide)]; omega)
 rw [Nat.add_sub_cancel, hlen] at c
 have e2 : Lib.cellsOf (Lib.splitB ⟨#[b]⟩ 0 (Lib.countB s ⟨#[b]⟩) s) (Lib.countB s ⟨#[b]⟩ + 1) = ((Lib.splitB ⟨#[b]⟩ 0 (Lib.countB s ⟨#[b]⟩) s).map Value.string).toArray := by rw [← hlen]; exact Lib.cellsOf_full _
 rw [e2] at c
 have t3 := L.t3; have t9 := L.t9; have t31 := L.t31
 have a3 := L.a3; have a9 := L.a9; have a31 := L.a31
 have z3 := L.z3; have v3 := L.v3; have z9 := L.z9; have v9 := L.v9; have z31 := L.z31; have v31 := L.v31
 have e221 : ∀ args w, (callFunc (ρ.f 221) args).run P w = .ok (.enter (ρ.f 221) args) w := enters_of L.f221 (by kernel_rfl) rfl
 go_enter L.f146, Body.n146_ntmps ρ
 go_wp2_with (go_at_fn (ρ.f 221); refine c.mono ?_; rintro e w' ⟨rfl, hw⟩; rw [hw])
 go_ret
 exact ⟨rfl, rfl⟩
end
def YtlbbiflodemagaaDoor.Ev.lays145_ren : Go.Shelf.Ren := ⟨fun | 145 => 58 | 220 => 66 | 219 => 69 | 217 => 75 | 225 => 76 | 224 => 77 | 267 => 78 | 266 => 85 | 314 => 86 | n => n, fun | 9 => 9 | 4 => 4 | 59 => 114 | 3 => 3 | 5 => 5 | 46 => 81 | 146 => 93 | 51 => 92 | n => n, fun | 1 => 1 | n => n⟩
theorem YtlbbiflodemagaaDoor.Ev.lays145 : Go.Proofs.Lays.n145 Tryd.prog YtlbbiflodemagaaDoor.Ev.lays145_ren := {
  mixed := by kernel_rfl
  f145 := Tryd.func58.trans (congrArg some (by kernel_rfl))
  f217 := Tryd.func75.trans (congrArg some (by kernel_rfl))
  f219 := Tryd.func69.trans (congrArg some (by kernel_rfl))
  f220 := Tryd.func66.trans (congrArg some (by kernel_rfl))
  f224 := Tryd.func77.trans (congrArg some (by kernel_rfl))
  f225 := Tryd.func76.trans (congrArg some (by kernel_rfl))
  f266 := Tryd.func85.trans (congrArg some (by kernel_rfl))
  f267 := Tryd.func78.trans (congrArg some (by kernel_rfl))
  f314 := Tryd.func86.trans (congrArg some (by kernel_rfl))
  t3 := Tryd.underlying3
  a3 := Tryd.isAgg3
  z3 := Tryd.sizeOf3
  v3 := Tryd.zeroValue3
  t4 := Tryd.underlying4
  a4 := Tryd.isAgg4
  z4 := Tryd.sizeOf4
  v4 := Tryd.zeroValue4
  t5 := Tryd.underlying5
  a5 := Tryd.isAgg5
  z5 := Tryd.sizeOf5
  v5 := Tryd.zeroValue5
  t9 := Tryd.underlying9
  a9 := Tryd.isAgg9
  z9 := Tryd.sizeOf9
  v9 := Tryd.zeroValue9
  t46 := Tryd.underlying81
  a46 := Tryd.isAgg81
  z46 := Tryd.sizeOf81
  v46 := Tryd.zeroValue81
  t51 := Tryd.underlying92
  a51 := Tryd.isAgg92
  z51 := Tryd.sizeOf92
  v51 := Tryd.zeroValue92
  t59 := Tryd.underlying114
  a59 := Tryd.isAgg114
  z59 := Tryd.sizeOf114
  v59 := Tryd.zeroValue114
  t146 := Tryd.underlying93
  a146 := Tryd.isAgg93
  z146 := Tryd.sizeOf93
  v146 := Tryd.zeroValue93
  g1 := by kernel_rfl }
def YtlbbiflodemagaaDoor.Ev.lays146_ren : Go.Shelf.Ren := ⟨fun | 146 => 60 | 221 => 67 | 268 => 70 | 138 => 71 | 143 => 72 | 195 => 79 | 197 => 80 | 218 => 81 | 219 => 69 | 260 => 87 | 217 => 75 | 225 => 76 | 224 => 77 | 267 => 78 | 266 => 85 | 314 => 86 | n => n, fun | 9 => 9 | 31 => 44 | 3 => 3 | 4 => 4 | 0 => 0 | 105 => 134 | 21 => 21 | 5 => 5 | 46 => 81 | 119 => 144 | 139 => 147 | 138 => 146 | 146 => 93 | 51 => 92 | n => n, fun | 1 => 1 | 3 => 4 | 4 => 5 | n => n⟩
theorem YtlbbiflodemagaaDoor.Ev.lays146 : Go.Proofs.Lays.n146 Tryd.prog YtlbbiflodemagaaDoor.Ev.lays146_ren := {
  mixed := by kernel_rfl
  f138 := Tryd.func71.trans (congrArg some (by kernel_rfl))
  f143 := Tryd.func72.trans (congrArg some (by kernel_rfl))
  f146 := Tryd.func60.trans (congrArg some (by kernel_rfl))
  f195 := Tryd.func79.trans (congrArg some (by kernel_rfl))
  f197 := Tryd.func80.trans (congrArg some (by kernel_rfl))
  f217 := Tryd.func75.trans (congrArg some (by kernel_rfl))
  f218 := Tryd.func81.trans (congrArg some (by kernel_rfl))
  f219 := Tryd.func69.trans (congrArg some (by kernel_rfl))
  f221 := Tryd.func67.trans (congrArg some (by kernel_rfl))
  f224 := Tryd.func77.trans (congrArg some (by kernel_rfl))
  f225 := Tryd.func76.trans (congrArg some (by kernel_rfl))
  f260 := Tryd.func87.trans (congrArg some (by kernel_rfl))
  f266 := Tryd.func85.trans (congrArg some (by kernel_rfl))
  f267 := Tryd.func78.trans (congrArg some (by kernel_rfl))
  f268 := Tryd.func70.trans (congrArg some (by kernel_rfl))
  f314 := Tryd.func86.trans (congrArg some (by kernel_rfl))
  t0 := Tryd.underlying0
  a0 := Tryd.isAgg0
  z0 := Tryd.sizeOf0
  v0 := Tryd.zeroValue0
  t3 := Tryd.underlying3
  a3 := Tryd.isAgg3
  z3 := Tryd.sizeOf3
  v3 := Tryd.zeroValue3
  t4 := Tryd.underlying4
  a4 := Tryd.isAgg4
  z4 := Tryd.sizeOf4
  v4 := Tryd.zeroValue4
  t5 := Tryd.underlying5
  a5 := Tryd.isAgg5
  z5 := Tryd.sizeOf5
  v5 := Tryd.zeroValue5
  t9 := Tryd.underlying9
  a9 := Tryd.isAgg9
  z9 := Tryd.sizeOf9
  v9 := Tryd.zeroValue9
  t21 := Tryd.underlying21
  a21 := Tryd.isAgg21
  z21 := Tryd.sizeOf21
  v21 := Tryd.zeroValue21
  t31 := Tryd.underlying44
  a31 := Tryd.isAgg44
  z31 := Tryd.sizeOf44
  v31 := Tryd.zeroValue44
  t46 := Tryd.underlying81
  a46 := Tryd.isAgg81
  z46 := Tryd.sizeOf81
  v46 := Tryd.zeroValue81
  t51 := Tryd.underlying92
  a51 := Tryd.isAgg92
  z51 := Tryd.sizeOf92
  v51 := Tryd.zeroValue92
  t105 := Tryd.underlying134
  a105 := Tryd.isAgg134
  z105 := Tryd.sizeOf134
  v105 := Tryd.zeroValue134
  t119 := Tryd.underlying144
  a119 := Tryd.isAgg144
  z119 := Tryd.sizeOf144
  t138 := Tryd.underlying146
  a138 := Tryd.isAgg146
  z138 := Tryd.sizeOf146
  v138 := Tryd.zeroValue146
  t139 := Tryd.underlying147
  a139 := Tryd.isAgg147
  z139 := Tryd.sizeOf147
  v139 := Tryd.zeroValue147
  t146 := Tryd.underlying93
  a146 := Tryd.isAgg93
  z146 := Tryd.sizeOf93
  v146 := Tryd.zeroValue93
  g1 := by kernel_rfl
  g3 := by kernel_rfl
  g4 := by kernel_rfl }
def YtlbbiflodemagaaDoor.Ev.lays101_ren : Go.Shelf.Ren := ⟨fun | 101 => 73 | 208 => 82 | 206 => 42 | n => n, fun | 9 => 9 | 4 => 4 | 3 => 3 | n => n, fun | n => n⟩
theorem YtlbbiflodemagaaDoor.Ev.lays101 : Go.Proofs.Lays.n101 Tryd.prog YtlbbiflodemagaaDoor.Ev.lays101_ren := {
  mixed := by kernel_rfl
  f101 := Tryd.func73.trans (congrArg some (by kernel_rfl))
  f206 := Tryd.func42.trans (congrArg some (by kernel_rfl))
  f208 := Tryd.func82.trans (congrArg some (by kernel_rfl))
  t3 := Tryd.underlying3
  a3 := Tryd.isAgg3
  z3 := Tryd.sizeOf3
  v3 := Tryd.zeroValue3
  t4 := Tryd.underlying4
  a4 := Tryd.isAgg4
  z4 := Tryd.sizeOf4
  v4 := Tryd.zeroValue4
  t9 := Tryd.underlying9
  a9 := Tryd.isAgg9
  z9 := Tryd.sizeOf9
  v9 := Tryd.zeroValue9 }
def YtlbbiflodemagaaDoor.Ev.laysC172_ren : Go.Shelf.Ren := ⟨fun | 172 => 74 | 244 => 83 | 245 => 84 | 247 => 88 | 279 => 89 | 280 => 90 | 281 => 91 | 282 => 92 | 287 => 93 | 316 => 94 | 171 => 17 | 205 => 95 | 321 => 96 | 322 => 97 | 243 => 28 | 246 => 35 | 283 => 43 | 284 => 44 | 285 => 45 | 286 => 46 | 129 => 54 | 317 => 53 | 318 => 55 | 319 => 56 | 320 => 57 | 337 => 64 | 338 => 65 | n => n, fun | 9 => 9 | 3 => 3 | 75 => 64 | 76 => 65 | 4 => 4 | 5 => 5 | 167 => 138 | 37 => 40 | 0 => 0 | 85 => 139 | 2 => 2 | 168 => 141 | 53 => 95 | 175 => 148 | 46 => 81 | 210 => 151 | 127 => 79 | 145 => 156 | 143 => 154 | 21 => 21 | 171 => 98 | 173 => 101 | 212 => 109 | 51 => 92 | 20 => 20 | 213 => 110 | 232 => 127 | 233 => 128 | 80 => 67 | n => n, fun | 15 => 6 | 16 => 7 | 17 => 0 | 18 => 2 | 19 => 3 | n => n⟩
theorem YtlbbiflodemagaaDoor.Ev.laysC172 : Go.Proofs.LaysC.n172 Tryd.prog YtlbbiflodemagaaDoor.Ev.laysC172_ren := {
  mixed := by kernel_rfl
  f129 := Tryd.func54.trans (congrArg some (by kernel_rfl))
  f171 := Tryd.func17.trans (congrArg some (by kernel_rfl))
  f172 := Tryd.func74.trans (congrArg some (by kernel_rfl))
  f205 := Tryd.func95.trans (congrArg some (by kernel_rfl))
  f243 := Tryd.func28.trans (congrArg some (by kernel_rfl))
  f244 := Tryd.func83.trans (congrArg some (by kernel_rfl))
  f245 := Tryd.func84.trans (congrArg some (by kernel_rfl))
  f246 := Tryd.func35.trans (congrArg some (by kernel_rfl))
  f247 := Tryd.func88.trans (congrArg some (by kernel_rfl))
  f279 := Tryd.func89.trans (congrArg some (by kernel_rfl))
  f280 := Tryd.func90.trans (congrArg some (by kernel_rfl))
  f281 := Tryd.func91.trans (congrArg some (by kernel_rfl))
  f282 := Tryd.func92.trans (congrArg some (by kernel_rfl))
  f283 := Tryd.func43.trans (congrArg some (by kernel_rfl))
  f284 := Tryd.func44.trans (congrArg some (by kernel_rfl))
  f285 := Tryd.func45.trans (congrArg some (by kernel_rfl))
  f286 := Tryd.func46.trans (congrArg some (by kernel_rfl))
  f287 := Tryd.func93.trans (congrArg some (by kernel_rfl))
  f316 := Tryd.func94.trans (congrArg some (by kernel_rfl))
  f317 := Tryd.func53.trans (congrArg some (by kernel_rfl))
  f318 := Tryd.func55.trans (congrArg some (by kernel_rfl))
  f319 := Tryd.func56.trans (congrArg some (by kernel_rfl))
  f320 := Tryd.func57.trans (congrArg some (by kernel_rfl))
  f321 := Tryd.func96.trans (congrArg some (by kernel_rfl))
  f322 := Tryd.func97.trans (congrArg some (by kernel_rfl))
  f337 := Tryd.func64.trans (congrArg some (by kernel_rfl))
  f338 := Tryd.func65.trans (congrArg some (by kernel_rfl))
  t0 := Tryd.underlying0
  a0 := Tryd.isAgg0
  z0 := Tryd.sizeOf0
  v0 := Tryd.zeroValue0
  t2 := Tryd.underlying2
  a2 := Tryd.isAgg2
  z2 := Tryd.sizeOf2
  v2 := Tryd.zeroValue2
  t3 := Tryd.underlying3
  a3 := Tryd.isAgg3
  z3 := Tryd.sizeOf3
  v3 := Tryd.zeroValue3
  t4 := Tryd.underlying4
  a4 := Tryd.isAgg4
  z4 := Tryd.sizeOf4
  v4 := Tryd.zeroValue4
  t5 := Tryd.underlying5
  a5 := Tryd.isAgg5
  z5 := Tryd.sizeOf5
  v5 := Tryd.zeroValue5
  t9 := Tryd.underlying9
  a9 := Tryd.isAgg9
  z9 := Tryd.sizeOf9
  v9 := Tryd.zeroValue9
  t20 := Tryd.underlying20
  a20 := Tryd.isAgg20
  z20 := Tryd.sizeOf20
  v20 := Tryd.zeroValue20
  t21 := Tryd.underlying21
  a21 := Tryd.isAgg21
  z21 := Tryd.sizeOf21
  v21 := Tryd.zeroValue21
  t37 := Tryd.underlying40
  a37 := Tryd.isAgg40
  z37 := Tryd.sizeOf40
  v37 := Tryd.zeroValue40
  t46 := Tryd.underlying81
  a46 := Tryd.isAgg81
  z46 := Tryd.sizeOf81
  v46 := Tryd.zeroValue81
  t51 := Tryd.underlying92
  a51 := Tryd.isAgg92
  z51 := Tryd.sizeOf92
  v51 := Tryd.zeroValue92
  t53 := Tryd.underlying95
  a53 := Tryd.isAgg95
  z53 := Tryd.sizeOf95
  v53 := Tryd.zeroValue95
  t75 := Tryd.underlying64
  a75 := Tryd.isAgg64
  z75 := Tryd.sizeOf64
  v75 := Tryd.zeroValue64
  t76 := Tryd.underlying65
  a76 := Tryd.isAgg65
  z76 := Tryd.sizeOf65
  v76 := Tryd.zeroValue65
  t85 := Tryd.underlying139
  a85 := Tryd.isAgg139
  z85 := Tryd.sizeOf139
  v85 := Tryd.zeroValue139
  t127 := Tryd.underlying79
  a127 := Tryd.isAgg79
  z127 := Tryd.sizeOf79
  v127 := Tryd.zeroValue79
  t143 := Tryd.underlying154
  a143 := Tryd.isAgg154
  z143 := Tryd.sizeOf154
  v143 := Tryd.zeroValue154
  t145 := Tryd.underlying156
  a145 := Tryd.isAgg156
  z145 := Tryd.sizeOf156
  v145 := Tryd.zeroValue156
  t167 := Tryd.underlying138
  a167 := Tryd.isAgg138
  z167 := Tryd.sizeOf138
  v167 := Tryd.zeroValue138
  t168 := Tryd.underlying141
  a168 := Tryd.isAgg141
  z168 := Tryd.sizeOf141
  v168 := Tryd.zeroValue141
  t171 := Tryd.underlying98
  a171 := Tryd.isAgg98
  z171 := Tryd.sizeOf98
  v171 := Tryd.zeroValue98
  t173 := Tryd.underlying101
  a173 := Tryd.isAgg101
  z173 := Tryd.sizeOf101
  v173 := Tryd.zeroValue101
  t175 := Tryd.underlying148
  a175 := Tryd.isAgg148
  z175 := Tryd.sizeOf148
  v175 := Tryd.zeroValue148
  t210 := Tryd.underlying151
  a210 := Tryd.isAgg151
  z210 := Tryd.sizeOf151
  v210 := Tryd.zeroValue151
  t212 := Tryd.underlying109
  a212 := Tryd.isAgg109
  z212 := Tryd.sizeOf109
  v212 := Tryd.zeroValue109
  t213 := Tryd.underlying110
  a213 := Tryd.isAgg110
  z213 := Tryd.sizeOf110
  t232 := Tryd.underlying127
  a232 := Tryd.isAgg127
  z232 := Tryd.sizeOf127
  v232 := Tryd.zeroValue127
  t233 := Tryd.underlying128
  a233 := Tryd.isAgg128
  z233 := Tryd.sizeOf128
  v233 := Tryd.zeroValue128
  g15 := by kernel_rfl
  g16 := by kernel_rfl
  g17 := by kernel_rfl
  g18 := by kernel_rfl
  g19 := by kernel_rfl
  t80 := Tryd.underlying67
  a80 := Tryd.isAgg67
  z80 := Tryd.sizeOf67
  v80 := Tryd.zeroValue67
  i0 := by kernel_rfl
  i2 := by kernel_rfl
  i3 := by kernel_rfl
  i4 := by kernel_rfl
  i5 := by kernel_rfl
  i9 := by kernel_rfl
  i20 := by kernel_rfl
  i21 := by kernel_rfl
  i37 := by kernel_rfl
  i46 := by kernel_rfl
  i51 := by kernel_rfl
  i53 := by kernel_rfl
  i75 := by kernel_rfl
  i76 := by kernel_rfl
  i80 := by kernel_rfl
  i85 := by kernel_rfl
  i127 := by kernel_rfl
  i143 := by kernel_rfl
  i145 := by kernel_rfl
  i167 := by kernel_rfl
  i168 := by kernel_rfl
  i171 := by kernel_rfl
  i173 := by kernel_rfl
  i175 := by kernel_rfl
  i210 := by kernel_rfl
  i212 := by kernel_rfl
  i232 := by kernel_rfl
  i233 := by kernel_rfl
  m15 := by kernel_rfl
  m16 := by kernel_rfl
  m17 := by kernel_rfl
  m18 := by kernel_rfl
  m19 := by kernel_rfl
  c0 := by kernel_rfl
  c2 := by kernel_rfl
  c3 := by kernel_rfl
  c4 := by kernel_rfl
  c5 := by kernel_rfl
  c9 := by kernel_rfl
  c20 := by kernel_rfl
  c21 := by kernel_rfl
  c37 := by kernel_rfl
  c46 := by kernel_rfl
  c51 := by kernel_rfl
  c53 := by kernel_rfl
  c75 := by kernel_rfl
  c76 := by kernel_rfl
  c80 := by kernel_rfl
  c85 := by kernel_rfl
  c127 := by kernel_rfl
  c143 := by kernel_rfl
  c145 := by kernel_rfl
  c167 := by kernel_rfl
  c168 := by kernel_rfl
  c171 := by kernel_rfl
  c173 := by kernel_rfl
  c175 := by kernel_rfl
  c210 := by kernel_rfl
  c212 := by kernel_rfl
  c213 := by kernel_rfl
  c232 := by kernel_rfl
  c233 := by kernel_rfl }
end Go.Proofs
namespace Go.Proofs.YtlbbiflodemagaaDoor
open Go.RowKit
namespace Ev
set_option linter.unusedVariables false
def Z1 (l : List Int) : Bool := l.all fun n => decide (0 ≤ n) && decide (n ≤ 255)
theorem Zfn {l : List Int} (h : Z1 l = true) {n : Int} (hn : n ∈ l) : 0 ≤ n ∧ n ≤ 255 := by
 have := List.all_eq_true.1 h n hn
 simpa using this
theorem Zc4 {x : Int} {l : List Int} : Z1 (x :: l) = true ↔ (0 ≤ x ∧ x ≤ 255) ∧ Z1 l = true := by simp [Z1]
theorem Zez (a b : List Int) : Z1 (a ++ b) = (Z1 a && Z1 b) := by simp [Z1, List.all_append]
def Zz (c : Int) : List Int → List Int
 | [] => []
 | x :: l => if x = c then [] else x :: Zz c l
def Zap (c : Int) : List Int → List Int
 | [] => []
 | x :: l => if x = c then l else Zap c l
def ZaT (c : Int) : List Int → Bool
 | [] => false
 | x :: l => decide (x = c) || ZaT c l
def ZD (c : Int) : List Int → List (List Int)
 | [] => [[]]
 | x :: l => if x = c then [] :: ZD c l else (x :: (ZD c l).headD []) :: (ZD c l).tail
theorem Zxl {x : Int} {b : UInt8} (h0 : 0 ≤ x) (h1 : x ≤ 255) : (UInt8.ofNat x.toNat == b) = decide (x = (b.toNat : Int)) := by
 rw [Bool.eq_iff_iff, beq_iff_eq, decide_eq_true_eq]
 constructor
 ·rintro rfl
  rw [UInt8.toNat_ofNat']; omega
 ·intro h
  apply UInt8.toNat.inj
  rw [UInt8.toNat_ofNat']
  have := b.toNat_lt
  omega
theorem Zi2 {c : Int} : ∀ {M : List Int}, ZaT c M = true → M = Zz c M ++ c :: Zap c M
 | [], h => by cases h
 | x :: l, h => by
  unfold ZaT at h
  unfold Zz Zap
  by_cases hx : x = c
  ·rw [if_pos hx, if_pos hx, hx]; rfl
  ·rw [if_neg hx, if_neg hx]
   rw [decide_eq_false hx, Bool.false_or] at h
   exact congrArg (x :: ·) (Zi2 h)
theorem Zkq {b : UInt8} : ∀ {M : List Int}, Z1 M = true → Lib.indexByte (u8s M) b = if ZaT b.toNat M then ((Zz b.toNat M).length : Int) else -1
 | [], _ => rfl
 | x :: l, h => by
  obtain ⟨⟨h0, h1⟩, h2⟩ := Zc4.1 h
  show (if (UInt8.ofNat x.toNat == b) = true then (0 : Int) else if (Lib.indexByte (u8s l) b == -1) = true then -1 else Lib.indexByte (u8s l) b + 1) = _
  rw [Zxl h0 h1]
  unfold ZaT Zz
  by_cases hx : x = b.toNat
  ·simp [hx]
  ·rw [decide_eq_false hx, if_neg (by simp), Bool.false_or, if_neg hx, Zkq h2]
   cases ZaT (b.toNat : Int) l with
   | false => simp
   | true =>
    simp only [if_true]
    rw [if_neg (by rw [beq_iff_eq]; omega)]
    simp
theorem ZxD {b : UInt8} {M : List Int} (hb : Z1 M = true) (h : ZaT b.toNat M = true) : Lib.cut (u8s M) [b] = (u8s (Zz b.toNat M), u8s (Zap b.toNat M), true) := by
 have hi := Zkq (b := b) hb
 rw [h, if_pos rfl] at hi
 unfold Lib.cut
 rw [Lib.index_one, hi, if_pos (by omega)]
 have e := Zi2 h
 have e2 : u8s M = u8s (Zz b.toNat M) ++ (UInt8.ofNat (b.toNat : Int).toNat :: u8s (Zap b.toNat M)) := by
  conv => lhs; rw [e]
  rw [Zmy]; rfl
 have hl : (u8s (Zz b.toNat M)).length = (Zz b.toNat M).length := by unfold u8s; rw [List.length_map]
 rw [Int.toNat_natCast, e2, ← hl]
 refine Prod.ext ?_ (Prod.ext ?_ rfl)
 ·simp
 ·show List.drop ((u8s (Zz b.toNat M)).length + 1) _ = _
  rw [List.drop_append]
  simp
theorem ZxE {b : UInt8} {M : List Int} (hb : Z1 M = true) (h : ZaT b.toNat M = false) : Lib.cut (u8s M) [b] = (u8s M, [], false) := by
 have hi := Zkq (b := b) hb
 rw [h] at hi
 unfold Lib.cut
 rw [Lib.index_one, hi]
 rfl
theorem Zh7 {c : Int} : ∀ {M : List Int}, Z1 M = true → Z1 (Zz c M) = true ∧ Z1 (Zap c M) = true
 | [], _ => ⟨rfl, rfl⟩
 | x :: l, h => by
  obtain ⟨h1, h2⟩ := Zc4.1 h
  obtain ⟨i1, i2⟩ := Zh7 (c := c) h2
  unfold Zz Zap
  by_cases hx : x = c
  ·rw [if_pos hx, if_pos hx]; exact ⟨rfl, h2⟩
  ·rw [if_neg hx, if_neg hx]; exact ⟨Zc4.2 ⟨h1, i1⟩, i2⟩
theorem ZsU (c x : Int) (l : List Int) : ZD c (x :: l) = if x = c then [] :: ZD c l else (x :: (ZD c l).headD []) :: (ZD c l).tail := rfl
theorem Zoh {c : Int} : ∀ {M : List Int}, ZaT c M = false → ZD c M = [M]
 | [], _ => rfl
 | x :: l, h => by
  unfold ZaT at h
  rw [Bool.or_eq_false_iff] at h
  unfold ZD
  rw [if_neg (of_decide_eq_false h.1), Zoh h.2]
  rfl
theorem Zoi {c : Int} : ∀ {M : List Int}, ZaT c M = true → ZD c M = Zz c M :: ZD c (Zap c M)
 | [], h => by cases h
 | x :: l, h => by
  unfold ZaT at h
  rw [ZsU]
  unfold Zz Zap
  by_cases hx : x = c
  ·rw [if_pos hx, if_pos hx, if_pos hx]
  ·rw [decide_eq_false hx, Bool.false_or] at h
   rw [if_neg hx, if_neg hx, if_neg hx, Zoi h]
   rfl
theorem Zw9 {c : Int} {M : List Int} (h : ZaT c M = true) : (Zap c M).length < M.length := by
 have := congrArg List.length (Zi2 h)
 simp only [List.length_append, List.length_cons] at this
 omega
theorem Zb0 (l : List Int) : (Zb l).data.toList = u8s l := by rw [Zcw]
theorem ZjA (l : List Int) : (Zb l).size = l.length := by
 show (Zb l).data.size = l.length
 rw [Zcw]; simp [u8s]
theorem ZlN {x y : ByteArray} (h : x.data.toList = y.data.toList) : x = y := ByteArray.ext (Array.toList_inj.1 h)
theorem Zv8 {b : UInt8} : ∀ (n : Nat) (M : List Int), M.length ≤ n → Z1 M = true → Lib.splitB ⟨#[b]⟩ 0 (Lib.countB (Zb M) ⟨#[b]⟩) (Zb M) = (ZD b.toNat M).map Zb ∧ Lib.countB (Zb M) ⟨#[b]⟩ + 1 = (ZD b.toNat M).length := by
 have h1 : 1 ≤ (⟨#[b]⟩ : ByteArray).size := Nat.le_refl _
 intro n
 induction n with
 | zero =>
  intro M hM hb
  have : M = [] := List.length_eq_zero_iff.1 (by omega)
  subst this
  have hi : Lib.indexB (Zb []) ⟨#[b]⟩ = -1 := by
   show Lib.index (Zb []).data.toList [b] = -1
   rw [Lib.index_one, Zb0, Zkq rfl]; rfl
  rw [Lib.countB_miss _ _ hi]
  exact ⟨rfl, rfl⟩
 | succ n ih =>
  intro M hM hb
  have hx : Lib.indexB (Zb M) ⟨#[b]⟩ = if ZaT b.toNat M then ((Zz b.toNat M).length : Int) else -1 := by
   show Lib.index (Zb M).data.toList [b] = _
   rw [Lib.index_one, Zb0, Zkq hb]
  cases hh : ZaT b.toNat M with
  | false =>
   rw [hh] at hx
   rw [Lib.countB_miss _ _ hx, Zoh hh]
   exact ⟨rfl, rfl⟩
  | true =>
   rw [hh, if_pos rfl] at hx
   have e := Zi2 hh
   have hl := Zw9 hh
   have d : (Zb M).data.toList = u8s (Zz b.toNat M) ++ (UInt8.ofNat (b.toNat : Int).toNat :: u8s (Zap b.toNat M)) := by
    rw [Zb0]
    conv => lhs; rw [e]
    rw [Zmy]; rfl
   have hbl : (u8s (Zz b.toNat M)).length = (Zz b.toNat M).length := by unfold u8s; rw [List.length_map]
   have q1 : (Zb M).extract 0 ((Zz b.toNat M).length + 0) = Zb (Zz b.toNat M) := by
    apply ZlN
    rw [Nat.add_zero, Lib.extract_from_zero, d, Zb0, ← hbl]
    simp
   have q2 : (Zb M).extract ((Zz b.toNat M).length + (⟨#[b]⟩ : ByteArray).size) (Zb M).size = Zb (Zap b.toNat M) := by
    apply ZlN
    rw [Lib.extract_to_end, d, Zb0, ← hbl]
    show List.drop ((u8s (Zz b.toNat M)).length + 1) _ = _
    rw [List.drop_append]
    simp
   obtain ⟨i1, i2⟩ := ih (Zap b.toNat M) (by omega) (Zh7 hb).2
   rw [Lib.countB_hit _ _ _ h1 hx, Nat.add_comm 1, Lib.splitB_hit _ _ _ _ _ hx, q1, q2, Zoi hh, List.map_cons, List.length_cons, i1, ← i2]
   exact ⟨rfl, rfl⟩
def ZkR (x : ByteArray) : List Int := x.data.toList.map fun u => (u.toNat : Int)
theorem Zoj (x : ByteArray) : Z1 (ZkR x) = true := by
 unfold Z1 ZkR
 rw [List.all_eq_true]
 intro n hn
 obtain ⟨u, _, rfl⟩ := List.mem_map.1 hn
 have := u.toNat_lt
 simp only [Bool.and_eq_true, decide_eq_true_eq]
 omega
theorem Zqd (x : ByteArray) : x = Zb (ZkR x) := by
 apply ZlN
 rw [Zb0]
 unfold u8s ZkR
 rw [List.map_map]
 have : ∀ l : List UInt8, l.map ((fun n : Int => UInt8.ofNat n.toNat) ∘ fun u : UInt8 => (u.toNat : Int)) = l := fun l => by
  induction l with
  | nil => rfl
  | cons a l ih => rw [List.map_cons, ih]; simp
 rw [this]
def ZjO : Nat → List Int → Nat
 | acc, [] => acc
 | acc, x :: l => ZjO (acc * 10 + (x - 48).toNat) l
def Zbf : List Int → Int
 | [] => 0
 | x :: l => if x = 45 then -(ZjO 0 l : Int) else (ZjO 0 (x :: l) : Int)
def Zbq (M : List Int) : Bool := decide (M = Zd (Zbf M)) && (decide (-10000000000000 < Zbf M) && decide (Zbf M < 10000000000000))
noncomputable section
def Zuy (y : ByteArray) : Option UInt8 := match y.data.toList with | [c] => some c | _ => none
def Zok (x : ByteArray) (s : St) : Option (List Int × St) :=
 match s.nextW with
 | (some (.bs M), s1) => some (M, s1.told (dP (x = Zb M ∧ Z1 M = true ∧ M.length ≤ 1000000)))
 | (some _, _) => none
 | (none, s1) => bif Nat.ble (ZkR x).length 1000000 then some (ZkR x, s1) else none
def Zuz (args : Array Value) (s : St) : Out :=
 match args.toList with
 | [.string x, .string y] => match Zuy y with
  | some b => match Zok x s with
   | some (M, s1) => match s1.tst (ZaT (b.toNat : Int) M) with
    | (true, s2) => some (.tuple #[.string (Zb (Zz (b.toNat : Int) M)), .string (Zb (Zap (b.toNat : Int) M)), .bool true], s2)
    | (false, s2) => some (.tuple #[.string (Zb M), .string ByteArray.empty, .bool false], s2)
   | none => none
  | none => none
 | _ => none
def Zol (args : Array Value) (s : St) : Out :=
 match args.toList with
 | [.string x, .string y] => match Zuy y with
  | some b => match Zok x s with
   | some (M, s1) => some (.slice (some ⟨s1.n, 0, none⟩) (ZD (b.toNat : Int) M).length (ZD (b.toNat : Int) M).length, s1.add ((ZD (b.toNat : Int) M).flatMap fun l => Zu [.s (Zb l)]) 9)
   | none => none
  | none => none
 | _ => none
def Zu0 (args : Array Value) (s : St) : Out :=
 match args.toList with
 | [.string x] => match Zok x s with
  | some (M, s1) => match s1.tst (Zbq M) with
   | (true, s2) => some (.tuple #[.int .i64 (Zbf M), .bool true], s2)
   | (false, s2) => some (.tuple #[.int .i64 0, .bool false], s2)
  | none => none
 | _ => none
end
theorem ZdH {x : ByteArray} {s s1 : St} {M : List Int} (h : Zok x s = some (M, s1)) : Up s s1 ∧ s1.h = s.h ∧ s1.n = s.n ∧ ((∀ p ∈ s1.ob, p.1 = p.2) → x = Zb M ∧ Z1 M = true ∧ M.length ≤ 1000000) := by
 unfold Zok at h
 split at h
 ·rename_i M' s2 hw
  injection h with h; injection h with h1 h2; subst h1 h2
  obtain ⟨e1, e2, e3⟩ := ZR hw
  exact ⟨(ZN hw).trans (Zab _), e1, e2, fun ho => ZU.1 (ho _ List.mem_cons_self)⟩
 ·cases h
 ·rename_i s2 hw
  obtain ⟨hl, h⟩ := Zo h
  injection h with h; injection h with h1 h2; subst h1 h2
  obtain ⟨e1, e2, e3⟩ := ZR hw
  exact ⟨ZN hw, e1, e2, fun _ => ⟨Zqd x, Zoj x, Nat.le_of_ble_eq_true hl⟩⟩
theorem Zg8 {s s1 : St} {t b : Bool} (h : s.tst t = (b, s1)) : Up s s1 ∧ s1.h = s.h ∧ s1.n = s.n ∧ ((∀ p ∈ s1.ob, p.1 = p.2) → t = b) ∧ s.ob <:+ s1.ob := by
 have hu := ZeD h
 unfold St.tst at h
 split at h
 ·injection h with h1 h2; subst h1 h2; exact ⟨hu, rfl, rfl, fun _ => rfl, List.suffix_refl _⟩
 ·injection h with h1 h2; subst h1 h2; exact ⟨hu, rfl, rfl, fun _ => rfl, List.suffix_refl _⟩
 ·injection h with h1 h2; subst h1 h2; exact ⟨hu, rfl, rfl, fun ho => ho (t, _) List.mem_cons_self, List.suffix_cons _ _⟩
theorem Zom {a b : List (Bool × Bool)} (h : a <:+ b) (ho : ∀ p ∈ b, p.1 = p.2) : ∀ p ∈ a, p.1 = p.2 := fun p hp => ho p (h.subset hp)
theorem Zon {w w' : World} (h : ∃ n, w' = w.drewN n) : Below w.heap.size w w' := by
 obtain ⟨n, rfl⟩ := h
 exact ⟨rfl, rfl, rfl, Nat.le_refl _, fun j hj => rfl⟩
theorem Zqe {y : ByteArray} {b : UInt8} (h : Zuy y = some b) : y = ⟨#[b]⟩ := by
 unfold Zuy at h
 split at h
 ·rename_i c hc
  injection h with h; subst h
  exact ZlN hc
 ·cases h
theorem cut_does : Zfj Tryd.prog 58 Zuz := by
  refine Zko Tryd.func58 rfl (fun args s v s' h => ?_) fun args s v s' h ho => ?_
  · unfold Zuz at h
    split at h
    · split at h
      · split at h
        · rename_i M s1 h1
          split at h
          · rename_i s2 h2; injection h with h; injection h with q1 q2; subst q2; exact (ZdH h1).1.trans (Zg8 h2).1
          · rename_i s2 h2; injection h with h; injection h with q1 q2; subst q2; exact (ZdH h1).1.trans (Zg8 h2).1
        · cases h
      · cases h
    · cases h
  · unfold Zuz at h
    split at h
    · rename_i x y hl
      have hA : args = #[.string x, .string y] := by rw [← Array.toArray_toList (xs := args), hl]
      subst hA
      split at h
      · rename_i b hb
        obtain rfl := Zqe hb
        have hargs : ∀ (ι : Ren) (args' : Array Value), VRs ι #[.string x, .string ⟨#[b]⟩] args' → args' = #[.string x, .string ⟨#[b]⟩] := fun ι args' ha => Ze3 ha.1 fun i u z hx1 hy1 => (ha.2 i u z hx1 hy1).eq_of_free (Zay (p := Zbl) (a := #[.string x, .string ⟨#[b]⟩]) rfl i u hx1)
        split at h
        · rename_i M s1 h1
          obtain ⟨_, e1, e2, e3⟩ := ZdH h1
          split at h
          · rename_i s2 h2
            obtain ⟨_, f1, f2, f3, f4⟩ := Zg8 h2
            injection h with h; injection h with q1 q2; subst q1 q2
            obtain ⟨rfl, hM, hlM⟩ := e3 (Zom f4 ho)
            refine ⟨f1.trans e1, f2.trans e2, rfl, fun ι w args' ha he => ?_⟩
            obtain rfl := hargs ι args' ha
            refine (Zv7 lays145 (Zb M) b w (by rw [ZjA]; omega)).mono ?_
            rintro e w' ⟨rfl, hw⟩
            rw [Zb0, ZxD hM (f3 ho)]
            exact ⟨by simp only [Zcw], Zon hw⟩
          · rename_i s2 h2
            obtain ⟨_, f1, f2, f3, f4⟩ := Zg8 h2
            injection h with h; injection h with q1 q2; subst q1 q2
            obtain ⟨rfl, hM, hlM⟩ := e3 (Zom f4 ho)
            refine ⟨f1.trans e1, f2.trans e2, rfl, fun ι w args' ha he => ?_⟩
            obtain rfl := hargs ι args' ha
            refine (Zv7 lays145 (Zb M) b w (by rw [ZjA]; omega)).mono ?_
            rintro e w' ⟨rfl, hw⟩
            rw [Zb0, ZxE hM (f3 ho)]
            exact ⟨by simp only [Zcw]; rfl, Zon hw⟩
        · cases h
      · cases h
    · cases h
theorem split_does : Zfj Tryd.prog 60 Zol := by
  refine ⟨fun args s v s' h => ?_, fun args s v s' h ho ι w args' ha he hF => .inl ⟨⟨_, _, Tryd.func60, rfl⟩, ?_⟩⟩
  · unfold Zol at h
    split at h
    · split at h
      · split at h
        · rename_i M s1 h1
          injection h with h; injection h with q1 q2; subst q2; exact (ZdH h1).1.trans up_add
        · cases h
      · cases h
    · cases h
  · unfold Zol at h
    split at h
    · rename_i x y hl
      have hA : args = #[.string x, .string y] := by rw [← Array.toArray_toList (xs := args), hl]
      subst hA
      split at h
      · rename_i b hb
        obtain rfl := Zqe hb
        obtain rfl : args' = #[.string x, .string ⟨#[b]⟩] := Ze3 ha.1 fun i u z hx1 hy1 => (ha.2 i u z hx1 hy1).eq_of_free (Zay (p := Zbl) (a := #[.string x, .string ⟨#[b]⟩]) rfl i u hx1)
        split at h
        · rename_i M s1 h1
          obtain ⟨_, e1, e2, e3⟩ := ZdH h1
          injection h with h; injection h with q1 q2; subst q1 q2
          obtain ⟨rfl, hM, hlM⟩ := e3 ho
          refine (Zw8 lays146 (by kernel_rfl) (Zb M) b w (by rw [ZjA]; omega)).mono ?_
          rintro e w' ⟨rfl, rfl⟩
          obtain ⟨r1, r2⟩ := Zv8 (b := b) M.length M (Nat.le_refl _) hM
          rw [r1, r2]
          have hn : ι s.n = none := hF.2 s.n (Nat.le_refl _) (by show s.n < s1.n + 1; omega)
          have hnf : s.n < 1000000000 := Nat.lt_of_lt_of_le (by show s.n < s1.n + 1; omega) hF.1
          have hcells : ((ZD (b.toNat : Int) M).flatMap fun l => Zu [.s (Zb l)]) = ((ZD (b.toNat : Int) M).map Zb).map Value.string := by
            rw [List.map_map]
            generalize ZD (b.toNat : Int) M = W
            induction W with
            | nil => rfl
            | cons a W ih => rw [List.flatMap_cons, ih]; rfl
          have hst := Step.alloc he hnf hn (c := ((ZD (b.toNat : Int) M).map Zb).map Value.string) (C := (((ZD (b.toNat : Int) M).map Zb).map Value.string).toArray) 9 ⟨by simp, fun i u z hx1 hy1 => by
            rw [List.getElem?_toArray, hx1] at hy1; injection hy1 with hy1; subst hy1
            obtain ⟨q, _, rfl⟩ := List.mem_map.1 (List.mem_of_getElem? hx1)
            exact .atom rfl⟩ (ZD (b.toNat : Int) M).length (fun i hi => by
              rw [show Tryd.prog.info? 9 = _ from rfl] at hi
              have h1 : i.size = 1 := by
                have : (Tryd.prog.info? 9).map (·.size) = some 1 := by kernel_rfl
                rw [hi] at this; simpa using this
              rw [h1]; simp)
          have hh : (s1.add ((ZD (b.toNat : Int) M).flatMap fun l => Zu [.s (Zb l)]) 9).h.get = upd s.h.get s.n (some (.cells (((ZD (b.toNat : Int) M).map Zb).map Value.string) 9)) := by
            show (s1.h.set s1.n _).get = _
            rw [Tr.get_set, e1, e2, hcells]
          refine ⟨_, upd ι s.n (some (w.heap.size, (ZD (b.toNat : Int) M).length)), rfl, by rw [hh]; exact hst, fun k hk => ?_, ?_⟩
          · by_cases hk0 : k = s.n
            · exact .inr (.inl ⟨by omega, by show k < s1.n + 1; omega⟩)
            · rw [Zk hk0] at hk; exact .inl hk
          · rw [e2]
            exact .slice (b := (w.heap.size, (ZD (b.toNat : Int) M).length)) Zr (Nat.le_refl _) (Nat.le_refl _) fun _ => .inl (Nat.le_refl _)
        · cases h
      · cases h
    · cases h
end Ev
end Go.Proofs.YtlbbiflodemagaaDoor
/- Numbers. -/
namespace Go.Proofs.YtlbbiflodemagaaDoor
open Go.RowKit
namespace Ev
set_option linter.unusedVariables false
theorem TabW.below {w w' : World} (h : TabW w) (hb : Below w.heap.size w w') : TabW w' := fun x hx => by
 obtain ⟨C, t, fr, h1, h2⟩ := h x hx
 exact ⟨C, t, fr, (hb.block _ (Array.getElem?_eq_some_iff.1 h1).1).trans h1, h2⟩
theorem ZwA (a b : List Int) : ∀ acc, ZjO acc (a ++ b) = ZjO (ZjO acc a) b := by
 induction a with
 | nil => intro acc; rfl
 | cons x a ih => intro acc; exact ih _
theorem ZsV (a b : List UInt8) : ∀ acc, Lib.decFrom acc (a ++ b) = (Lib.decFrom acc a).bind fun m => Lib.decFrom m b := by
 induction a with
 | nil => intro acc; rfl
 | cons x a ih =>
  intro acc
  show (match Lib.digitVal x with | some d => Lib.decFrom (acc * 10 + d) (a ++ b) | none => none) = Option.bind (match Lib.digitVal x with | some d => Lib.decFrom (acc * 10 + d) a | none => none) _
  cases Lib.digitVal x with
  | none => rfl
  | some d => exact ih _
theorem Zqf (d : Nat) (hd : d < 10) (acc : Nat) : Lib.decFrom acc (u8s [((48 + d : Nat) : Int)]) = some (acc * 10 + d) := by
 have h : Lib.digitVal (UInt8.ofNat (48 + d)) = some d := by
  unfold Lib.digitVal
  have : (UInt8.ofNat (48 + d)).toNat = 48 + d := by rw [UInt8.toNat_ofNat']; omega
  rw [this, if_pos (by omega)]
  congr 1; omega
 show (match Lib.digitVal (UInt8.ofNat ((48 + d : Nat) : Int).toNat) with | some d => Lib.decFrom (acc * 10 + d) [] | none => none) = _
 rw [Int.toNat_natCast, h]
 rfl
def Zr4 (u : Nat) (l : List Int) : Prop := u < 10 ^ l.length ∧ 0 < l.length ∧ (l.length = 1 ∨ 10 ^ (l.length - 1) ≤ u) ∧ (∀ x ∈ l, 48 ≤ x ∧ x ≤ 57) ∧ (∀ a, ZjO a l = a * 10 ^ l.length + u) ∧ ∀ a, Lib.decFrom a (u8s l) = some (a * 10 ^ l.length + u)
theorem ZiE : ∀ (f u : Nat), 0 < f → u < 10 ^ f → Zr4 u (ZeO f u)
 | 0, u, h, _ => by omega
 | f + 1, u, _, hu => by
  unfold ZeO
  by_cases h10 : u < 10
  ·rw [if_pos h10]
   refine ⟨by simpa using h10, by simp, .inl rfl, fun x hx => ?_, fun a => ?_, fun a => ?_⟩
   ·obtain rfl := List.mem_singleton.1 hx; omega
   ·show a * 10 + (((48 + u : Nat) : Int) - 48).toNat = _
    simp; omega
   ·rw [Zqf u h10 a]; simp
  ·rw [if_neg h10]
   have hf : 0 < f := by
    rcases Nat.eq_zero_or_pos f with rfl | h
    ·simp at hu; omega
    ·exact h
   obtain ⟨i1, i2, i3, i4, i5, i6⟩ := ZiE f (u / 10) hf (by rw [Nat.pow_succ] at hu; exact Nat.div_lt_of_lt_mul (by omega))
   generalize ZeO f (u / 10) = l at *
   have hlen : (l ++ [((48 + u % 10 : Nat) : Int)]).length = l.length + 1 := by simp
   refine ⟨?_, by rw [hlen]; omega, .inr ?_, fun x hx => ?_, fun a => ?_, fun a => ?_⟩
   ·rw [hlen, Nat.pow_succ]; omega
   ·rw [hlen, Nat.add_sub_cancel]
    obtain ⟨k, hk⟩ : ∃ k, l.length = k + 1 := ⟨l.length - 1, by omega⟩
    rcases i3 with h1 | h1
    ·rw [h1]; omega
    ·rw [hk] at h1 ⊢
     rw [Nat.add_sub_cancel] at h1
     rw [Nat.pow_succ]; omega
   ·rcases List.mem_append.1 hx with h | h
    ·exact i4 x h
    ·obtain rfl := List.mem_singleton.1 h; omega
   ·rw [ZwA, i5, hlen]
    show (a * 10 ^ l.length + u / 10) * 10 + (((48 + u % 10 : Nat) : Int) - 48).toNat = _
    have : (((48 + u % 10 : Nat) : Int) - 48).toNat = u % 10 := by omega
    rw [this, Nat.pow_succ, ← Nat.mul_assoc, Nat.add_mul]
    omega
   ·rw [Zmy, ZsV, i6, hlen]
    show Lib.decFrom _ (u8s [((48 + u % 10 : Nat) : Int)]) = _
    rw [Zqf _ (by omega), Nat.pow_succ, ← Nat.mul_assoc, Nat.add_mul]
    congr 1
    omega
theorem ZjB {u : Nat} (h : u < 10 ^ 20) : Zr4 u (ZeO 20 u) := ZiE 20 u (by decide) h
theorem ZhP {u : Nat} {l : List Int} (h : Zr4 u l) (k : Nat) (hk : 0 < k) : l.length ≤ k ↔ u < 10 ^ k := by
 obtain ⟨h1, h2, h3, _⟩ := h
 constructor
 ·intro hl
  exact Nat.lt_of_lt_of_le h1 (Nat.pow_le_pow_right (by decide) hl)
 ·intro hu
  rcases h3 with h3 | h3
  ·omega
  ·rcases Nat.lt_or_ge k l.length with hl | hl
   ·have := Nat.pow_le_pow_right (n := 10) (by decide) (show k ≤ l.length - 1 by omega)
    omega
   ·exact hl
theorem ZkS {u : Nat} {l : List Int} (h : Zr4 u l) : ∃ x r, l = x :: r ∧ 48 ≤ x ∧ x ≤ 57 := by
 cases l with
 | nil => have := h.2.1; simp at this
 | cons x r => exact ⟨x, r, rfl, h.2.2.2.1 x List.mem_cons_self⟩
theorem Zjb {n : Int} (h0 : -9223372036854775808 ≤ n) (h1 : n ≤ 9223372036854775807) : Zbf (Zd n) = n := by
 unfold Zd
 by_cases hn : n < 0
 ·rw [if_pos hn]
  have hd := ZjB (u := n.natAbs) (by omega)
  show (if (45 : Int) = 45 then -(ZjO 0 (ZeO 20 n.natAbs) : Int) else (ZjO 0 (45 :: ZeO 20 n.natAbs) : Int)) = n
  rw [if_pos rfl, hd.2.2.2.2.1 0]
  omega
 ·rw [if_neg hn]
  have hd := ZjB (u := n.toNat) (by omega)
  obtain ⟨x, r, e, hx⟩ := ZkS hd
  have h5 := hd.2.2.2.2.1 0
  rw [e] at h5 ⊢
  show (if x = 45 then _ else (ZjO 0 (x :: r) : Int)) = n
  rw [if_neg (by omega), h5]
  omega
theorem Zqg {u : Nat} {l : List Int} (h : Zr4 u l) : Z1 l = true := by
 unfold Z1
 rw [List.all_eq_true]
 intro x hx
 have := h.2.2.2.1 x hx
 simp only [Bool.and_eq_true, decide_eq_true_eq]
 omega
theorem ZgJ (n : Int) (h0 : -9223372036854775808 ≤ n) (h1 : n ≤ 9223372036854775807) : Z1 (Zd n) = true := by
 unfold Zd
 by_cases hn : n < 0
 ·rw [if_pos hn]; exact Zc4.2 ⟨by omega, Zqg (ZjB (by omega))⟩
 ·rw [if_neg hn]; exact Zqg (ZjB (by omega))
theorem ZoY : ∀ {a b : List Int}, Z1 a = true → Z1 b = true → u8s a = u8s b → a = b
 | [], [], _, _, _ => rfl
 | [], _ :: _, _, _, h => by simp [u8s] at h
 | _ :: _, [], _, _, h => by simp [u8s] at h
 | x :: a, y :: b, h1, h2, h => by
  obtain ⟨⟨q0, q1⟩, q2⟩ := Zc4.1 h1
  obtain ⟨⟨r0, r1⟩, r2⟩ := Zc4.1 h2
  simp only [u8s, List.map_cons, List.cons.injEq] at h
  have e := congrArg UInt8.toNat h.1
  rw [UInt8.toNat_ofNat', UInt8.toNat_ofNat'] at e
  have : x = y := by omega
  rw [this, ZoY q2 r2 h.2]
theorem ZxF {n : Int} (h0 : -9223372036854775808 ≤ n) (h1 : n ≤ 9223372036854775807) : u8s (Zd n) = Lib.itoa n := by
 have := congrArg (fun x : ByteArray => x.data.toList) (ZoW h0 h1)
 simpa [Zb0] using this
def Zkr : List Int → List Int
 | [] => []
 | x :: l => if x = 45 then l else x :: l
theorem ZmZ (n : Int) (h0 : -9223372036854775808 ≤ n) (h1 : n ≤ 9223372036854775807) : Zkr (Zd n) = ZeO 20 n.natAbs := by
 unfold Zd
 by_cases hn : n < 0
 ·rw [if_pos hn]; rfl
 ·rw [if_neg hn]
  have e : n.toNat = n.natAbs := by omega
  obtain ⟨x, r, e2, hx⟩ := ZkS (ZjB (u := n.toNat) (by omega))
  rw [e2]
  show (if x = 45 then r else x :: r) = _
  rw [if_neg (by omega), ← e2, e]
theorem Zv9 {n : Int} (h0 : -10000000000000 < n) (h1 : n < 10000000000000) : Lib.atoiAll (u8s (Zd n)) = .ok n := by
 have hd := ZjB (u := n.natAbs) (by omega)
 have hl := (ZhP hd 13 (by decide)).2 (by omega)
 have hu : ∀ l : List Int, (u8s l).length = l.length := fun l => List.length_map ..
 unfold Zd
 by_cases hn : n < 0
 ·rw [if_pos hn, Lib.atoiAll_short _ (by rw [hu]; simp; omega)]
  have h6 := hd.2.2.2.2.2 0
  have hne : (u8s (ZeO 20 n.natAbs)).isEmpty = false := by
   obtain ⟨x, r, e2, _⟩ := ZkS hd
   rw [e2]; rfl
  have : Lib.atoi (u8s (45 :: ZeO 20 n.natAbs)) = (Lib.decNat (u8s (ZeO 20 n.natAbs))).map fun (m : Nat) => -(m : Int) := rfl
  rw [this]
  unfold Lib.decNat
  rw [hne, h6]
  show Lib.NumEnd.ok (-((0 * _ + n.natAbs : Nat) : Int)) = _
  congr 1; omega
 ·have e : n.toNat = n.natAbs := by omega
  rw [if_neg hn, e, Lib.atoiAll_short _ (by rw [hu]; omega)]
  have h6 := hd.2.2.2.2.2 0
  obtain ⟨x, r, e2, hx⟩ := ZkS hd
  rw [e2] at h6 ⊢
  have hb : (UInt8.ofNat x.toNat).toNat = x.toNat := by rw [UInt8.toNat_ofNat']; omega
  have n45 : (UInt8.ofNat x.toNat == 45) = false := beq_eq_false_iff_ne.2 fun h => by have := congrArg UInt8.toNat h; rw [hb] at this; have h45 : (45 : UInt8).toNat = 45 := rfl; omega
  have n43 : (UInt8.ofNat x.toNat == 43) = false := beq_eq_false_iff_ne.2 fun h => by have := congrArg UInt8.toNat h; rw [hb] at this; have h43 : (43 : UInt8).toNat = 43 := rfl; omega
  have : Lib.atoi (u8s (x :: r)) = (Lib.decNat (u8s (x :: r))).map fun (m : Nat) => (m : Int) := by
   show (if (UInt8.ofNat x.toNat == 45) = true then _ else if (UInt8.ofNat x.toNat == 43) = true then _ else _) = _
   rw [n45, n43]; rfl
  rw [this]
  unfold Lib.decNat
  show Lib.NumEnd.ofOption (Option.map _ (if (u8s (x :: r)).isEmpty = true then none else _)) = _
  rw [if_neg (by simp [u8s]), h6]
  show Lib.NumEnd.ok (((0 * _ + n.natAbs : Nat) : Int)) = _
  congr 1; omega
theorem ZjC {M : List Int} : Zbq M = true ↔ ∃ n : Int, -10000000000000 < n ∧ n < 10000000000000 ∧ M = Zd n := by
 unfold Zbq
 simp only [Bool.and_eq_true, decide_eq_true_eq]
 constructor
 ·rintro ⟨h1, h2, h3⟩; exact ⟨_, h2, h3, h1⟩
 ·rintro ⟨n, h1, h2, rfl⟩
  rw [Zjb (by omega) (by omega)]
  exact ⟨rfl, h1, h2⟩
theorem trim_neg {M : List Int} (hb : Z1 M = true) : Lib.trimPrefix (u8s M) [45] = u8s (match M with | [] => [] | x :: l => if x = 45 then l else x :: l) := by
  cases M with
  | nil => rfl
  | cons x l =>
    obtain ⟨⟨h0, h1⟩, h2⟩ := Zc4.1 hb
    have h := Zxl (b := 45) h0 h1
    have e : Lib.trimPrefix (u8s (x :: l)) [45] = if (UInt8.ofNat x.toNat == 45) = true then u8s l else u8s (x :: l) := by
      unfold Lib.trimPrefix Lib.hasPrefix
      show (if ([45].isPrefixOf (UInt8.ofNat x.toNat :: u8s l)) = true then _ else _) = _
      have : ([45] : List UInt8).isPrefixOf (UInt8.ofNat x.toNat :: u8s l) = (UInt8.ofNat x.toNat == 45) := by
        show ((45 : UInt8) == UInt8.ofNat x.toNat && true) = _
        rw [Bool.and_true, BEq.comm]
      rw [this]; rfl
    rw [e, h]
    by_cases hx : x = 45
    · rw [if_pos (by rw [decide_eq_true_eq]; exact hx)]; simp only [hx, if_true]
    · rw [if_neg (by rw [decide_eq_true_eq]; exact hx)]; simp only [hx, if_false]
theorem bytesWorld_below' (w : World) (t : TypeId) (x : _) : Below w.heap.size w (Lib.bytesWorld w t x) := Lib.bytesWorld_below _ _ _
theorem below_atoi {w w' : World} {t : TypeId} (h : w' = w ∨ ∃ x, w' = Lib.bytesWorld w t x) : Below w.heap.size w w' := by
  rcases h with rfl | ⟨x, rfl⟩
  · exact Below.refl _ _
  · exact Lib.bytesWorld_below _ _ _
theorem tabErr {w : World} (h : TabW w) : ∃ ev, w.cell? ⟨6, 0, none⟩ = some ev ∧ (ev = .nilIface ∨ ∃ te pe, ev = .iface te pe) := by
  obtain ⟨C, t, fr, hw, y, hy, hC⟩ := h (6, []) (by simp [tabs])
  exact ⟨y, by rw [Lib.cell_of_heap hw]; exact hy, hC⟩
theorem number_bad (x : ByteArray) (w : World) (h : (Lib.trimPrefix x.data.toList [45]).length < 1 ∨ 13 < (Lib.trimPrefix x.data.toList [45]).length) : Calls Tryd.prog 68 #[.string x] w fun e w' => e = .returned (.tuple #[.int .i64 0, .bool false]) ∧ Below w.heap.size w w' := by
  have hsz : (⟨(Lib.trimPrefix x.data.toList [45]).toArray⟩ : ByteArray).size = (Lib.trimPrefix x.data.toList [45]).length := by simp [ByteArray.size]
  generalize hd : Lib.trimPrefix x.data.toList [45] = d at *
  go_enter Tryd.func68, Tryd.ntmps68
  go_wp2_with fail
  refine (Any.strings_TrimPrefix lays101 _ _ _).mono ?_
  rintro e w1 ⟨rfl, rfl⟩
  rw [show (⟨#[45]⟩ : ByteArray).data.toList = [45] from rfl, hd]
  go_wp2_with fail
  all_goals (first | (go_ret; exact ⟨rfl, Below.refl _ _⟩) | (go_ret2; exact ⟨rfl, Below.refl _ _⟩) | (go_ret3; exact ⟨rfl, Below.refl _ _⟩))
theorem number_syn (x : ByteArray) (w : World) (ht : TabW w) (h0 : 1 ≤ (Lib.trimPrefix x.data.toList [45]).length) (h1 : (Lib.trimPrefix x.data.toList [45]).length ≤ 13) (hx : x.size ≤ 100) (hs1 : ∀ n, Lib.atoiAll x.data.toList ≠ .ok n) (hs2 : Lib.atoiAll x.data.toList ≠ .range) : Calls Tryd.prog 68 #[.string x] w fun e w' => e = .returned (.tuple #[.int .i64 0, .bool false]) ∧ Below w.heap.size w w' := by
  have hsz : (⟨(Lib.trimPrefix x.data.toList [45]).toArray⟩ : ByteArray).size = (Lib.trimPrefix x.data.toList [45]).length := by simp [ByteArray.size]
  obtain ⟨ev, hv, hev⟩ := tabErr ht
  generalize hd : Lib.trimPrefix x.data.toList [45] = d at *
  have h0' : ¬ ((d.length : Int) < 1) := by omega
  have h1' : ¬ (13 < (d.length : Int)) := by omega
  go_enter Tryd.func68, Tryd.ntmps68
  go_wp2_with fail
  refine (Any.strings_TrimPrefix lays101 _ _ _).mono ?_
  rintro e w1 ⟨rfl, rfl⟩
  rw [show (⟨#[45]⟩ : ByteArray).data.toList = [45] from rfl, hd]
  go_wp2_with fail
  all_goals first | (exfalso; omega) | skip
  all_goals (refine (Any.strconv_Atoi_syntax laysC172 x (by omega) (by cases hq : Lib.atoiAll x.data.toList with | ok n => exact absurd hq (hs1 n) | range => exact absurd hq hs2 | _ => rfl) ev _ hv hev).mono ?_)
  all_goals (rintro e w2 ⟨N, rfl, q1, q2, q3⟩)
  all_goals (go_wp2_with fail)
  all_goals (first | (go_ret; exact ⟨rfl, q3⟩) | (go_ret2; exact ⟨rfl, q3⟩) | (go_ret3; exact ⟨rfl, q3⟩))
theorem number_ok (x : ByteArray) (w : World) (ht : TabW w) (h0 : 1 ≤ (Lib.trimPrefix x.data.toList [45]).length) (h1 : (Lib.trimPrefix x.data.toList [45]).length ≤ 13) (hx : x.size ≤ 100) (n : Int) (hs : Lib.atoiAll x.data.toList = .ok n) (he : (⟨(Lib.itoa n).toArray⟩ : ByteArray) = x) : Calls Tryd.prog 68 #[.string x] w fun e w' => e = .returned (.tuple #[.int .i64 n, .bool true]) ∧ Below w.heap.size w w' := by
  have hsz : (⟨(Lib.trimPrefix x.data.toList [45]).toArray⟩ : ByteArray).size = (Lib.trimPrefix x.data.toList [45]).length := by simp [ByteArray.size]
  obtain ⟨b0, b1⟩ := Lib.atoiAll_bounds hs
  generalize hd : Lib.trimPrefix x.data.toList [45] = d at *
  have h0' : ¬ ((d.length : Int) < 1) := by omega
  have h1' : ¬ (13 < (d.length : Int)) := by omega
  have hq : ((⟨(Lib.itoa n).toArray⟩ : ByteArray).toList == x.toList) = true := by rw [he]; exact beq_self_eq_true _
  go_enter Tryd.func68, Tryd.ntmps68
  go_wp2_with fail
  refine (Any.strings_TrimPrefix lays101 _ _ _).mono ?_
  rintro e w1 ⟨rfl, rfl⟩
  rw [show (⟨#[45]⟩ : ByteArray).data.toList = [45] from rfl, hd]
  go_wp2_with fail
  all_goals first | (exfalso; omega) | skip
  all_goals (refine (Any.strconv_Atoi_ok laysC172 x (by omega) n hs _).mono ?_)
  all_goals (rintro e w2 ⟨rfl, q3⟩; have q3 := below_atoi q3)
  all_goals (go_wp2_with fail)
  all_goals (refine (Any.strconv_Itoa lays171 n b0 b1 _ (tabItoa (ht.below q3))).mono ?_; rintro e w3 ⟨rfl, q4⟩; have q4 := ZkQ q4; have q5 := q3.trans (q4.mono q3.size))
  all_goals (go_wp2_with fail)
  all_goals (first | (go_ret; exact ⟨rfl, q5⟩) | (go_ret2; exact ⟨rfl, q5⟩) | (go_ret3; exact ⟨rfl, q5⟩))
theorem number_no (x : ByteArray) (w : World) (ht : TabW w) (h0 : 1 ≤ (Lib.trimPrefix x.data.toList [45]).length) (h1 : (Lib.trimPrefix x.data.toList [45]).length ≤ 13) (hx : x.size ≤ 100) (n : Int) (hs : Lib.atoiAll x.data.toList = .ok n) (he : (⟨(Lib.itoa n).toArray⟩ : ByteArray) ≠ x) : Calls Tryd.prog 68 #[.string x] w fun e w' => e = .returned (.tuple #[.int .i64 0, .bool false]) ∧ Below w.heap.size w w' := by
  have hsz : (⟨(Lib.trimPrefix x.data.toList [45]).toArray⟩ : ByteArray).size = (Lib.trimPrefix x.data.toList [45]).length := by simp [ByteArray.size]
  obtain ⟨b0, b1⟩ := Lib.atoiAll_bounds hs
  generalize hd : Lib.trimPrefix x.data.toList [45] = d at *
  have h0' : ¬ ((d.length : Int) < 1) := by omega
  have h1' : ¬ (13 < (d.length : Int)) := by omega
  have hq : (Lib.itoa n == x.toList) = false := beq_eq_false_iff_ne.2 fun h => he (ZlN (by rw [← Lib.toList_data x, ← h]))
  go_enter Tryd.func68, Tryd.ntmps68
  go_wp2_with fail
  refine (Any.strings_TrimPrefix lays101 _ _ _).mono ?_
  rintro e w1 ⟨rfl, rfl⟩
  rw [show (⟨#[45]⟩ : ByteArray).data.toList = [45] from rfl, hd]
  go_wp2_with fail
  all_goals first | (exfalso; omega) | skip
  all_goals (refine (Any.strconv_Atoi_ok laysC172 x (by omega) n hs _).mono ?_)
  all_goals (rintro e w2 ⟨rfl, q3⟩; have q3 := below_atoi q3)
  all_goals (go_wp2_with fail)
  all_goals (refine (Any.strconv_Itoa lays171 n b0 b1 _ (tabItoa (ht.below q3))).mono ?_; rintro e w3 ⟨rfl, q4⟩; have q4 := ZkQ q4; have q5 := q3.trans (q4.mono q3.size))
  all_goals (go_wp2_with fail)
  all_goals (first | (go_ret; exact ⟨rfl, q5⟩) | (go_ret2; exact ⟨rfl, q5⟩) | (go_ret3; exact ⟨rfl, q5⟩))
theorem trim_un {M : List Int} (hb : Z1 M = true) : Lib.trimPrefix (u8s M) [45] = u8s (Zkr M) := by
  rw [trim_neg hb]
  cases M <;> rfl
theorem num_run {M : List Int} (hb : Z1 M = true) (hl : M.length ≤ 1000000) (w : World) (ht : TabW w) : Calls Tryd.prog 68 #[.string (Zb M)] w fun e w' => e = .returned (if Zbq M = true then .tuple #[.int .i64 (Zbf M), .bool true] else .tuple #[.int .i64 0, .bool false]) ∧ Below w.heap.size w w' := by
  have hu : ∀ l : List Int, (u8s l).length = l.length := fun l => List.length_map ..
  have htr : (Lib.trimPrefix (Zb M).data.toList [45]).length = (Zkr M).length := by rw [Zb0, trim_un hb, hu]
  have hun : M.length ≤ (Zkr M).length + 1 := by
    cases M with
    | nil => simp
    | cons x l =>
      show l.length + 1 ≤ (if x = 45 then l else x :: l).length + 1
      split <;> simp
  by_cases hbad : (Zkr M).length < 1 ∨ 13 < (Zkr M).length
  · have hno : ¬ Zbq M = true := fun h => by
      obtain ⟨n, n1, n2, rfl⟩ := ZjC.1 h
      have hd := ZjB (u := n.natAbs) (by omega)
      rw [ZmZ n (by omega) (by omega)] at hbad
      have := (ZhP hd 13 (by decide)).2 (by omega)
      have := hd.2.1
      omega
    rw [if_neg hno]
    exact number_bad _ w (by rw [htr]; exact hbad)
  · have hsz : (Zb M).size ≤ 100 := by rw [ZjA]; omega
    have g0 : 1 ≤ (Lib.trimPrefix (Zb M).data.toList [45]).length := by rw [htr]; omega
    have g1 : (Lib.trimPrefix (Zb M).data.toList [45]).length ≤ 13 := by rw [htr]; omega
    by_cases hnum : Zbq M = true
    · rw [if_pos hnum]
      obtain ⟨n, n1, n2, rfl⟩ := ZjC.1 hnum
      rw [Zjb (by omega) (by omega)]
      exact number_ok _ w ht g0 g1 hsz n (by rw [Zb0]; exact Zv9 n1 n2) (ZoW (by omega) (by omega)).symm
    · rw [if_neg hnum]
      rcases ha : Lib.atoiAll (Zb M).data.toList with n | _ | _
      ·
        refine number_no _ w ht g0 g1 hsz n ha fun he => hnum ?_
        obtain ⟨b0, b1⟩ := Lib.atoiAll_bounds ha
        have e1 : u8s M = u8s (Zd n) := by
          have := congrArg (fun x : ByteArray => x.data.toList) he
          rw [Zb0] at this
          rw [ZxF b0 b1]
          exact this.symm
        have e2 := ZoY hb (ZgJ n b0 b1) e1
        subst e2
        have hd := ZjB (u := n.natAbs) (by omega)
        rw [ZmZ n b0 b1] at hbad
        have := (ZhP hd 13 (by decide)).1 (by omega)
        exact ZjC.2 ⟨n, by omega, by omega, rfl⟩
      · exact number_syn _ w ht g0 g1 hsz (fun n e => by rw [ha] at e; cases e) (fun e => by rw [ha] at e; cases e)
      ·
        rw [Lib.atoiAll_short _ (by rw [Zb0, hu]; omega)] at ha
        cases hq : Lib.atoi (Zb M).data.toList <;> rw [hq] at ha <;> cases ha
theorem num_does : Zfj Tryd.prog 68 Zu0 := by
  refine Zko Tryd.func68 rfl (fun args s v s' h => ?_) fun args s v s' h ho => ?_
  · unfold Zu0 at h
    split at h
    · split at h
      · rename_i M s1 h1
        split at h
        · rename_i s2 h2; injection h with h; injection h with q1 q2; subst q2; exact (ZdH h1).1.trans (Zg8 h2).1
        · rename_i s2 h2; injection h with h; injection h with q1 q2; subst q2; exact (ZdH h1).1.trans (Zg8 h2).1
      · cases h
    · cases h
  · unfold Zu0 at h
    split at h
    · rename_i x hl
      have hA : args = #[.string x] := by rw [← Array.toArray_toList (xs := args), hl]
      subst hA
      have hargs : ∀ (ι : Ren) (args' : Array Value), VRs ι #[.string x] args' → args' = #[.string x] := fun ι args' ha => Ze3 ha.1 fun i u z hx1 hy1 => (ha.2 i u z hx1 hy1).eq_of_free (Zay (p := Zbl) (a := #[.string x]) rfl i u hx1)
      split at h
      · rename_i M s1 h1
        obtain ⟨_, e1, e2, e3⟩ := ZdH h1
        split at h
        · rename_i s2 h2
          obtain ⟨_, f1, f2, f3, f4⟩ := Zg8 h2
          injection h with h; injection h with q1 q2; subst q1 q2
          obtain ⟨rfl, hM, hlM⟩ := e3 (Zom f4 ho)
          refine ⟨f1.trans e1, f2.trans e2, rfl, fun ι w args' ha he => ?_⟩
          obtain rfl := hargs ι args' ha
          have := num_run hM hlM w he.tabw
          rw [if_pos (f3 ho)] at this
          exact this
        · rename_i s2 h2
          obtain ⟨_, f1, f2, f3, f4⟩ := Zg8 h2
          injection h with h; injection h with q1 q2; subst q1 q2
          obtain ⟨rfl, hM, hlM⟩ := e3 (Zom f4 ho)
          refine ⟨f1.trans e1, f2.trans e2, rfl, fun ι w args' ha he => ?_⟩
          obtain rfl := hargs ι args' ha
          have := num_run hM hlM w he.tabw
          rw [if_neg (by rw [f3 ho]; simp)] at this
          exact this
      · cases h
    · cases h
end Ev
end Go.Proofs.YtlbbiflodemagaaDoor
/- The runner over this program. -/
namespace Go.Proofs.YtlbbiflodemagaaDoor
open Go.RowKit
namespace Ev

def Zu1 : FuncId → Option Ext := fun f =>
   none

theorem noGo : (Tryd.prog.funcs.toList.all fun fn => !(fn.name == "runtime.NumGoroutine")) = true := by kernel_rfl
theorem mixed : Tryd.prog.follows .mixedOrders = true := by kernel_rfl
def Zr5 (sp : FuncId → Option (List Value → Option Value)) (hp : FuncId → Option (Array Value → St → Out)) : FuncId → Option Ext := fun f => match Zu1 f with
  | some e => some e
  | none => match sp f with
    | some g => some (.fn g)
    | none => match hp f with
      | some g => some (.hp g)
      | none => none
def Zoo (sp : FuncId → Option (List Value → Option Value)) : Prop := ∀ (f : Nat) (g : List Value → Option Value), sp f = some g → (∃ (fn : Func) (c : Code), Tryd.prog.funcs[f]? = some fn ∧ fn.body = some c) ∧
  ∀ (args : Array Value) (v : Value), Zw Zbl args.toList = true → g args.toList = some v → ∀ w, TabW w → Calls Tryd.prog f args w fun e w' => e = .returned v ∧ Below w.heap.size w w'
def Zr6 (hp : FuncId → Option (Array Value → St → Out)) : Prop := ∀ (f : Nat) (g : Array Value → St → Out), hp f = some g → Zfj Tryd.prog f g
theorem Zks {f : Nat} {e : Ext} (he : Zu1 f = some e) : (∀ (kk : IntKind) (c : Nat), e = .at kk c → ∃ fn : Func, Tryd.prog.funcs[f]? = some fn ∧ fn.body.isNone = true ∧ Extern.findNext fn = none ∧
    (c = 0 ∧ Extern.find fn = some (Extern.Atomic.loadT (.int kk)) ∨ c = 1 ∧ Extern.find fn = some Extern.Atomic.storeT ∨
     c = 2 ∧ Extern.find fn = some (Extern.Atomic.update (Op.intArith .add) kk true) ∨ c = 3 ∧ Extern.find fn = some (Extern.Atomic.casT (.int kk)))) ∧
    (∀ n : Nat, e = .mark n → ∃ fn : Func, Tryd.prog.funcs[f]? = some fn ∧ fn.body.isNone = true ∧ Extern.findNext fn = none ∧
    (n = 0 ∧ (∃ m : Mark, Extern.find fn = some (fun _ => do mark m; pure Extern.Race.none_)) ∨ n = 1 ∧ ∃ m : Addr → Mark, Extern.find fn = some (Extern.Race.marked m))) ∧ (∀ g, e ≠ .fn g) ∧ (∀ g, e ≠ .hp g) ∧ (∀ S, e ≠ .tc S) := by
  unfold Zu1 at he
  cases he
theorem ZgK {sp : FuncId → Option (List Value → Option Value)} {hp : FuncId → Option (Array Value → St → Out)} {f : Nat} {e : Ext} (h : Zr5 sp hp f = some e) : Zu1 f = some e ∨ (∃ g, sp f = some g ∧ e = .fn g) ∨ ∃ g, hp f = some g ∧ e = .hp g := by
  unfold Zr5 at h
  split at h
  · rename_i e' he'
    injection h with h; subst h
    exact .inl he'
  · split at h
    · rename_i g hg
      injection h with h; subst h
      exact .inr (.inl ⟨g, hg, rfl⟩)
    · split at h
      · rename_i g hg
        injection h with h; subst h
        exact .inr (.inr ⟨g, hg, rfl⟩)
      · cases h
theorem fitH {sp : FuncId → Option (List Value → Option Value)} {hp : FuncId → Option (Array Value → St → Out)} (hsp : Zoo sp) (hhp : Zr6 hp) : Fit Tryd.prog (Zr5 sp hp) := by
  refine ⟨mixed, fun f fn hf => ?_, fun f g hg => ?_, fun f g hg => ?_, fun f S hS => ?_, fun f n hn => ?_, fun f kk e he => ?_⟩
  · have := List.all_eq_true.1 noGo fn (by
      obtain ⟨h, rfl⟩ := Array.getElem?_eq_some_iff.1 hf
      simp)
    simpa using this
  · rcases ZgK hg with h | ⟨g', h, hx⟩ | ⟨g', h, hx⟩
    · exact ((Zks h).2.2.1 g rfl).elim
    · injection hx with hx; subst hx; exact hsp f g h
    · cases hx
  · rcases ZgK hg with h | ⟨g', h, hx⟩ | ⟨g', h, hx⟩
    · exact ((Zks h).2.2.2.1 g rfl).elim
    · cases hx
    · injection hx with hx; subst hx; exact hhp f g h
  · rcases ZgK hS with h | ⟨g', h, hx⟩ | ⟨g', h, hx⟩
    · exact ((Zks h).2.2.2.2 S rfl).elim
    · cases hx
    · cases hx
  · rcases ZgK hn with h | ⟨g', h, hx⟩ | ⟨g', h, hx⟩
    · exact (Zks h).2.1 n rfl
    · cases hx
    · cases hx
  · rcases ZgK he with h | ⟨g', h, hx⟩ | ⟨g', h, hx⟩
    · exact (Zks h).1 kk e rfl
    · cases hx
    · cases hx
def Zu2 : FuncId → Option (List Value → Option Value) := fun _ => none
theorem ZoZ : Zoo Zu2 := fun f g h => by cases h
theorem ZgL {β : Type} {b : Bool} {x e : β} {y : Option β} (h : (bif b then some x else y) = some e) : (b = true ∧ x = e) ∨ y = some e := by
  cases b with
  | true => injection h with h; exact .inl ⟨rfl, h⟩
  | false => exact .inr h
noncomputable def hp0 : FuncId → Option (Array Value → St → Out) := fun f =>
  bif Nat.beq f 39 then some Zof else
  bif Nat.beq f 85 then some (ZlM Tryd.prog Extern.BytealgIndexByte.indexByte) else
  bif Nat.beq f 81 then some (ZlM Tryd.prog Extern.BytealgCount.count) else
  bif Nat.beq f 17 then some ZqH else
  bif Nat.beq f 19 then some ZqI else
  bif Nat.beq f 26 then some Zm0 else
  bif Nat.beq f 23 then some ZqJ else
  bif Nat.beq f 58 then some Zuz else
  bif Nat.beq f 60 then some Zol else
  bif Nat.beq f 68 then some Zu0 else
   none
theorem ZvA : Zr6 hp0 := by
  intro f g h
  unfold hp0 at h
  rcases ZgL h with ⟨hb, rfl⟩ | h
  · obtain rfl := Nat.eq_of_beq_eq_true hb; exact Zv4 Tryd.func39 (by kernel_rfl) (by kernel_rfl) (by kernel_rfl) (by kernel_rfl)
  rcases ZgL h with ⟨hb, rfl⟩ | h
  · obtain rfl := Nat.eq_of_beq_eq_true hb; exact Zqa Tryd.func85 (by kernel_rfl) (by kernel_rfl) (by kernel_rfl) (by kernel_rfl)
  rcases ZgL h with ⟨hb, rfl⟩ | h
  · obtain rfl := Nat.eq_of_beq_eq_true hb; exact Zqa Tryd.func81 (by kernel_rfl) (by kernel_rfl) (by kernel_rfl) (by kernel_rfl)
  rcases ZgL h with ⟨hb, rfl⟩ | h
  · obtain rfl := Nat.eq_of_beq_eq_true hb; exact itoa_does
  rcases ZgL h with ⟨hb, rfl⟩ | h
  · obtain rfl := Nat.eq_of_beq_eq_true hb; exact join_does
  rcases ZgL h with ⟨hb, rfl⟩ | h
  · obtain rfl := Nat.eq_of_beq_eq_true hb; exact repeat_does
  rcases ZgL h with ⟨hb, rfl⟩ | h
  · obtain rfl := Nat.eq_of_beq_eq_true hb; exact Zv6
  rcases ZgL h with ⟨hb, rfl⟩ | h
  · obtain rfl := Nat.eq_of_beq_eq_true hb; exact cut_does
  rcases ZgL h with ⟨hb, rfl⟩ | h
  · obtain rfl := Nat.eq_of_beq_eq_true hb; exact split_does
  rcases ZgL h with ⟨hb, rfl⟩ | h
  · obtain rfl := Nat.eq_of_beq_eq_true hb; exact num_does
  cases h
noncomputable def Zu3 : FuncId → Option Ext := Zr5 Zu2 hp0
theorem ZwB : Fit Tryd.prog Zu3 := fitH ZoZ ZvA
noncomputable def hp1 : FuncId → Option (Array Value → St → Out) := fun f =>
  bif Nat.beq f 30 then some (ZiD Tryd.prog Zu3 20000 30) else
   hp0 f
theorem Zyl : Zr6 hp1 := by
  intro f g h
  unfold hp1 at h
  rcases ZgL h with ⟨hb, rfl⟩ | h
  · obtain rfl := Nat.eq_of_beq_eq_true hb; exact ZkP ZwB Tryd.func30 rfl
  exact ZvA f g h
noncomputable def Zr7 (sp : FuncId → Option (List Value → Option Value)) : FuncId → Option Ext := Zr5 sp hp1
theorem Zu4 {sp : FuncId → Option (List Value → Option Value)} (hsp : Zoo sp) : Fit Tryd.prog (Zr7 sp) := fitH hsp Zyl
noncomputable def ext : FuncId → Option Ext := Zr7 Zu2
theorem fit : Fit Tryd.prog ext := Zu4 ZoZ
def ZlO (e : FuncId → Option Ext) (tc : FuncId → Bool) : FuncId → Option Ext := fun f => bif tc f then some (.tc (Z3 Tryd.prog f)) else e f
theorem Zr8 {e : FuncId → Option Ext} {tc : FuncId → Bool} (F : Fit Tryd.prog e) (hb : ∀ f, tc f = true → ∃ (fn : Func) (c : Code), Tryd.prog.funcs[f]? = some fn ∧ fn.body = some c) : Fit Tryd.prog (ZlO e tc) := by
  have cs : ∀ {f : Nat} {x : Ext}, ZlO e tc f = some x → (tc f = true ∧ x = .tc (Z3 Tryd.prog f)) ∨ e f = some x := fun {f x} h => by
    unfold ZlO at h
    cases ht : tc f with
    | true => rw [ht] at h; injection h with h; exact .inl ⟨rfl, h.symm⟩
    | false => rw [ht] at h; exact .inr h
  refine ⟨F.mixed, F.go, fun f g hg => ?_, fun f g hg => ?_, fun f S hS => ?_, fun f n hn => ?_, fun f kk x hx => ?_⟩
  · rcases cs hg with ⟨_, h⟩ | h
    · cases h
    · exact F.fn f g h
  · rcases cs hg with ⟨_, h⟩ | h
    · cases h
    · exact F.hp f g h
  · rcases cs hS with ⟨ht, h⟩ | h
    · injection h with h; subst h; exact ⟨hb f ht, fun _ _ _ _ _ _ h => h⟩
    · exact F.tc f S h
  · rcases cs hn with ⟨_, h⟩ | h
    · cases h
    · exact F.mark f n h
  · rcases cs hx with ⟨_, h⟩ | h
    · cases h
    · exact F.ext f kk x h
def out (r : Out) : Option Value := match r with
  | some (v, s) => match s.ob with
    | [] => bif Zbl v && Nat.ble s.n 1000000000 then some v else none
    | _ => none
  | none => none
end Ev
end Go.Proofs.YtlbbiflodemagaaDoor
/- Arguments that hold no address: which cells they have. -/
namespace Go.Proofs.YtlbbiflodemagaaDoor
open Go.ChangeShapes Go.WideShapes Go.ChangeAt Go.RowKit
namespace Ev
section
variable {P : Program} {w : World} {r : Reach} {base : Nat}
theorem Zu5 {u : TypeId} {c : Value} (hu : P.underlying u = some .string) (h : Cell.okWide P w r base u c) : ∃ b, c = .string b := by
 unfold Cell.okWide Cell.ok at h
 rw [hu] at h
 cases c <;> simp at h
 exact ⟨_, rfl⟩
theorem Zu6 {t : TypeId} {v : Value} (hu : (match P.underlying t with | some (.struct _) | some (.array _ _) => true | _ => false) = false) (h : Value.okWide P w r base t v) : Cell.okWide P w r base t v := by
 unfold Value.okWide at h
 split at h
 ·rename_i h1; rw [h1] at hu; cases hu
 ·rename_i h1; rw [h1] at hu; cases hu
 ·exact h
theorem okWide_slice {u e : TypeId} {c : Value} (hu : P.underlying u = some (.slice e)) (h : Cell.okWide P w r base u c) : c.oneCell' = true := by
 unfold Cell.okWide Cell.ok at h
 rw [hu] at h
 cases c <;> first | rfl | (simp at h)
def Zxm : Nat → List (Nat × Bool) → List (Option Bool)
 | _, [] => []
 | n, (i, b) :: l => List.replicate (i - n) none ++ (some b :: Zxm (i + 1) l)
def Zxn : Nat → List (Nat × Int) → List (Option Int)
 | _, [] => []
 | n, (i, b) :: l => List.replicate (i - n) none ++ (some b :: Zxn (i + 1) l)
def ZqK {α : Type} : Nat → List (Nat × α) → List (Option α)
 | _, [] => []
 | n, (i, b) :: l => List.replicate (i - n) none ++ (some b :: ZqK (i + 1) l)
def Zp (b : List (Nat × Bool)) (v : List (Nat × Int)) (x : List (Nat × Nat)) (l : List (Nat × List Cell)) (w : List (Nat × Za5)) : Orc := ⟨Zxm 0 b, Zxn 0 v, ZqK 0 x, ZqK 0 l, ZqK 0 w⟩
theorem Z6 : ∀ p ∈ ([] : List (Bool × Bool)), p.1 = p.2 := by simp
theorem Za {a b : Bool} {l : List (Bool × Bool)} (h : a = b) (hl : ∀ q ∈ l, q.1 = q.2) : ∀ q ∈ (a, b) :: l, q.1 = q.2 := by
 intro q hq
 rcases List.mem_cons.1 hq with rfl | hq
 ·exact h
 ·exact hl q hq
theorem Zym {x : Int} (h : -9223372036854775808 ≤ x ∧ x < 9223372036854775808) : IntKind.i64.wrap x = x := by
 rw [IntKind.wrap_i64]
 omega
theorem Zgc {b : Int} (h : 0 ≤ b) : b = Int.ofNat b.toNat := (Int.toNat_of_nonneg h).symm
theorem ZvB {n m : Nat} (h : n < m) : Nat.blt n m = true := Nat.ble_eq_true_of_le h
end
end Ev
end Go.Proofs.YtlbbiflodemagaaDoor
/- How runs of functions with loops are written: what is looked at of a stop, and rows of numbers. -/
namespace Go.Proofs.YtlbbiflodemagaaDoor
open Go.RowKit
namespace Ev
/-! ### Where a loop stands -/
def Zem : List Nat → Code → List Zbk → Code × List Zbk
  | [], .loop a, K => (a, K)
  | 0 :: p, .seq a b, K => Zem p a (.seq b :: K)
  | 1 :: p, .seq _ b, K => Zem p b K
  | 2 :: p, .scope a, K => Zem p a (.scp :: K)
  | 3 :: p, .block i a, K => Zem p a (.blk i :: K)
  | 4 :: p, .cond _ a _, K => Zem p a K
  | 5 :: p, .cond _ _ b, K => Zem p b K
  | (n + 6) :: p, .loop a, K => Zem p a (.rnd n :: K)
  | _, _, K => (.skip, K)
def Zgn (fn : Func) : Code := match fn.body with | some c => c | none => .skip
noncomputable section
def Zan (live : List Nat) (r : Option Stop) : Option (Value × List (Option AObj) × List (Bool × Bool)) :=
  match r with
  | some (.fin u s) => bif Nat.ble s.n 1000000000 then some (u, live.map s.h.get, s.ob) else none
  | _ => none
end
theorem Zna {live : List Nat} {r : Option Stop} {u : Value} {bl : List (Option AObj)} {ob : List (Bool × Bool)} (h : Zan live r = some (u, bl, ob)) : ∃ s, r = some (.fin u s) ∧ live.map s.h.get = bl ∧ s.ob = ob ∧ s.n ≤ far := by
  unfold Zan at h
  split at h
  · rename_i u' s
    obtain ⟨hn, h⟩ := Zo h
    injection h with h
    simp only [Prod.mk.injEq] at h
    obtain ⟨rfl, rfl, rfl⟩ := h
    exact ⟨s, rfl, rfl, rfl, Nat.le_of_ble_eq_true hn⟩
  · cases h
def Zhw (ρ : Nat → Nat) : AObj → AObj → Prop
  | .ro O, .ro O' => O = O'
  | .ro O true, .ro O' true => O = O'
  | .cells c t, .cells c' t' => t = t' ∧ (∃ r, c.map (Zam ρ 1) = c' ++ r) ∧ Zw (ZY 1) c = true
  | .cells c t true, .cells c' t' true => t = t' ∧ c.map (Zam ρ 1) = c' ∧ Zw (ZY 1) c = true
  | _, _ => False
def ZaQ (ρ : Nat → Nat) : List (Option AObj) → List (Option AObj) → Prop
  | _, [] => True
  | some o :: bl, some p :: l => Zhw ρ o p ∧ ZaQ ρ bl l
  | _ :: bl, none :: l => ZaQ ρ bl l
  | _, _ => False
def Zen (ρ : Nat → Nat) : List (Option Value) → List (Nat × Value) → Prop
  | _, [] => True
  | some u :: tv, x :: l => (x.2 = Zam ρ 3 u ∧ ZY 3 u = true) ∧ Zen ρ tv l
  | _, _ => False
theorem Zfo {ρ : Nat → Nat} {h : AH} : ∀ {live : List Nat} {l : List (Option AObj)}, ZaQ ρ (live.map h) l → ∀ j o, lkO l j = some o → ∃ k, live[j]? = some k ∧ match o with
      | .ro O m => h k = some (.ro O m)
      | .cells c t q => ∃ c' r, h k = some (.cells c' t q) ∧ c'.map (Zam ρ 1) = c ++ r ∧ (q = true → r = []) ∧ Zw (ZY 1) c' = true
  | live, [], _, j, o, hj => by simp [lkO] at hj
  | [], x :: l, hb, j, o, hj => by cases x <;> exact hb.elim
  | k :: live, none :: l, hb, j, o, hj => by
    have hb' : ZaQ ρ (live.map h) l := by
      simp only [List.map_cons] at hb
      cases hk : h k <;> rw [hk] at hb <;> exact hb
    cases j with
    | zero => simp [lkO] at hj
    | succ j => obtain ⟨k', q1, q2⟩ := Zfo hb' j o (by simpa [lkO] using hj); exact ⟨k', by simpa using q1, q2⟩
  | k :: live, some p :: l, hb, j, o, hj => by
    simp only [List.map_cons] at hb
    cases hk : h k with
    | none => rw [hk] at hb; exact hb.elim
    | some o1 =>
      rw [hk] at hb
      cases j with
      | zero =>
        have : p = o := by simpa [lkO] using hj
        subst this
        refine ⟨k, rfl, ?_⟩
        have h1 := hb.1
        cases o1 with
        | cells c1 t1 q1 =>
          cases p with
          | cells c2 t2 q2 =>
            cases q1 <;> cases q2
            · simp only [Zhw] at h1; obtain ⟨rfl, ⟨r, hr⟩, hs⟩ := h1; exact ⟨_, r, hk, hr, (fun e => by cases e), hs⟩
            · exact h1.elim
            · exact h1.elim
            · simp only [Zhw] at h1; obtain ⟨rfl, hr, hs⟩ := h1; exact ⟨_, [], hk, by rw [hr, List.append_nil], fun _ => rfl, hs⟩
          | ro O2 m2 => cases q1 <;> cases m2 <;> exact h1.elim
        | ro O1 m1 =>
          cases p with
          | cells c2 t2 q2 => cases m1 <;> cases q2 <;> exact h1.elim
          | ro O2 m2 =>
            cases m1 <;> cases m2
            · obtain rfl : O1 = O2 := h1; exact hk
            · exact h1.elim
            · exact h1.elim
            · obtain rfl : O1 = O2 := h1; exact hk
      | succ j => obtain ⟨k', q1, q2⟩ := Zfo hb.2 j o (by simpa [lkO] using hj); exact ⟨k', by simpa using q1, q2⟩
theorem Zr9 {ρ : Nat → Nat} {T : Tr Value} : ∀ {l : List (Nat × Value)}, Zen ρ ((l.map (·.1)).map T.get) l → ∀ t v, Zax t l = some v → v = Zam ρ 3 ((T.get t).getD undef) ∧ ZY 3 ((T.get t).getD undef) = true
  | [], _, t, v, h => by cases h
  | x :: l, ht, t, v, h => by
    simp only [List.map_cons] at ht
    cases hx : T.get x.1 with
    | none => rw [hx] at ht; exact ht.elim
    | some u =>
      rw [hx] at ht
      unfold Zax at h
      cases hb : Nat.beq x.1 t with
      | true =>
        rw [hb] at h
        injection h with h
        obtain rfl := Nat.eq_of_beq_eq_true hb
        subst h
        rw [hx]
        exact ht.1
      | false => rw [hb] at h; exact Zr9 ht.2 t v h
section
variable {P : Program} {ext : FuncId → Option Ext}
end
/-! ### Rows of numbers -/
theorem wrap_i64 {x : Int} (h : -9223372036854775808 ≤ x ∧ x ≤ 9223372036854775807) : IntKind.i64.wrap x = x := Zym (by omega)
theorem ZxG {x : Int} (h : 0 ≤ x ∧ x ≤ 255) : IntKind.u8.wrap x = x := by
  have e : IntKind.u8.wrap x = x % 256 := by simp [IntKind.wrap, IntKind.bits, IntKind.signed]
  rw [e]; omega
theorem ZC {k o o' n n' c c' : Nat} (h1 : o = o') (h2 : n = n') (h3 : c = c') : Value.slice (some ⟨k, o, none⟩) n c = .slice (some ⟨k, o', none⟩) n' c' := by rw [h1, h2, h3]
theorem Zh {α : Type} {a b : α} {l r : List α} (h : a = b) (t : l = r) : a :: l = b :: r := by rw [h, t]
theorem Zaj {l r : List Value} (h : l = r) : Value.tuple l.toArray = .tuple r.toArray := by rw [h]
/-! ### Rows of bools -/
/-! ### Rows of the caller's -/
end Ev
end Go.Proofs.YtlbbiflodemagaaDoor
/- Calls that are told, from what is known of a function. -/
namespace Go.Proofs.YtlbbiflodemagaaDoor
open Go.RowKit
namespace Ev
section
variable {P : Program} {ext : FuncId → Option Ext}
def preL (κ : List Nat) (n : Nat) (pre : List AObj) : List (Nat × AObj) := κ.zip (pre.map (Zih (kap κ n)))
def Zu7 (κ : List Nat) (n : Nat) (ch : List Nat) (post : List (Option AObj)) : List (Nat × Option AObj) := ch.map fun j => (kap κ n j, (lkO post j).map (Zih (kap κ n)))
def ZkT (m : Nat) : List AObj → Prop
 | [] => True
 | o :: l => ZhL m o = true ∧ ZkT m l
def ZhQ (m : Nat) : List (Option AObj) → Prop
 | [] => True
 | some o :: l => ZhL m o = true ∧ ZhQ m l
 | none :: l => ZhQ m l
theorem Zqh {m : Nat} : ∀ {l : List AObj}, ZkT m l → ∀ o ∈ l, ZhL m o = true
 | x :: l, h, o, ho => by
  rcases List.mem_cons.1 ho with rfl | ho
  ·exact h.1
  ·exact Zqh h.2 o ho
theorem ZkU {m : Nat} : ∀ {l : List (Option AObj)}, ZhQ m l → ∀ o, some o ∈ l → ZhL m o = true
 | some x :: l, h, o, ho => by
  rcases List.mem_cons.1 ho with e | ho
  ·injection e with e; subst e; exact h.1
  ·exact ZkU h.2 o ho
 | none :: l, h, o, ho => by
  rcases List.mem_cons.1 ho with e | ho
  ·cases e
  ·exact ZkU (l := l) h o ho
def ZrA (ch : List Nat) : Nat → List AObj → List (Option AObj) → Prop
 | _, _, [] => True
 | j, o :: l, p :: r => (j ∈ ch ∨ p = some o) ∧ ZrA ch (j + 1) l r
 | j, [], _ :: r => j ∈ ch ∧ ZrA ch (j + 1) [] r
theorem Zpa {ch : List Nat} : ∀ {l : List AObj} {r : List (Option AObj)} {j : Nat}, ZrA ch j l r → ∀ i, i < r.length → j + i ∈ ch ∨ (i < l.length ∧ r[i]? = some l[i]?)
 | o :: l, p :: r, j, h, 0, _ => by
  rcases h.1 with h | h
  ·exact .inl h
  ·exact .inr ⟨by simp, by simp [h]⟩
 | o :: l, p :: r, j, h, i + 1, hi => by
  rcases Zpa h.2 i (by simpa using hi) with q | ⟨q1, q2⟩
  ·exact .inl (by rwa [show j + (i + 1) = j + 1 + i by omega])
  ·exact .inr ⟨by simpa using q1, by simpa using q2⟩
 | [], p :: r, j, h, 0, _ => .inl h.1
 | [], p :: r, j, h, i + 1, hi => by
  rcases Zpa h.2 i (by simpa using hi) with q | ⟨q1, q2⟩
  ·exact .inl (by rwa [show j + (i + 1) = j + 1 + i by omega])
  ·simp at q1
theorem ZrB {α : Type} {k : Nat} {x : α} : ∀ {ks : List Nat} {l : List α} {j : Nat}, ks.Nodup → ks[j]? = some k → l[j]? = some x → Zax k (ks.zip l) = some x
 | a :: ks, b :: l, 0, _, h1, h2 => by
  simp at h1 h2
  subst h1 h2
  simp [Zax]
 | a :: ks, b :: l, j + 1, hn, h1, h2 => by
  have hm : k ∈ ks := List.mem_of_getElem? (by simpa using h1)
  have hne : a ≠ k := fun e => by subst e; exact (List.nodup_cons.1 hn).1 hm
  show Zax k ((a, b) :: ks.zip l) = _
  unfold Zax
  rw [ZgD hne]
  exact ZrB (List.nodup_cons.1 hn).2 (by simpa using h1) (by simpa using h2)
 | [], _, j, _, h1, _ => by simp at h1
 | a :: ks, [], j, _, _, h2 => by simp at h2
theorem ZrC {f : Nat → Nat} {g : Nat → Option AObj} (hf : ∀ i j, f i = f j → i = j) (j : Nat) : ∀ ch : List Nat, Zax (f j) (ch.map fun i => (f i, g i)) = if j ∈ ch then some (g j) else none
 | [] => rfl
 | a :: ch => by
  show Zax (f j) ((f a, g a) :: ch.map fun i => (f i, g i)) = _
  unfold Zax
  by_cases h : a = j
  ·subst h; rw [ZiS rfl]; simp
  ·rw [ZgD (fun e => h (hf _ _ e)), cond_false, ZrC hf j ch]
   simp [show ¬ j = a from fun e => h e.symm]
theorem LSpec.callL {f : FuncId} {A : Array Value} {pre : List AObj} {v : Value} {post : List (Option AObj)} (h : LSpec P f A pre v post) (κ : List Nat) (n : Nat) (ch : List Nat) (hκ : κ.length = pre.length) (hnd : κ.Nodup) (hlt : ∀ k ∈ κ, k < n) (hle : pre.length ≤ post.length) (hch : ∀ j ∈ ch, j < post.length)
  (hA : Zw (ZaM pre.length 3) A.toList = true) (hpre : ZkT pre.length pre) (hv : (ZaM post.length 3 v || ZbL v) = true) (hpost : ZhQ post.length post) (hk : ZrA ch 0 pre post)
  {A' : Array Value} {pre' : List (Nat × AObj)} {v' : Value} {post' : List (Nat × Option AObj)} {dn : Nat} (eA : A' = Zgs (Zam (kap κ n) 3) A) (ev : v' = Zam (kap κ n) 3 v) (edn : pre.length + dn = post.length) (ep : pre' = preL κ n pre) (eq : post' = Zu7 κ n ch post) : Z3 P f A' pre' v' post' n dn := by
 have kl : ∀ j, j < pre.length → κ[j]? = some (kap κ n j) := fun j hj => Zod (by omega)
 have kn : ∀ j, j < pre.length → kap κ n j < n := fun j hj => hlt _ (List.mem_of_getElem? (kl j hj))
 have kg : ∀ j, pre.length ≤ j → kap κ n j = n + (j - pre.length) := fun j hj => by rw [← hκ]; exact Zv1 (by omega)
 have kinj : ∀ i j, kap κ n i = kap κ n j → i = j := fun i j hij => by
  rcases Nat.lt_or_ge i pre.length with h1 | h1 <;> rcases Nat.lt_or_ge j pre.length with h2 | h2
  ·have a := kl i h1
   have b := kl j h2
   rw [hij, ← b] at a
   exact (List.getElem?_inj (by omega) hnd).1 a
  ·have := kn i h1; rw [hij, kg j h2] at this; omega
  ·have := kn j h2; rw [← hij, kg i h1] at this; omega
  ·rw [kg i h1, kg j h2] at hij; omega
 have lp : ∀ j o, pre[j]? = some o → Zax (kap κ n j) pre' = some (Zih (kap κ n) o) := fun j o ho => by
  subst ep
  have hj : j < pre.length := (List.getElem?_eq_some_iff.1 ho).1
  exact ZrB hnd (kl j hj) (by rw [List.getElem?_map, ho]; rfl)
 have ip : ∀ k o, Zax k pre' = some o → ∃ j, j < pre.length ∧ k = kap κ n j := fun k o ho => by
  subst ep
  obtain ⟨j, hj1, hj2⟩ := List.getElem_of_mem (List.of_mem_zip (ZiX ho)).1
  have hj : j < pre.length := by omega
  refine ⟨j, hj, ?_⟩
  have := kl j hj
  rw [List.getElem?_eq_getElem hj1, hj2] at this
  exact Option.some.inj this
 have lq : ∀ j, Zax (kap κ n j) post' = if j ∈ ch then some ((lkO post j).map (Zih (kap κ n))) else none := fun j => by
  subst eq
  exact ZrC (g := fun j => (lkO post j).map (Zih (kap κ n))) kinj j ch
 refine h.call κ n hκ hnd hlt hle hA (Zqh hpre) hv (ZkU hpost) eA ev edn lp ip (fun j hj => ?_) (fun k o ho => ?_)
 ·unfold behind
  rw [lq j]
  rcases Zpa hk j hj with hc | ⟨h1, h2⟩
  ·rw [Nat.zero_add] at hc
   rw [if_pos hc]
  ·by_cases hc : j ∈ ch
   ·rw [if_pos hc]
   ·rw [if_neg hc]
    have ho : pre[j]? = some pre[j] := List.getElem?_eq_getElem h1
    show Zax (kap κ n j) pre' = _
    rw [lp j _ ho]
    simp [lkO, h2, ho]
 ·unfold behind at ho
  split at ho
  ·rename_i o' hl
   subst eq
   have := ZiX hl
   unfold Zu7 at this
   obtain ⟨j, hj, he⟩ := List.mem_map.1 this
   injection he with h1 h2
   exact ⟨j, hch j hj, h1.symm⟩
  ·obtain ⟨j, hj, hk⟩ := ip k o ho
   exact ⟨j, by omega, hk⟩
end
theorem Zt5 {α β : Type} {a a' : α} {b b' : β} (h : a = a') (k : b = b') : (a, b) = (a', b') := by rw [h, k]
theorem ZxH {α : Type} {a a' : α} (h : a = a') : some a = some a' := by rw [h]
end Ev
end Go.Proofs.YtlbbiflodemagaaDoor
/- Functions of many loops: one behind the other, one in another. -/
namespace Go.Proofs.YtlbbiflodemagaaDoor
open Go.RowKit
namespace Ev
section
variable {P : Program} {ext : FuncId → Option Ext}
variable {fn : Func} {pre : List AObj} {v : Value} {po : List (Option AObj)} {X : Type} {m i : Nat} {L : X → List (Nat × Value)} {H : X → List AObj} {μ : X → Nat} {bd : X → List Nat} {Gb : List Nat → Ren → World → (Nat → Act → World → Prop) → Prop} {x : X} {c : Code} {K : List Zbk} {T0 : Tr Value} {fu : Nat} {orc : Orc} {live : List Nat} {bl : List (Option AObj)} {ob : List (Bool × Bool)}
end
/-! ### A law -/
theorem Zyn (P : Program) {w : World} (ht : TabW w) : Emb P (ιMk w) (lk []) w := by
 rw [show lk [] = fun _ => none from funext fun k => by simp [lk]]
 exact Zx1 P ht
theorem ZwC {v : Value} (h : Zbl v = true) : ZbL v = false := by
 cases hz : ZbL v with
 | false => rfl
 | true =>
  unfold ZbL at hz
  split at hz
  ·simp only [Zbl, ZaN, atom] at h
   simp [h] at hz
  ·cases hz
theorem ZvC {P : Program} {f : FuncId} {A : Array Value} {post : List (Option AObj)} {v : Value} (h : LSpec P f A [] v post) {w : World} {args' : Array Value} (ha : VRs (ιMk w) A args') (hv : Zbl v = true) (ht : TabW w := by first | assumption | (intro x hx; cases hx; done)) : Calls P f args' w (Ret v w) := by
 refine (h (ιMk w) w args' (fun k hk => ?_) ha (Zyn P ht)).mono ?_
 ·cases hq : ιMk w k with
  | none => exact absurd hq hk
  | some q =>
   obtain ⟨b, base, id, rfl, _⟩ := ιMk_inv hq
   exact .inr (Zg7 b base id)
 ·rintro e w' (⟨v', ι', rfl, hS, _, hvr⟩ | ⟨ht, _⟩)
  rotate_left
  ·rw [ZwC hv] at ht; cases ht
  have := hvr.eq_of_free hv
  subst this
  exact ⟨rfl, hS.os, hS.tape, hS.output, hS.size, fun b hb => hS.frame b hb fun k c hk => by simp [lk, isC] at hk⟩
end Ev
end Go.Proofs.YtlbbiflodemagaaDoor
/- Arguments that are slices of structs of ints, opened, over any program. -/
namespace Go.Proofs.YtlbbiflodemagaaDoor
open Go.ChangeShapes Go.WideShapes Go.ChangeAt Go.RowKit Go.Deep
section
variable {H : Type} {enc : TypeId × Value → H} {P : Program} {w : World}

end
end Go.Proofs.YtlbbiflodemagaaDoor
/- Arguments that are rows of numbers: blocks of the caller's, that are read alone. -/
namespace Go.Proofs.YtlbbiflodemagaaDoor
open Go.ChangeShapes Go.WideShapes Go.ChangeAt Go.RowKit
namespace Ev
section
variable {P : Program} {w : World}
theorem Zlk {b o : Nat} {v : Value} (h : w.cell? ⟨b, o, none⟩ = some v) : ∃ C t fr, w.heap[b]? = some (.cells C t fr) ∧ C[o]? = some v := by
 unfold World.cell? at h
 split at h
 ·rename_i c e fr hb
  split at h
  ·cases h
  ·exact ⟨c, e, fr, hb, h⟩
 ·cases h
end
end Ev
end Go.Proofs.YtlbbiflodemagaaDoor
