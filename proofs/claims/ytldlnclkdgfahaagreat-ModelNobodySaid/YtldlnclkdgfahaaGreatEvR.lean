/- Loops by induction: a round by the runner, between rounds the blocks are numbered anew. -/
import Derived.Test.YtldlnclkdgfahaaGreatEvQ
namespace Go.Proofs.YtldlnclkdgfahaaGreat
open Go.RowKit
namespace Ev
/-- A value of one cell, its block's number another one. -/
def renA (ρ : Nat → Nat) : Value → Value
  | .pointer (some ⟨k, o, none⟩) => .pointer (some ⟨ρ k, o, none⟩)
  | .slice (some ⟨k, o, none⟩) n c => .slice (some ⟨ρ k, o, none⟩) n c
  | .map (some k) => .map (some (ρ k))
  | v => v
def amap (f : Value → Value) (a : Array Value) : Array Value := (a.toList.map f).toArray
theorem amap_eq (f : Value → Value) (a : Array Value) : amap f a = a.map f := by
  unfold amap
  apply Array.ext' 
  simp
def renV (ρ : Nat → Nat) : Nat → Value → Value
  | d + 1, .agg cs => .agg (amap (renV ρ d) cs)
  | d + 1, .tuple cs => .tuple (amap (renV ρ d) cs)
  | d + 1, .func f a b => .func f (amap (renV ρ d) a) (amap (renV ρ d) b)
  | _, v => renA ρ v
/-- No deeper than d. -/
def shallow : Nat → Value → Bool
  | d + 1, .agg cs => allB (shallow d) cs.toList
  | d + 1, .tuple cs => allB (shallow d) cs.toList
  | d + 1, .func _ a b => allB (shallow d) a.toList && allB (shallow d) b.toList
  | 0, .agg _ => false
  | 0, .tuple _ => false
  | 0, .func _ a b => a.isEmpty && b.isEmpty
  | _, _ => true
section
variable {P : Program} {ext : FuncId → Option Ext}
theorem map_rel {ι : Ren} {f : Value → Value} {a a' : Array Value} (hs : a.size = a'.size) (h : ∀ (i : Nat) x y, a[i]? = some x → a'[i]? = some y → VR ι (f x) y) : (amap f a).size = a'.size ∧ ∀ (i : Nat) x y, (amap f a)[i]? = some x → a'[i]? = some y → VR ι x y := by
  rw [amap_eq]
  refine ⟨by simpa using hs, fun i x y hx hy => ?_⟩
  rw [Array.getElem?_map] at hx
  cases ha : a[i]? with
  | none => rw [ha] at hx; cases hx
  | some z => rw [ha] at hx; injection hx with hx; subst hx; exact h i z y ha hy
theorem all_at {p : Value → Bool} {a : Array Value} (h : a.all p = true) {i : Nat} {x : Value} (hx : a[i]? = some x) : p x = true := by
  obtain ⟨hlt, rfl⟩ := Array.getElem?_eq_some_iff.1 hx
  exact Array.all_eq_true.1 h i hlt
theorem renA_atom {ρ : Nat → Nat} {v : Value} (h : atom v = true) : renA ρ v = v := by
  cases v with
  | pointer a => cases a with
    | none => rfl
    | some a => simp [atom] at h
  | slice a n c => cases a with
    | none => rfl
    | some a => simp [atom] at h
  | map a => cases a with
    | none => rfl
    | some a => simp [atom] at h
  | _ => rfl
theorem renV_atom {ρ : Nat → Nat} (d : Nat) {v : Value} (h : atom v = true) : renV ρ d v = v := by
  cases d with
  | zero => exact renA_atom h
  | succ d =>
    cases v with
    | agg cs => simp [atom] at h
    | tuple cs => simp [atom] at h
    | func f a b =>
      cases f <;> simp [atom] at h
      obtain ⟨h1, h2⟩ := h
      subst h1 h2
      simp [renV, amap]
    | _ => exact renA_atom h
theorem renV_VR {ι ι2 : Ren} {ρ : Nat → Nat} (hι : ∀ k b, ι k = some b → ι2 (ρ k) = some b) : ∀ (d : Nat) (v v' : Value), VR ι v v' → shallow d v = true → VR ι2 (renV ρ d v) v'
  | d, v, v', h, hd => by
    cases h with
    | atom h => rw [renV_atom d h]; exact .atom h
    | glob h => cases d <;> exact .glob h
    | ptr h => cases d <;> exact .ptr (hι _ _ h)
    | map h => cases d <;> exact .map (hι _ _ h)
    | slice h hn hc hq => cases d <;> exact .slice (hι _ _ h) hn hc hq
    | slice0 h => cases d <;> exact .slice0 h
    | func hs ht h1 h2 =>
      cases d with
      | zero =>
        simp only [shallow, Bool.and_eq_true, Array.isEmpty_iff] at hd
        obtain ⟨rfl, rfl⟩ := hd
        exact .func hs ht (fun i x y hx => by simp at hx) (fun i x y hx => by simp at hx)
      | succ d =>
        simp only [shallow, Bool.and_eq_true] at hd
        obtain ⟨q1, q2⟩ := map_rel (f := renV ρ d) hs fun i x y hx hy => renV_VR hι d x y (h1 i x y hx hy) (allB_get hd.1 i x hx)
        obtain ⟨q3, q4⟩ := map_rel (f := renV ρ d) ht fun i x y hx hy => renV_VR hι d x y (h2 i x y hx hy) (allB_get hd.2 i x hx)
        exact .func q1 q3 q2 q4
    | agg hs h1 =>
      cases d with
      | zero => simp [shallow] at hd
      | succ d =>
        simp only [shallow] at hd
        obtain ⟨q1, q2⟩ := map_rel (f := renV ρ d) hs fun i x y hx hy => renV_VR hι d x y (h1 i x y hx hy) (allB_get hd i x hx)
        exact .agg q1 q2
    | tuple hs h1 =>
      cases d with
      | zero => simp [shallow] at hd
      | succ d =>
        simp only [shallow] at hd
        obtain ⟨q1, q2⟩ := map_rel (f := renV ρ d) hs fun i x y hx hy => renV_VR hι d x y (h1 i x y hx hy) (allB_get hd i x hx)
        exact .tuple q1 q2
/-- A value that nobody looks into has a renamed one too. -/
theorem ren_exists {ι ι2 : Ren} {ρ : Nat → Nat} (hι : ∀ k b, ι k = some b → ι2 (ρ k) = some b) {v v' : Value} (h : VR ι v v') : ∃ u, VR ι2 u v' := by
  have arr : ∀ {a a' : Array Value}, a.size = a'.size → (∀ (i : Nat) x y, a[i]? = some x → a'[i]? = some y → ∃ u, VR ι2 u y) → ∃ c : Array Value, c.size = a'.size ∧ ∀ (i : Nat) x y, c[i]? = some x → a'[i]? = some y → VR ι2 x y := fun {a a'} hs hx => by
    have each : ∀ i : Fin a'.size, ∃ u, VR ι2 u a'[i] := fun i => hx i a[i] a'[i] (Array.getElem?_eq_getElem (by omega)) (Array.getElem?_eq_getElem i.2)
    refine ⟨Array.ofFn fun i => (each i).choose, by simp, fun i x y h1 h2 => ?_⟩
    obtain ⟨hlt, rfl⟩ := Array.getElem?_eq_some_iff.1 h2
    rw [Array.getElem?_ofFn, dif_pos hlt] at h1
    injection h1 with h1
    subst h1
    exact (each ⟨i, hlt⟩).choose_spec
  induction h with
  | atom h => exact ⟨_, .atom h⟩
  | glob h => exact ⟨_, .glob (g := 0) h⟩
  | ptr h => exact ⟨_, .ptr (hι _ _ h)⟩
  | map h => exact ⟨_, .map (hι _ _ h)⟩
  | slice h hn hc hq => exact ⟨_, .slice (hι _ _ h) hn hc hq⟩
  | slice0 h => exact ⟨_, .slice0 (k := 0) (o := 0) h⟩
  | func hs ht h1 h2 ih1 ih2 =>
    obtain ⟨c, q1, q2⟩ := arr hs ih1
    obtain ⟨d, q3, q4⟩ := arr ht ih2
    exact ⟨_, .func q1 q3 q2 q4⟩
  | agg hs h1 ih =>
    obtain ⟨c, q1, q2⟩ := arr hs ih
    exact ⟨_, .agg q1 q2⟩
  | tuple hs h1 ih =>
    obtain ⟨c, q1, q2⟩ := arr hs ih
    exact ⟨_, .tuple q1 q2⟩
/-- Temporaries: what is known of them; the rest may be anything. -/
noncomputable def tmpsL : Nat → Nat → (Nat → Option Value) → (Nat → Value) → Tr Value → Tr Value
  | 0, _, _, _, T => T
  | n + 1, t, L, gv, T => tmpsL n (t + 1) L gv (T.set t (some (match L t with | some v => v | none => gv t)))
noncomputable def tmps (nt : Nat) (L : Nat → Option Value) (gv : Nat → Value) : Tr Value := tmpsL nt 0 L gv .nil
theorem tmpsL_get (L : Nat → Option Value) (gv : Nat → Value) : ∀ (n t : Nat) (T : Tr Value) (k : Nat), (tmpsL n t L gv T).get k = if t ≤ k ∧ k < t + n then some (match L k with | some v => v | none => gv k) else T.get k
  | 0, t, T, k => by rw [if_neg (by omega)]; rfl
  | n + 1, t, T, k => by
    show (tmpsL n (t + 1) L gv _).get k = _
    rw [tmpsL_get L gv n (t + 1), Tr.get_set]
    by_cases hk : k = t
    · subst hk
      rw [if_neg (by omega), upd_same, if_pos (by omega)]
    · rw [upd_other hk]
      by_cases h : t + 1 ≤ k ∧ k < t + 1 + n
      · rw [if_pos h, if_pos (by omega)]
      · rw [if_neg h, if_neg (by omega)]
theorem tmps_get (nt : Nat) (L : Nat → Option Value) (gv : Nat → Value) (k : Nat) : (tmps nt L gv).get k = if k < nt then some (match L k with | some v => v | none => gv k) else none := by
  unfold tmps
  rw [tmpsL_get]
  by_cases h : k < nt
  · rw [if_pos (by omega), if_pos h]
  · rw [if_neg (by omega), if_neg h]; rfl
/-- Where a loop's round begins: temporaries T, blocks h of the numbers below m; none from m to M. -/
def At (P : Program) (nt : Nat) (T : Tr Value) (h : AH) (m M : Nat) (ι0 : Ren) (h0 : AH) (w0 : World) (a : Act) (w : World) : Prop :=
  ∃ ι, TR ι nt [] T a ∧ Step P ι0 h0 w0 ι h w ∧ ∀ k, m ≤ k → k < M → ι k = none
/-- Numbers anew: the live blocks come first, in their order; all others far behind. -/
def rho (live : List Nat) (M : Nat) (k : Nat) : Nat := if k ∈ live then live.idxOf k else k + M
def sig (live : List Nat) (M : Nat) (j : Nat) : Option Nat := if j < live.length then live[j]? else if M ≤ j ∧ j - M ∉ live then some (j - M) else none
theorem sig_rho {live : List Nat} {M : Nat} (hM : live.length ≤ M) (k : Nat) : sig live M (rho live M k) = some k := by
  unfold sig rho
  by_cases hk : k ∈ live
  · rw [if_pos hk]
    have hlt := List.idxOf_lt_length_of_mem hk
    rw [if_pos hlt, List.getElem?_eq_getElem hlt]
    simp
  · rw [if_neg hk, if_neg (by omega), if_pos ⟨by omega, by simpa using hk⟩]
    simp
theorem rho_sig {live : List Nat} {M : Nat} (hn : live.Nodup) {j k : Nat} (h : sig live M j = some k) : rho live M k = j := by
  unfold sig at h
  split at h
  · rename_i hlt
    rw [List.getElem?_eq_getElem hlt] at h
    injection h with h
    subst h
    unfold rho
    rw [if_pos (List.getElem_mem hlt)]
    exact hn.idxOf_getElem j hlt
  · split at h
    · rename_i hc
      injection h with h
      subst h
      unfold rho
      rw [if_neg hc.2]
      omega
    · cases h
/-- What a round leaves, seen as the next one's beginning. -/
theorem at_next2 {nt : Nat} {ι0 ι : Ren} {h0 h : AH} {w0 w : World} {T : Tr Value} {a : Act} (hT : TR ι nt [] T a) (hS : Step P ι0 h0 w0 ι h w)
    (live : List Nat) (m M : Nat) (hlen : live.length = m) (hmM : m ≤ M) (hn : live.Nodup) (h3 : ∀ k, ι0 k ≠ none → live[k]? = some k)
    (L : Nat → Option Value) (hL : ∀ t v, t < nt → L t = some v → v = renV (rho live M) 3 ((T.get t).getD undef) ∧ shallow 3 ((T.get t).getD undef) = true)
    (g : AH) (hg : ∀ j o, g j = some o → ∃ k, live[j]? = some k ∧ match o with
      | .ro O m => h k = some (.ro O m)
      | .cells c t => ∃ c' r, h k = some (.cells c' t) ∧ c'.map (renV (rho live M) 1) = c ++ r ∧ allB (shallow 1) c' = true) :
    ∃ gv ι', TR ι' nt [] (tmps nt L gv) a ∧ Step P ι0 h0 w0 ι' g w ∧ (∀ k, m ≤ k → k < M → ι' k = none) ∧ ∀ j b, ι' j = some b → ∃ k, ι k = some b := by
  have s1 := fun k => sig_rho (live := live) (M := M) (by omega) k
  have hι : ∀ k b, ι k = some b → (fun j => (sig live M j).bind ι) (rho live M k) = some b := fun k b hk => by
    simp only [s1 k, Option.bind_some, hk]
  have hlive : ∀ j k, live[j]? = some k → sig live M j = some k := fun j k hk => by
    have hlt := (List.getElem?_eq_some_iff.1 hk).1
    unfold sig
    rw [if_pos hlt]
    exact hk
  have back : ∀ j b, (sig live M j).bind ι = some b → ∃ k, sig live M j = some k ∧ ι k = some b := fun j b hj => by
    cases hs : sig live M j with
    | none => rw [hs] at hj; cases hj
    | some k => rw [hs] at hj; exact ⟨k, rfl, hj⟩
  have old : ∀ k, ι0 k ≠ none → sig live M k = some k := fun k hk => hlive k k (h3 k hk)
  have gC : ∀ j, isC (g j) = true → ∃ k, sig live M j = some k ∧ isC (h k) = true := fun j hj => by
    cases hx : g j with
    | none => rw [hx] at hj; cases hj
    | some o =>
      obtain ⟨k, hk, ho⟩ := hg j o hx
      cases o with
      | ro O m1 => rw [hx] at hj; exact ⟨k, hlive j k hk, by rw [show h k = some (.ro O m1) from ho]; exact hj⟩
      | cells c t => obtain ⟨c', r, hc, _⟩ := ho; exact ⟨k, hlive j k hk, by rw [hc]; rfl⟩
  have gS : ∀ j, (g j).isSome → ∃ k, sig live M j = some k ∧ (h k).isSome := fun j hj => by
    cases hx : g j with
    | none => rw [hx] at hj; cases hj
    | some o =>
      obtain ⟨k, hk, ho⟩ := hg j o hx
      cases o with
      | ro O m1 => exact ⟨k, hlive j k hk, by rw [show h k = some (.ro O m1) from ho]; rfl⟩
      | cells c t => obtain ⟨c', r, hc, _⟩ := ho; exact ⟨k, hlive j k hk, by rw [hc]; rfl⟩
  have garb : ∀ t, ∃ u, VR (fun j => (sig live M j).bind ι) u (a.tmps.getD t undef) := fun t => ren_exists hι (hT.2.2 t)
  refine ⟨fun t => (garb t).choose, fun j => (sig live M j).bind ι, ⟨hT.1, hT.2.1, fun t => ?_⟩, ⟨fun k b hk => ?_, ⟨fun j c t hj => ?_, fun j O hj => ?_, fun j j' b b' h1 h2 h4 h5 h6 => ?_, fun j b hj => ?_⟩, hS.os, hS.tape, hS.output, hS.size, hS.frame, fun j b h1 h2 => ?_, fun j h1 h2 => ?_, fun j h1 h2 => ?_⟩, fun j h1 h2 => ?_, fun j b hj => (back j b hj).imp fun k h => h.2⟩
  · rw [tmps_get]
    by_cases ht : t < nt
    · rw [if_pos ht]
      cases hl : L t with
      | none => exact (garb t).choose_spec
      | some v =>
        obtain ⟨e, hd⟩ := hL t v ht hl
        subst e
        exact renV_VR hι 3 _ _ (hT.2.2 t) hd
    · rw [if_neg ht]
      have : a.tmps.getD t undef = undef := by
        have := hT.1
        simp [Array.getD, show ¬ t < a.tmps.size by omega]
      rw [this]
      exact VR.undef'
  · show (sig live M k).bind ι = some b
    rw [old k (by rw [hk]; simp)]
    exact hS.ext k b hk
  · obtain ⟨k, hk, c', r, hc, hcr, hd⟩ := hg j _ hj
    obtain ⟨b, C, hb, hB, hC, hQ⟩ := hS.emb.obj k c' t hc
    have hle : c.length ≤ c'.length := by
      have := congrArg List.length hcr
      simp at this
      omega
    refine ⟨b, C, by show (sig live M j).bind ι = some b; rw [hlive j k hk]; exact hb, hB, ⟨Nat.le_trans hle hC.1, fun i x y hx hy => ?_⟩, hQ⟩
    have hx' : (c'.map (renV (rho live M) 1))[i]? = some x := by
      rw [hcr, List.getElem?_append_left (List.getElem?_eq_some_iff.1 hx).1]
      exact hx
    rw [List.getElem?_map] at hx'
    cases hz : c'[i]? with
    | none => rw [hz] at hx'; cases hx'
    | some z =>
      rw [hz] at hx'
      injection hx' with hx'
      subst hx'
      exact renV_VR hι 1 z y (hC.2 i z y hz hy) (allB_mem hd z (List.mem_of_getElem? hz))
  · obtain ⟨k, hk, hr⟩ := hg j _ hj
    obtain ⟨b, hb, hB⟩ := hS.emb.ro k O hr
    exact ⟨b, by show (sig live M j).bind ι = some b; rw [hlive j k hk]; exact hb, hB⟩
  · obtain ⟨k, q1, q2⟩ := gC j h1
    obtain ⟨k', q3, q4⟩ := gS j' h2
    obtain ⟨_, e1, e2⟩ := back j b h4
    rw [q1] at e1; injection e1 with e1; subst e1
    obtain ⟨_, e3, e4⟩ := back j' b' h5
    rw [q3] at e3; injection e3 with e3; subst e3
    have := hS.emb.inj k k' b b' q2 q4 e2 e4 h6
    subst this
    rw [← rho_sig hn q1, ← rho_sig hn q3]
  · obtain ⟨k, _, e2⟩ := back j b hj
    exact hS.emb.lt k b e2
  · obtain ⟨k, e1, e2⟩ := back j b h2
    refine hS.new k b ?_ e2
    cases hk : ι0 k with
    | none => rfl
    | some c =>
      have := rho_sig hn (old k (by rw [hk]; simp))
      have e3 := rho_sig hn e1
      rw [this] at e3
      subst e3
      rw [h1] at hk; cases hk
  · obtain ⟨k, e1, e2⟩ := gS j h1
    rw [old j h2] at e1; injection e1 with e1; subst e1
    exact hS.alive j e2 h2
  · obtain ⟨k, e1, e2⟩ := gC j h1
    rw [old j h2] at e1; injection e1 with e1; subst e1
    exact hS.kind j e2 h2
  · show (sig live M j).bind ι = none
    unfold sig
    rw [if_neg (by omega), if_neg (by omega)]
    rfl
theorem at_next {nt : Nat} {ι0 ι : Ren} {h0 h : AH} {w0 w : World} {T : Tr Value} {a : Act} (hT : TR ι nt [] T a) (hS : Step P ι0 h0 w0 ι h w)
    (live : List Nat) (m M : Nat) (hlen : live.length = m) (hmM : m ≤ M) (hn : live.Nodup) (h3 : ∀ k, ι0 k ≠ none → live[k]? = some k)
    (L : Nat → Option Value) (hL : ∀ t v, t < nt → L t = some v → v = renV (rho live M) 3 ((T.get t).getD undef) ∧ shallow 3 ((T.get t).getD undef) = true)
    (g : AH) (hg : ∀ j o, g j = some o → ∃ k, live[j]? = some k ∧ match o with
      | .ro O m => h k = some (.ro O m)
      | .cells c t => ∃ c' r, h k = some (.cells c' t) ∧ c'.map (renV (rho live M) 1) = c ++ r ∧ allB (shallow 1) c' = true) :
    ∃ gv, At P nt (tmps nt L gv) g m M ι0 h0 w0 a w := by
  obtain ⟨gv, ι', a1, a2, a3, _⟩ := at_next2 hT hS live m M hlen hmM hn h3 L hL g hg
  exact ⟨gv, ι', a1, a2, a3⟩
/-- Straight code, by the runner. -/
theorem ev_wp (F : Fit P ext) {fu nt : Nat} {c : Code} {T T' : Tr Value} {s s' : St} {e : Ex} (h : evCode P ext nt fu c T s = some (e, T', s')) (ho : ∀ p ∈ s'.ob, p.1 = p.2) {ι : Ren} {D : List Deferred} {a : Act} {w : World} (hT : TR ι nt D T a) (he : Emb P ι s.h.get w) (hf : Fresh ι s.n s'.n) :
    c.wp P (PostC P ι s w nt D e T' s') a w := (sound_all F fu).1 nt c T s e T' s' h ho ι D a w hT he hf
end
end Ev
end Go.Proofs.YtldlnclkdgfahaaGreat
