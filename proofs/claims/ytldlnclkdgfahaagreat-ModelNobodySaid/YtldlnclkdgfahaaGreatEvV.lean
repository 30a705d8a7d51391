/- Functions of many loops: one behind the other, one in another. -/
import Derived.Test.YtldlnclkdgfahaaGreatEvC2
namespace Go.Proofs.YtldlnclkdgfahaaGreat
open Go.RowKit
namespace Ev
section
variable {P : Program} {ext : FuncId → Option Ext}
/-- Wherever the outer loop's next round may begin, its way on is known. -/
def NxB (P : Program) (fn : Func) (pre : List AObj) {Y : Type} (mo : Nat) (Lo : Y → List (Nat × Value)) (Ho : Y → List AObj) (μo : Y → Nat) (bdo : Y → List Nat) (o B : Nat) (Bo : List Nat) (ι0 : Ren) (w0 : World) (Nx : Nat → Act → World → Prop) : Prop :=
  ∀ y gv a w, μo y < B → bdo y = Bo → At P fn.ntmps (tmps fn.ntmps (fun t => look t (Lo y)) gv) (treeL 0 (Ho y)).get mo far ι0 (lk pre) w0 a w → Nx o a w
/-- From a loop's state on, all is well. -/
def LGoal (P : Program) (fn : Func) (pre : List AObj) (v : Value) (po : List (Option AObj)) (bK : Code × List Kont) {X : Type} (m : Nat) (L : X → List (Nat × Value)) (H : X → List AObj) (bd : X → List Nat) (Gb : List Nat → Ren → World → (Nat → Act → World → Prop) → Prop) : Prop :=
  ∀ ι0 w0, (∀ k, ι0 k ≠ none → k < pre.length) → ∀ (Nx : Nat → Act → World → Prop) (x : X), Gb (bd x) ι0 w0 Nx → ∀ T s live, Into fn.ntmps m (fun t => look t (L x)) (treeL 0 (H x)) T s live → keeps pre.length live = true →
    ∀ ι a w, TR ι fn.ntmps [] T a → Step P ι0 (lk pre) w0 ι s.h.get w → (Code.loop bK.1).wp P (Ev.post P fn (Fin P ι0 pre w0 v po) Nx bK.2) a w
def RoundX (P : Program) (fn : Func) (pre : List AObj) (v : Value) (po : List (Option AObj)) {X : Type} (m i : Nat) (L : X → List (Nat × Value)) (H : X → List AObj) (μ : X → Nat) (bd : X → List Nat) (x : X) (ι0 : Ren) (w0 : World) (Nx : Nat → Act → World → Prop) (st : Stop) : Prop :=
  match st with
  | .fin u s => ∃ live, FinOK pre.length v po u s live
  | .next j T s => (j = i ∧ ∃ y live, μ y < μ x ∧ bd y = bd x ∧ keeps pre.length live = true ∧ Into fn.ntmps m (fun t => look t (L y)) (treeL 0 (H y)) T s live) ∨ (j ≠ i ∧ ∀ ι a w, TR ι fn.ntmps [] T a → Step P ι0 (lk pre) w0 ι s.h.get w → Nx j a w)
  | .head b K T s => ∀ Nx' : Nat → Act → World → Prop, (∀ j, j ≠ i → Nx' j = Nx j) → NxB P fn pre m L H μ bd i (μ x) (bd x) ι0 w0 Nx' →
      ∀ ι a w, TR ι fn.ntmps [] T a → Step P ι0 (lk pre) w0 ι s.h.get w → (Code.loop b).wp P (Ev.post P fn (Fin P ι0 pre w0 v po) Nx' K) a w
/-- What a round must show. -/
def RoundG (P : Program) (ext : FuncId → Option Ext) (fn : Func) (pre : List AObj) (v : Value) (po : List (Option AObj)) (bK : Code × List Kont) {X : Type} (m i : Nat) (L : X → List (Nat × Value)) (H : X → List AObj) (μ : X → Nat) (bd : X → List Nat) (Gb : List Nat → Ren → World → (Nat → Act → World → Prop) → Prop) (x : X) (gv : Nat → Value) : Prop :=
  ∃ fu orc st, evTo P ext fn fn.ntmps fu bK.1 (.rnd i :: bK.2) (tmps fn.ntmps (fun t => look t (L x)) gv) ⟨treeL 0 (H x), m, [], orc, []⟩ = some st ∧ (∀ p ∈ st.s.ob, p.1 = p.2) ∧ st.s.n ≤ far ∧
      ∀ ι0 w0 Nx, (∀ k, ι0 k ≠ none → k < pre.length) → Gb (bd x) ι0 w0 Nx → RoundX P fn pre v po m i L H μ bd x ι0 w0 Nx st
theorem loop_gen (F : Fit P ext) {fn : Func} {pre : List AObj} {v : Value} {po : List (Option AObj)} {bK : Code × List Kont} {X : Type} {m : Nat} (i : Nat) (L : X → List (Nat × Value)) (H : X → List AObj) (μ : X → Nat) (bd : X → List Nat) (Gb : List Nat → Ren → World → (Nat → Act → World → Prop) → Prop) (hm : m ≤ far) (hpo : po.length ≤ far) (hK : inK i bK.2 = false)
    (round : ∀ x gv, ∃ fu orc st, evTo P ext fn fn.ntmps fu bK.1 (.rnd i :: bK.2) (tmps fn.ntmps (fun t => look t (L x)) gv) ⟨treeL 0 (H x), m, [], orc, []⟩ = some st ∧ (∀ p ∈ st.s.ob, p.1 = p.2) ∧ st.s.n ≤ far ∧
      ∀ ι0 w0 Nx, (∀ k, ι0 k ≠ none → k < pre.length) → Gb (bd x) ι0 w0 Nx → RoundX P fn pre v po m i L H μ bd x ι0 w0 Nx st) : LGoal P fn pre v po bK m L H bd Gb := by
  intro ι0 w0 hd Nx x hG T s live hi hk ι a w hT hS
  refine loop_at F i hm hd (X := { y : X // bd y = bd x }) (fun y t => look t (L y.1)) (fun y => treeL 0 (H y.1)) (fun y => μ y.1) bK.1 bK.2 hK (fun y gv => ?_) ⟨x, rfl⟩ hi hk hT hS
  obtain ⟨y, hy⟩ := y
  obtain ⟨fu, orc, st, h1, h2, h3, h4⟩ := round y gv
  refine ⟨fu, orc, st, h1, h2, h3, ?_⟩
  have h4 := h4 ι0 w0 Nx hd (hy ▸ hG)
  cases st with
  | fin u s =>
    obtain ⟨live, h4⟩ := h4
    intro ι w hS v' hv
    exact fin_of hpo hd h4 hS hv
  | next j T s =>
    rcases h4 with ⟨rfl, z, live, q1, q2, q3, q4⟩ | h4
    · exact .inl ⟨rfl, ⟨z, q2.trans hy⟩, live, q1, q3, q4⟩
    · exact .inr h4
  | head b K T s =>
    intro Nx' e1 e2
    exact h4 Nx' e1 fun z gv a w hz hzb hat => e2 ⟨z, hzb.trans hy⟩ gv a w hz hat
variable {fn : Func} {pre : List AObj} {v : Value} {po : List (Option AObj)} {X : Type} {m i : Nat} {L : X → List (Nat × Value)} {H : X → List AObj} {μ : X → Nat} {bd : X → List Nat} {Gb : List Nat → Ren → World → (Nat → Act → World → Prop) → Prop} {x : X} {c : Code} {K : List Kont} {T0 : Tr Value} {fu : Nat} {orc : Orc} {live : List Nat} {bl : List (Option AObj)} {ob : List (Bool × Bool)}
/-- A round to the function's end. -/
theorem rx_fin {u : Value} (hev : outFin live (evTo P ext fn fn.ntmps fu c K T0 ⟨treeL 0 (H x), m, [], orc, []⟩) = some (u, bl, ob)) (ho : ∀ p ∈ ob, p.1 = p.2) (hl : live.length = po.length) (hn : live.Nodup) (hk : keeps pre.length live = true) (hv : v = renV (rho live far) 3 u ∧ shallow 3 u = true) (hbl : BlocksOK (rho live far) bl po) :
    ∃ fu orc st, evTo P ext fn fn.ntmps fu c K T0 ⟨treeL 0 (H x), m, [], orc, []⟩ = some st ∧ (∀ p ∈ st.s.ob, p.1 = p.2) ∧ st.s.n ≤ far ∧ ∀ ι0 w0 Nx, (∀ k, ι0 k ≠ none → k < pre.length) → Gb (bd x) ι0 w0 Nx → RoundX P fn pre v po m i L H μ bd x ι0 w0 Nx st := by
  obtain ⟨s, h1, rfl, rfl, h4⟩ := outFin_spec hev
  exact ⟨fu, orc, _, h1, ho, h4, fun _ _ _ _ _ => ⟨live, hl, hn, hk, hv, blocks_at hbl⟩⟩
/-- A round to the next one. -/
theorem rx_next {tv : List (Option Value)} (y : X) (hev : outNext i live ((L y).map (·.1)) (evTo P ext fn fn.ntmps fu c K T0 ⟨treeL 0 (H x), m, [], orc, []⟩) = some (tv, bl, ob)) (ho : ∀ p ∈ ob, p.1 = p.2) (hμ : μ y < μ x) (hb : bd y = bd x) (hl : live.length = m) (hn : live.Nodup) (hk : keeps pre.length live = true) (ht : TempsOK (rho live far) tv (L y)) (hbl : BlocksOK (rho live far) bl ((H y).map some)) :
    ∃ fu orc st, evTo P ext fn fn.ntmps fu c K T0 ⟨treeL 0 (H x), m, [], orc, []⟩ = some st ∧ (∀ p ∈ st.s.ob, p.1 = p.2) ∧ st.s.n ≤ far ∧ ∀ ι0 w0 Nx, (∀ k, ι0 k ≠ none → k < pre.length) → Gb (bd x) ι0 w0 Nx → RoundX P fn pre v po m i L H μ bd x ι0 w0 Nx st := by
  obtain ⟨T, s, h1, rfl, rfl, rfl, h4⟩ := outNext_spec hev
  exact ⟨fu, orc, _, h1, ho, h4, fun _ _ _ _ _ => .inl ⟨rfl, y, live, hμ, hb, hk, into_of hl hn ht hbl⟩⟩
/-- A round of an inner loop to the outer one's next. -/
theorem rx_outer {tv : List (Option Value)} {Y : Type} {mo : Nat} {Lo : Y → List (Nat × Value)} {Ho : Y → List AObj} {μo : Y → Nat} {bdo : Y → List Nat} {o B : Nat} {Bo : List Nat} (y : Y) (hoi : o ≠ i) (hmo : mo ≤ far) (hG : ∀ ι0 w0 Nx, Gb (bd x) ι0 w0 Nx → NxB P fn pre mo Lo Ho μo bdo o B Bo ι0 w0 Nx) (hev : outNext o live ((Lo y).map (·.1)) (evTo P ext fn fn.ntmps fu c K T0 ⟨treeL 0 (H x), m, [], orc, []⟩) = some (tv, bl, ob)) (ho : ∀ p ∈ ob, p.1 = p.2) (hμ : μo y < B) (hb : bdo y = Bo) (hl : live.length = mo) (hn : live.Nodup) (hk : keeps pre.length live = true) (ht : TempsOK (rho live far) tv (Lo y)) (hbl : BlocksOK (rho live far) bl ((Ho y).map some)) :
    ∃ fu orc st, evTo P ext fn fn.ntmps fu c K T0 ⟨treeL 0 (H x), m, [], orc, []⟩ = some st ∧ (∀ p ∈ st.s.ob, p.1 = p.2) ∧ st.s.n ≤ far ∧ ∀ ι0 w0 Nx, (∀ k, ι0 k ≠ none → k < pre.length) → Gb (bd x) ι0 w0 Nx → RoundX P fn pre v po m i L H μ bd x ι0 w0 Nx st := by
  obtain ⟨T, s, h1, rfl, rfl, rfl, h4⟩ := outNext_spec hev
  refine ⟨fu, orc, _, h1, ho, h4, fun ι0 w0 Nx hd hg => .inr ⟨hoi, fun ι a w hT hS => ?_⟩⟩
  obtain ⟨gv, hat⟩ := into_at hmo (into_of hl hn ht hbl) hk hd hT hS
  exact hG ι0 w0 Nx hg y gv a w hμ hb hat
/-- A round to another loop: one behind it (its outer one the same), or one within it. -/
theorem rx_head {tv : List (Option Value)} {Y : Type} {mo : Nat} {Lo : Y → List (Nat × Value)} {Ho : Y → List AObj} {bdo : Y → List Nat} {Go : List Nat → Ren → World → (Nat → Act → World → Prop) → Prop} {bK : Code × List Kont} (y : Y) (hgoal : LGoal P fn pre v po bK mo Lo Ho bdo Go) (hG : ∀ ι0 w0 Nx Nx', (∀ j, j ≠ i → Nx' j = Nx j) → Gb (bd x) ι0 w0 Nx → NxB P fn pre m L H μ bd i (μ x) (bd x) ι0 w0 Nx' → Go (bdo y) ι0 w0 Nx') (hev : outHead live ((Lo y).map (·.1)) (evTo P ext fn fn.ntmps fu c K T0 ⟨treeL 0 (H x), m, [], orc, []⟩) = some (bK, tv, bl, ob)) (ho : ∀ p ∈ ob, p.1 = p.2) (hl : live.length = mo) (hn : live.Nodup) (hk : keeps pre.length live = true) (ht : TempsOK (rho live far) tv (Lo y)) (hbl : BlocksOK (rho live far) bl ((Ho y).map some)) :
    ∃ fu orc st, evTo P ext fn fn.ntmps fu c K T0 ⟨treeL 0 (H x), m, [], orc, []⟩ = some st ∧ (∀ p ∈ st.s.ob, p.1 = p.2) ∧ st.s.n ≤ far ∧ ∀ ι0 w0 Nx, (∀ k, ι0 k ≠ none → k < pre.length) → Gb (bd x) ι0 w0 Nx → RoundX P fn pre v po m i L H μ bd x ι0 w0 Nx st := by
  obtain ⟨T, s, h1, rfl, rfl, rfl, h4⟩ := outHead_spec hev
  refine ⟨fu, orc, _, h1, ho, h4, fun ι0 w0 Nx hd hg => fun Nx' e1 e2 ι a w hT hS => ?_⟩
  exact hgoal ι0 w0 hd Nx' y (hG ι0 w0 Nx Nx' e1 hg e2) T s live (into_of hl hn ht hbl) hk ι a w hT hS
/-- The function, from its entry to its first loop. -/
theorem spec_head (F : Fit P ext) {f : FuncId} (hfn : P.funcs[f]? = some fn) (hb : fn.body = some (bodyC fn)) {A : Array Value} {tv : List (Option Value)} (hA : Nat.ble A.size fn.ntmps = true) {Y : Type} {mo : Nat} {Lo : Y → List (Nat × Value)} {Ho : Y → List AObj} {bdo : Y → List Nat} {bK : Code × List Kont} (y : Y) (hgoal : LGoal P fn pre v po bK mo Lo Ho bdo (fun _ _ _ _ => True))
    (hev : outHead live ((Lo y).map (·.1)) (evTo P ext fn fn.ntmps fu (bodyC fn) [] (argsT 0 A.toList .nil) ⟨treeL 0 pre, pre.length, [], orc, []⟩) = some (bK, tv, bl, ob)) (ho : ∀ p ∈ ob, p.1 = p.2) (hl : live.length = mo) (hn : live.Nodup) (hk : keeps pre.length live = true) (ht : TempsOK (rho live far) tv (Lo y)) (hbl : BlocksOK (rho live far) bl ((Ho y).map some)) : LSpec P f A pre v po := by
  obtain ⟨T, s, h1, rfl, rfl, rfl, h4⟩ := outHead_spec hev
  exact lspec_of F hfn hb hA h1 ho h4 fun ι0 w0 hd ι' a' w' hS hT => hgoal ι0 w0 hd _ y trivial T s live (into_of hl hn ht hbl) hk ι' a' w' hT hS
end
/-! ### A law -/
/-- Blocks of the caller's, by their numbers. -/
def ιRo (bs : List Nat) : Ren := fun k => (bs[k]?).map fun b => (b, 0)
theorem law_of {P : Program} {f : FuncId} {A : Array Value} {pre : List AObj} {post : List (Option AObj)} {v : Value} (h : LSpec P f A pre v post) {w : World} {args' : Array Value} (bs : List Nat) (hl : bs.length = pre.length) (hro : ∀ (j : Nat) (o : AObj), pre[j]? = some o → ∃ (O : Obj) (b : Nat), o = AObj.ro O ∧ bs[j]? = some b ∧ w.heap[b]? = some O) (ha : VRs (ιRo bs) A args') (hv : free v = true) : Calls P f args' w (Ret v w) := by
  have hdom : ∀ k, ιRo bs k ≠ none → k < pre.length := fun k hk => by
    unfold ιRo at hk
    rcases Nat.lt_or_ge k bs.length with h | h
    · omega
    · rw [List.getElem?_eq_none h] at hk; exact absurd rfl hk
  have hC : ∀ k, isC (lk pre k) = false := fun k => by
    unfold lk
    cases hk : pre[k]? with
    | none => rfl
    | some o => obtain ⟨O, b, rfl, _⟩ := hro k o hk; rfl
  have he : Emb P (ιRo bs) (lk pre) w := by
    refine ⟨fun k c t hk => ?_, fun k O hk => ?_, fun k k' b1 b2 h1 => ?_, fun k b1 hk => ?_⟩
    · obtain ⟨O, b, h1, _⟩ := hro k _ hk; cases h1
    · obtain ⟨O', b, h1, h2, h3⟩ := hro k _ hk
      injection h1 with h1 h4; subst h1 h4
      exact ⟨(b, 0), by simp [ιRo, h2], h3⟩
    · rw [hC k] at h1; cases h1
    · have hlt := hdom k (by rw [hk]; simp)
      obtain ⟨O, b, _, h2, h3⟩ := hro k _ (List.getElem?_eq_getElem hlt)
      simp [ιRo, h2] at hk
      rw [← hk]
      exact (Array.getElem?_eq_some_iff.1 h3).1
  refine (h (ιRo bs) w args' hdom ha he).mono ?_
  rintro e w' ⟨v', ι', rfl, hS, _, hvr⟩
  have := hvr.eq_of_free hv
  subst this
  exact ⟨rfl, hS.os, hS.tape, hS.output, hS.size, fun b hb => hS.frame b hb fun k c hk => by rw [hC k] at hk; cases hk⟩
end Ev
end Go.Proofs.YtldlnclkdgfahaaGreat
