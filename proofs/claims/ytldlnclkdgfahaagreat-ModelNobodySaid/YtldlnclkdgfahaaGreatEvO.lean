/- A region that draws its order: any order comes to the same. -/
import Derived.Test.YtldlnclkdgfahaaGreatEvN
namespace Go.Proofs.YtldlnclkdgfahaaGreat
open Go.RowKit
namespace Ev
section
variable {P : Program} {ext : FuncId → Option Ext}

theorem ready_iff {ops : Array Oper} {listed : Array Bool} (hs : listed.size = ops.size) {i : Nat} : i ∈ Region.ready .any ops listed ↔ ∃ o, ops[i]? = some o ∧ listed.getD i false = false ∧ ∀ d ∈ o.after.toList, Region.binds .any d = true → listed.getD d.on false = true := by
  unfold Region.ready
  rw [List.mem_filter]
  simp only [List.mem_range, Bool.and_eq_true, Bool.not_eq_true']
  constructor
  · rintro ⟨hi, h1, h2⟩
    have ho : ops[i]? = some ops[i] := Array.getElem?_eq_getElem hi
    rw [ho] at h2
    simp only [Option.map_some, Option.getD_some, Array.all_eq_true', Bool.or_eq_true, Bool.not_eq_true'] at h2
    refine ⟨ops[i], ho, ?_, fun d hd hb => ?_⟩
    · have hl : i < listed.size := by omega
      simpa [Array.getD, hl] using h1
    · rcases h2 d (by simpa using hd) with h | h
      · rw [hb] at h; cases h
      · exact h
  · rintro ⟨o, ho, h1, h2⟩
    have hi : i < ops.size := (Array.getElem?_eq_some_iff.1 ho).1
    have hl : i < listed.size := by omega
    refine ⟨hi, by simpa [Array.getD, hl] using h1, ?_⟩
    rw [ho]
    simp only [Option.map_some, Option.getD_some, Array.all_eq_true', Bool.or_eq_true, Bool.not_eq_true']
    intro d hd
    cases hb : Region.binds .any d with
    | false => exact .inl rfl
    | true => exact .inr (h2 d (by simpa using hd) hb)
def cnt (L : Nat → Bool) : Nat → Nat
  | 0 => 0
  | p + 1 => cnt L p + if L p then 0 else 1
theorem cnt_add {L : Nat → Bool} {i : Nat} (hL : L i = false) : ∀ p, (p ≤ i → cnt (addL L i) p = cnt L p) ∧ (i < p → cnt (addL L i) p + 1 = cnt L p)
  | 0 => ⟨fun _ => rfl, fun h => by omega⟩
  | p + 1 => by
    obtain ⟨h1, h2⟩ := cnt_add hL p
    refine ⟨fun h => ?_, fun h => ?_⟩
    · have : addL L i p = L p := by unfold addL; rw [if_neg (by omega)]
      rw [cnt, cnt, h1 (by omega), this]
    · by_cases he : p = i
      · subst he
        have : addL L p p = true := by simp [addL]
        rw [cnt, cnt, h1 (Nat.le_refl _), this, hL]
        simp
      · have : addL L i p = L p := by unfold addL; rw [if_neg he]
        rw [cnt, cnt, this]
        have := h2 (by omega)
        omega
theorem cnt_zero {L : Nat → Bool} : ∀ p, cnt L p = 0 → ∀ j, j < p → L j = true
  | 0, _, j, hj => by omega
  | p + 1, h, j, hj => by
    rw [cnt] at h
    by_cases he : j = p
    · subst he
      cases hL : L j with
      | true => rfl
      | false => rw [hL] at h; simp at h
    · exact cnt_zero p (by omega) j (by omega)
theorem put_getD {a : Act} {dst : Option Tmp} {nt : Nat} (hs : a.tmps.size = nt) (hd : okDst nt dst = true) (v : Value) (t : Nat) : (a.put dst v).tmps.getD t undef = if dst = some t then v else a.tmps.getD t undef := by
  cases dst with
  | none => simp [Act.put]
  | some d =>
    have hlt : d < a.tmps.size := by rw [hs]; simpa [okDst, Nat.blt_eq] using hd
    simp only [Act.put]
    by_cases ht : d = t
    · subst ht
      simp [Array.getD, hlt]
    · have : ¬ (some d = some t) := by simpa using ht
      rw [if_neg this]
      simp [Array.getD_eq_getD_getElem?, Array.getElem?_setIfInBounds_ne ht]
variable {nt fu : Nat} {ops : Array Oper} {es : List Ent} {σ : Nat → St} {τ : Nat → Tr Value}
structure Inv (P : Program) (nt : Nat) (D : List Deferred) (es : List Ent) (σ : Nat → St) (τ : Nat → Tr Value) (ι0 : Ren) (w0 : World) (L : Nat → Bool) (a : Act) (w : World) (ι : Ren) : Prop where
  step : Step P ι0 (σ 0).h.get w0 ι (HL es L (σ 0)) w
  dom : ∀ k, ι k ≠ none → ι0 k ≠ none ∨ far ≤ k ∨ ∃ j, L j = true ∧ j < es.length ∧ (σ j).n ≤ k ∧ k < (σ (j + 1)).n
  size : a.tmps.size = nt
  defers : a.defers = D
  temps : ∀ t, VR ι ((TL es L (τ 0) t).getD undef) (a.tmps.getD t undef)
theorem Ctx.order {D : List Deferred} (C : Ctx P ext nt fu ops es σ τ) {ι0 : Ren} {w0 : World} (hf : Fresh ι0 (σ 0).n (σ es.length).n) {Q : Exit → Act → World → Prop}
    (hQ : ∀ ι a w, Step P ι0 (σ 0).h.get w0 ι (σ es.length).h.get w → Dom ι0 ι (σ 0).n (σ es.length).n → TR ι nt D (τ es.length) a → Q .normal a w) :
    ∀ (fuel : Nat) (listed : Array Bool) (a : Act) (w : World) (ι : Ren), listed.size = ops.size → cnt (fun j => listed.getD j false) es.length ≤ fuel → ClosedL es (fun j => listed.getD j false) → Inv P nt D es σ τ ι0 w0 (fun j => listed.getD j false) a w ι →
      wpAny P .any ops Q fuel listed a w := by
  -- all are listed
  have fin : ∀ (listed : Array Bool) (a : Act) (w : World) (ι : Ren), (∀ j, j < es.length → listed.getD j false = true) → Inv P nt D es σ τ ι0 w0 (fun j => listed.getD j false) a w ι → Q .normal a w := fun listed a w ι hall I => by
    have hH : HL es (fun j => listed.getD j false) (σ 0) = (σ es.length).h.get := funext fun k =>
      ovf_agree (S := fun p => (σ p).h.get k) es.length es.length (Nat.le_refl _) (fun p hp => C.chainH k p hp) (fun p hp hL => by rw [hall p hp] at hL; cases hL) (fun p h1 h2 => by omega)
    have hT : ∀ t, TL es (fun j => listed.getD j false) (τ 0) t = (τ es.length).get t := fun t =>
      ovf_agree (S := fun p => (τ p).get t) es.length es.length (Nat.le_refl _) (fun p hp => C.chainT t p hp) (fun p hp hL => by rw [hall p hp] at hL; cases hL) (fun p h1 h2 => by omega)
    refine hQ ι a w (hH ▸ I.step) (fun k hk => ?_) ⟨I.size, I.defers, fun t => hT t ▸ I.temps t⟩
    rcases I.dom k hk with h | h | ⟨j, _, hj, h1, h2⟩
    · exact .inl h
    · exact .inr (.inr h)
    · have := C.mono (i := 0) (j := j) (by omega) (by omega)
      have := C.mono (i := j + 1) (j := es.length) (by omega) (Nat.le_refl _)
      exact .inr (.inl ⟨by omega, by omega⟩)
  have none_ready : ∀ (listed : Array Bool), listed.size = ops.size → Region.ready .any ops listed = [] → ∀ j, j < es.length → listed.getD j false = true := fun listed hs hr => by
    intro j
    induction j using Nat.strongRecOn with
    | _ j ih =>
      intro hj
      obtain ⟨e, he⟩ := C.get hj
      cases hL : listed.getD j false with
      | true => rfl
      | false =>
        exfalso
        have hm : j ∈ Region.ready .any ops listed := (ready_iff hs).2 ⟨e.o, C.op j e he, hL, fun d hd hb => by
          have := okEdges_spec (C.ok j e he).edges d hd hb
          rw [List.length_take] at this
          exact ih d.on (by omega) (by omega)⟩
        rw [hr] at hm
        cases hm
  intro fuel
  induction fuel with
  | zero =>
    intro listed a w ι hs hc _ I
    have hall := cnt_zero es.length (by omega : cnt (fun j => listed.getD j false) es.length = 0)
    refine ⟨?_, fin listed a w ι hall I⟩
    cases hr : Region.ready .any ops listed with
    | nil => rfl
    | cons i l =>
      obtain ⟨o, ho, h1, _⟩ := (ready_iff hs).1 (show i ∈ Region.ready .any ops listed by rw [hr]; simp)
      have hi : i < es.length := by rw [C.len]; exact (Array.getElem?_eq_some_iff.1 ho).1
      have := hall i hi
      rw [h1] at this
      cases this
  | succ fuel ih =>
    intro listed a w ι hs hc hcl I
    refine ⟨fun hr => fin listed a w ι (none_ready listed hs hr) I, fun i hi => ?_⟩
    obtain ⟨o, ho, h1, h2⟩ := (ready_iff hs).1 hi
    have hin : i < es.length := by rw [C.len]; exact (Array.getElem?_eq_some_iff.1 ho).1
    obtain ⟨e, he⟩ := C.get hin
    have heo : e.o = o := by have := C.op i e he; rw [ho] at this; exact (Option.some.inj this).symm
    subst heo
    have R : Ready es (fun j => listed.getD j false) i e := ⟨he, hcl, h1, h2⟩
    obtain ⟨rk, rn0, rn1, _, rsh⟩ := C.rok i e he
    have hK : ∀ k o', Kof e k = some o' → HL es (fun j => listed.getD j false) (σ 0) k = some o' := fun k o' hk => by
      unfold Kof at hk
      split at hk
      · rename_i hsm
        rw [get_pickK] at hk
        split at hk
        · rename_i hm
          rw [C.agreeH R k (fun _ => hm) (fun e => by rw [hsm] at e; cases e)]
          rw [← rsh]; exact hk
        · cases hk
      · rename_i hsm
        rw [rsh] at hk
        rw [C.agreeH R k (fun e => absurd e hsm) (fun _ => C.live i (by omega) k (by rw [hk]; rfl))]
        exact hk
    have hfr : Fresh ι (σ i).n (σ (i + 1)).n := ⟨Nat.le_trans (C.mono (i := i + 1) (j := es.length) (by omega) (Nat.le_refl _)) hf.1, fun k k1 k2 => by
      cases hk : ι k with
      | none => rfl
      | some c =>
        exfalso
        have m1 := C.mono (i := 0) (j := i) (by omega) (by omega)
        have m2 := C.mono (i := i + 1) (j := es.length) (by omega) (Nat.le_refl _)
        rcases I.dom k (by rw [hk]; simp) with h | h | ⟨j, hj, hjn, q1, q2⟩
        · exact h (hf.2 k (by omega) (by omega))
        · have := hf.1; omega
        · by_cases hji : j = i
          · subst hji
            have hj' : listed.getD j false = true := hj
            rw [h1] at hj'; cases hj'
          · rcases Nat.lt_or_ge j i with h | h
            · have := C.mono (i := j + 1) (j := i) (by omega) (by omega); omega
            · have := C.mono (i := i + 1) (j := j) (by omega) (by omega); omega⟩
    have hil : i < listed.size := by rw [hs, ← C.len]; exact hin
    have hL' : (fun j => (listed.setIfInBounds i true).getD j false) = addL (fun j => listed.getD j false) i := funext fun j => by
      unfold addL
      by_cases hj : j = i
      · subst hj; simp [Array.getD, hil]
      · rw [if_neg hj]
        simp [Array.getD_eq_getD_getElem?, Array.getElem?_setIfInBounds_ne (fun e => hj e.symm)]
    refine C.sem i e he ι w a _ Q (fun t ht => ?_) (I.step.emb.sub hK) hfr fun v' w' ι' st dm hv => ?_
    · rw [← C.agreeT R t ht]
      exact I.temps t
    · -- the others stay
      have hX1 : join (Kof e) (fun k => if (Kof e k).isSome then none else HL es (fun j => listed.getD j false) (σ 0) k) = HL es (fun j => listed.getD j false) (σ 0) := funext fun k => by
        cases hk : Kof e k with
        | some o' => rw [join_some (by rw [hk]; rfl), hk, hK k o' hk]
        | none => rw [join_none hk, hk]; rfl
      have hX2 : join (outH e) (fun k => if (Kof e k).isSome then none else HL es (fun j => listed.getD j false) (σ 0) k) = HL es (addL (fun j => listed.getD j false) i) (σ 0) := funext fun k => by
        rw [C.addH R k]
        unfold join outH
        cases hd : Dk e.r k with
        | false =>
          simp only [Bool.false_eq_true, if_false]
          cases hk : Kof e k with
          | some o' => exact (hK k o' hk).symm
          | none => rfl
        | true =>
          simp only [if_true]
          cases hs' : e.s'.h.get k with
          | some o' => rfl
          | none =>
            simp only
            split
            · rfl
            · rename_i hn
              have hkn : Kof e k = none := by
                cases hk : Kof e k with
                | none => rfl
                | some o' => rw [hk] at hn; exact absurd rfl hn
              rcases Dk_iff.1 hd with ⟨q1, q2⟩ | ⟨q1, q2⟩
              · have hlt := rk.lt k q2
                rw [C.agreeH R k (fun _ => List.mem_append_left _ q2) (fun _ => by omega)]
                unfold Kof at hkn
                split at hkn
                · rw [get_pickK, if_pos (List.mem_append_left _ q2), rsh] at hkn; exact hkn
                · rw [rsh] at hkn; exact hkn
              · cases hx : HL es (fun j => listed.getD j false) (σ 0) k with
                | none => rfl
                | some o' =>
                  obtain ⟨b, hb⟩ := I.step.emb.live (k := k) (by rw [hx]; rfl)
                  have := hfr.2 k (by omega) (by omega)
                  rw [this] at hb
                  cases hb
      have fr := Step.framed st (x := fun k => if (Kof e k).isSome then none else HL es (fun j => listed.getD j false) (σ 0) k) (by rw [hX1]; exact I.step.emb) (fun k hk => by
        cases hkk : Kof e k with
        | none => rfl
        | some o' => simp only [hkk] at hk; simp at hk)
      rw [hX1, hX2] at fr
      have hdst := (C.ok i e he).dst
      refine ih (listed.setIfInBounds i true) _ w' ι' (by simpa using hs) ?_ ?_ ?_
      · rw [hL']
        have := (cnt_add (L := fun j => listed.getD j false) (i := i) h1 es.length).2 hin
        omega
      · rw [hL']
        intro j d hd hj x hx hb
        unfold addL at hj ⊢
        split
        · rfl
        · by_cases hji : j = i
          · subst hji
            rw [he] at hd; injection hd with hd; subst hd
            exact h2 x hx hb
          · rw [if_neg hji] at hj
            exact hcl j d hd hj x hx hb
      · rw [hL']
        refine ⟨I.step.trans fr, fun k hk => ?_, ?_, ?_, fun t => ?_⟩
        · rcases dm k hk with h | ⟨q1, q2⟩ | h
          · rcases I.dom k h with h | h | ⟨j, hj, hjn, q1, q2⟩
            · exact .inl h
            · exact .inr (.inl h)
            · exact .inr (.inr ⟨j, by unfold addL; split <;> first | rfl | exact hj, hjn, q1, q2⟩)
          · exact .inr (.inr ⟨i, by simp [addL], hin, q1, q2⟩)
          · exact .inr (.inl h)
        · have := I.size
          cases e.o.dst <;> simp [Act.put, this]
        · have := I.defers
          cases e.o.dst <;> simp [Act.put, this]
        · rw [C.addT R t, put_getD I.size hdst]
          by_cases hdt : e.o.dst = some t
          · rw [if_pos hdt, if_pos hdt]; exact hv
          · rw [if_neg hdt, if_neg hdt]; exact (I.temps t).ext fr.ext
end
end Ev
end Go.Proofs.YtldlnclkdgfahaaGreat
