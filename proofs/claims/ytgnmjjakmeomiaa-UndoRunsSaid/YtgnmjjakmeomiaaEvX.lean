/- Functions with loops: a run stands ahead of a loop, at a round's end, or at the function's end. -/
import Derived.Test.YtgnmjjakmeomiaaEvR
namespace Go.Proofs.Ytgnmjjakmeomiaa
open Go.RowKit
namespace Ev
inductive ZaY where
 | seq (b : Code)
 | blk (id : Nat)
 | scp
 | rnd (i : Nat)
inductive Stop where
 | fin (v : Value) (s : St)
 | head (a : Code) (K : List ZaY) (T : Tr Value) (s : St)
 | next (i : Nat) (T : Tr Value) (s : St)
noncomputable section
def Stop.s : Stop → St
 | .fin _ s => s
 | .head _ _ _ s => s
 | .next _ _ s => s
def Zn9 (P : Program) (fn : Func) (T : Tr Value) (s : St) : Option Value :=
 match ZaR P T s fn.results.toList with
 | some [v] => some v
 | some vs => some (.tuple vs.toArray)
 | none => none
def ZnA (s : St) : Option Value → Option Stop
 | some v => some (.fin v s)
 | none => none
def ZoM (P : Program) (fn : Func) (e : Ex) (T : Tr Value) (s : St) : Option Stop :=
 match e with
 | .exit _ => none
 | .normal => ZnA s (Zn9 P fn T s)
 | .ret => ZnA s (Zn9 P fn T s)
mutual
def ZeI (P : Program) (ext : FuncId → Option Ext) (fn : Func) (nt : Nat) : Nat → Code → List ZaY → Tr Value → St → Option Stop
 | 0, _, _, _, _ => none
 | fu + 1, c, K, T, s => match c with
  | .seq a b => ZeI P ext fn nt fu a (.seq b :: K) T s
  | .scope a => ZeI P ext fn nt fu a (.scp :: K) T s
  | .block id a => ZeI P ext fn nt fu a (.blk id :: K) T s
  | .cond x a b => match opnd T x with
   | .bool t => match t with
    | true => ZeI P ext fn nt fu a K T s
    | false => ZeI P ext fn nt fu b K T s
   | _ => none
  | .loop a => some (.head a K T s)
  | c => match ZI P ext nt fu c T s with
   | some (e, T', s') => Zdg P ext fn nt fu K e T' s'
   | none => none
termination_by structural fu _ _ _ _ => fu
def Zdg (P : Program) (ext : FuncId → Option Ext) (fn : Func) (nt : Nat) : Nat → List ZaY → Ex → Tr Value → St → Option Stop
 | 0, _, _, _, _ => none
 | fu + 1, K, e, T, s => match K with
  | [] => ZoM P fn e T s
  | .seq b :: K => match e with
   | .normal => ZeI P ext fn nt fu b K T s
   | .exit i => Zdg P ext fn nt fu K (.exit i) T s
   | .ret => Zdg P ext fn nt fu K .ret T s
  | .blk id :: K => match e with
   | .exit i => bif Nat.beq i id then Zdg P ext fn nt fu K .normal T s else Zdg P ext fn nt fu K (.exit i) T s
   | .normal => Zdg P ext fn nt fu K .normal T s
   | .ret => Zdg P ext fn nt fu K .ret T s
  | .scp :: K => Zdg P ext fn nt fu K e T s
  | .rnd i :: K => match e with
   | .normal => some (.next i T s)
   | .exit j => Zdg P ext fn nt fu K (.exit j) T s
   | .ret => Zdg P ext fn nt fu K .ret T s
termination_by structural fu _ _ _ _ => fu
end
end
section
variable {P : Program} {ext : FuncId → Option Ext}
theorem Znl {s : St} {o : Option Value} {st : Stop} (h : ZnA s o = some st) : ∃ v, st = .fin v s ∧ o = some v := by
 cases o with
 | none => cases h
 | some v => injection h with h; exact ⟨v, h.symm, rfl⟩
theorem Znm {fn : Func} {e : Ex} {T : Tr Value} {s : St} {st : Stop} (h : ZoM P fn e T s = some st) : ∃ v, st = .fin v s ∧ (match e with | .exit _ => False | _ => True) ∧ (match ZaR P T s fn.results.toList with | some [v] => some v | some vs => some (.tuple vs.toArray) | none => none) = some v := by
 cases e with
 | exit i => cases h
 | normal => obtain ⟨v, h1, h2⟩ := Znl h; exact ⟨v, h1, trivial, h2⟩
 | ret => obtain ⟨v, h1, h2⟩ := Znl h; exact ⟨v, h1, trivial, h2⟩
theorem up_to (F : Fit P ext) {fn : Func} {nt : Nat} : ∀ fu : Nat, (∀ c K T s st, ZeI P ext fn nt fu c K T s = some st → Up s st.s) ∧ (∀ K e T s st, Zdg P ext fn nt fu K e T s = some st → Up s st.s) := by
 intro fu
 induction fu with
 | zero => exact ⟨fun _ _ _ _ _ h => by simp [ZeI] at h, fun _ _ _ _ _ h => by simp [Zdg] at h⟩
 | succ fu ih =>
  obtain ⟨ihT, ihB⟩ := ih
  have other : ∀ c K T s st, (match ZI P ext nt fu c T s with | some (e, T', s') => Zdg P ext fn nt fu K e T' s' | none => none) = some st → Up s st.s := fun c K T s st h => by
   split at h
   ·exact ((ZbC (P := P) (ext := ext) (fun f g hg => (F.hp f g hg).up) fu).1 _ _ _ _ _ _ _ (by assumption)).trans (ihB _ _ _ _ _ h)
   ·cases h
  refine ⟨fun c K T s st h => ?_, fun K e T s st h => ?_⟩
  ·cases c <;> simp only [ZeI] at h
   case seq a b => exact ihT _ _ _ _ _ h
   case scope a => exact ihT _ _ _ _ _ h
   case block id a => exact ihT _ _ _ _ _ h
   case cond x a b =>
    split at h
    ·split at h
     ·exact ihT _ _ _ _ _ h
     ·exact ihT _ _ _ _ _ h
    ·cases h
   case loop a => injection h with h; subst h; exact Up.refl _
   all_goals exact other _ _ _ _ _ h
  ·cases K with
   | nil => simp only [Zdg] at h; obtain ⟨v, rfl, _⟩ := Znm h; exact Up.refl _
   | cons k K =>
    cases k <;> simp only [Zdg] at h
    ·cases e <;> simp only at h
     ·exact ihT _ _ _ _ _ h
     ·exact ihB _ _ _ _ _ h
     ·exact ihB _ _ _ _ _ h
    ·cases e <;> simp only at h
     ·exact ihB _ _ _ _ _ h
     ·rename_i id i
      cases hb : Nat.beq i id <;> rw [hb] at h <;> exact ihB _ _ _ _ _ h
     ·exact ihB _ _ _ _ _ h
    ·exact ihB _ _ _ _ _ h
    ·cases e <;> simp only at h
     ·injection h with h; subst h; exact Up.refl _
     ·exact ihB _ _ _ _ _ h
     ·exact ihB _ _ _ _ _ h
def post (P : Program) (fn : Func) (R : Ending → World → Prop) (Nx : Nat → Act → World → Prop) : List ZaY → Exit → Act → World → Prop
 | [] => bodyPost P fn R
 | .seq b :: K => Exit.then (b.wp P (post P fn R Nx K)) (post P fn R Nx K)
 | .blk id :: K => Exit.inBlock id (post P fn R Nx K)
 | .scp :: K => Exit.noGoto (post P fn R Nx K)
 | .rnd i :: K => Exit.then (Nx i) (post P fn R Nx K)
def ZlL (P : Program) (fn : Func) (R : Ending → World → Prop) (Nx : Nat → Act → World → Prop) (nt : Nat) (ι : Ren) (a : Act) (w : World) : Stop → Prop
 | .fin v _ => ∀ v', VR ι v v' → R (.returned v') w
 | .head b K T _ => TR ι nt [] T a → (Code.loop b).wp P (post P fn R Nx K) a w
 | .next i T _ => TR ι nt [] T a → Nx i a w
theorem Zo1 (F : Fit P ext) {fn : Func} {nt : Nat} {R : Ending → World → Prop} {Nx : Nat → Act → World → Prop} : ∀ fu : Nat,
  (∀ c K T s st, ZeI P ext fn nt fu c K T s = some st → (∀ p ∈ st.s.ob, p.1 = p.2) → ∀ ι a w, TR ι nt [] T a → Emb P ι s.h.get w → Fresh ι s.n st.s.n →
   (∀ ι' a' w', Step P ι s.h.get w ι' st.s.h.get w' → Dom ι ι' s.n st.s.n → ZlL P fn R Nx nt ι' a' w' st) → c.wp P (post P fn R Nx K) a w) ∧
  (∀ K e T s st, Zdg P ext fn nt fu K e T s = some st → (∀ p ∈ st.s.ob, p.1 = p.2) → ∀ ι a w, TR ι nt [] T a → Emb P ι s.h.get w → Fresh ι s.n st.s.n →
   (∀ ι' a' w', Step P ι s.h.get w ι' st.s.h.get w' → Dom ι ι' s.n st.s.n → ZlL P fn R Nx nt ι' a' w' st) → post P fn R Nx K e.out a w) := by
 intro fu
 induction fu with
 | zero => exact ⟨fun _ _ _ _ _ h => by simp [ZeI] at h, fun _ _ _ _ _ h => by simp [Zdg] at h⟩
 | succ fu ih =>
  obtain ⟨ihT, ihB⟩ := ih
  have other : ∀ c K T s st, (match ZI P ext nt fu c T s with | some (e, T', s') => Zdg P ext fn nt fu K e T' s' | none => none) = some st → (∀ p ∈ st.s.ob, p.1 = p.2) → ∀ ι a w, TR ι nt [] T a → Emb P ι s.h.get w → Fresh ι s.n st.s.n →
   (∀ ι' a' w', Step P ι s.h.get w ι' st.s.h.get w' → Dom ι ι' s.n st.s.n → ZlL P fn R Nx nt ι' a' w' st) → c.wp P (post P fn R Nx K) a w := fun c K T s st h ho ι a w hT he hf hQ => by
   split at h
   ·rename_i e T1 s1 h1
    have u1 := (ZbC (P := P) (ext := ext) (fun f g hg => (F.hp f g hg).up) fu).1 _ _ _ _ _ _ _ h1
    have u2 := (up_to F (fn := fn) (nt := nt) fu).2 _ _ _ _ _ h
    refine wp_mono (ZoL F h1 (Zan u2.ob ho) hT he (hf.mono (Nat.le_refl _) u2.n)) ?_
    rintro ex a1 w1 ⟨rfl, ι1, g1, g2, g3⟩
    exact ihB K e T1 s1 st h ho ι1 a1 w1 g3 g1.emb (hf.after g2 u1.n) fun ι' a' w' k1 k2 => hQ ι' a' w' (g1.trans k1) (g2.trans k2 u1.n u2.n)
   ·cases h
  refine ⟨fun c K T s st h ho ι a w hT he hf hQ => ?_, fun K e T s st h ho ι a w hT he hf hQ => ?_⟩
  ·have h0 := h
   cases c <;> simp only [ZeI] at h
   case seq x y => exact wp_seq (ihT x (.seq y :: K) T s st h ho ι a w hT he hf hQ)
   case scope x => exact wp_scope_straight (ihT x (.scp :: K) T s st h ho ι a w hT he hf hQ)
   case block id x => exact wp_block (ihT x (.blk id :: K) T s st h ho ι a w hT he hf hQ)
   case cond x y z =>
    split at h
    ·rename_i t ht
     have hx : a.eval x = .bool t := ZdG ((ht ▸ hT.opnd x : VR ι (.bool t) (Zb0 a x)).bool_inv)
     split at h
     ·exact wp_cond_true hx (ihT y K T s st h ho ι a w hT he hf hQ)
     ·exact wp_cond_false hx (ihT z K T s st h ho ι a w hT he hf hQ)
    ·cases h
   case loop x =>
    injection h with h
    subst h
    exact hQ ι a w (Step.refl he) Dom.refl hT
   all_goals exact other _ K T s st h ho ι a w hT he hf hQ
  ·cases K with
   | nil =>
    simp only [Zdg] at h
    obtain ⟨v, rfl, hne, hr⟩ := Znm h
    obtain ⟨v', hrun, hv⟩ := Zcb hT he hr
    have := hQ ι a w (Step.refl he) Dom.refl v' hv
    cases e with
    | normal => exact ⟨hT.2.1, v', hrun, this⟩
    | ret => exact ⟨hT.2.1, v', hrun, this⟩
    | exit i => exact hne.elim
   | cons k K =>
    cases k with
    | seq b =>
     simp only [Zdg] at h
     cases e with
     | normal => exact ihT b K T s st h ho ι a w hT he hf hQ
     | exit i => exact ihB K (.exit i) T s st h ho ι a w hT he hf hQ
     | ret => exact ihB K .ret T s st h ho ι a w hT he hf hQ
    | blk id =>
     simp only [Zdg] at h
     cases e with
     | normal => exact ihB K .normal T s st h ho ι a w hT he hf hQ
     | ret => exact ihB K .ret T s st h ho ι a w hT he hf hQ
     | exit i =>
      simp only at h
      show if i = id then _ else _
      cases hb : Nat.beq i id with
      | true =>
       rw [hb] at h
       rw [if_pos (Nat.eq_of_beq_eq_true hb)]
       exact ihB K .normal T s st h ho ι a w hT he hf hQ
      | false =>
       rw [hb] at h
       rw [if_neg (fun e => by rw [Zfj e] at hb; cases hb)]
       exact ihB K (.exit i) T s st h ho ι a w hT he hf hQ
    | scp =>
     simp only [Zdg] at h
     have := ihB K e T s st h ho ι a w hT he hf hQ
     cases e <;> exact this
    | rnd i =>
     simp only [Zdg] at h
     cases e with
     | normal =>
      injection h with h
      subst h
      exact hQ ι a w (Step.refl he) Dom.refl hT
     | exit j => exact ihB K (.exit j) T s st h ho ι a w hT he hf hQ
     | ret => exact ihB K .ret T s st h ho ι a w hT he hf hQ
def Zkb (nt m : Nat) (L : Nat → Option Value) (H : Tr AObj) (T : Tr Value) (s : St) (live : List Nat) : Prop :=
 live.length = m ∧ live.Nodup ∧
  (∀ t v, t < nt → L t = some v → v = ZaC (rho live far) 3 ((T.get t).getD undef) ∧ Zaf 3 ((T.get t).getD undef) = true) ∧
  ∀ j o, H.get j = some o → ∃ k, live[j]? = some k ∧ match o with
   | .ro O => s.h.get k = some (.ro O)
   | .cells c t => ∃ c' r, s.h.get k = some (.cells c' t) ∧ c'.map (ZaC (rho live far) 1) = c ++ r ∧ Zu (Zaf 1) c' = true
def ZbZ (n : Nat) (live : List Nat) : Bool := live.take n == List.range n
theorem ZfZ {n : Nat} {live : List Nat} (h : ZbZ n live = true) {k : Nat} (hk : k < n) : live[k]? = some k := by
 have h := beq_iff_eq.1 h
 have : (live.take n)[k]? = some k := by rw [h]; simp [hk]
 rwa [List.getElem?_take_of_lt hk] at this
theorem Zlb {nt m n0 : Nat} {L : Nat → Option Value} {H : Tr AObj} {T : Tr Value} {s : St} {live : List Nat} (hm : m ≤ far) (h : Zkb nt m L H T s live) (hk : ZbZ n0 live = true) {ι0 ι : Ren} (hd : ∀ k, ι0 k ≠ none → k < n0) {h0 : AH} {w0 w : World} {a : Act} (hT : TR ι nt [] T a) (hS : Step P ι0 h0 w0 ι s.h.get w) :
  ∃ gv, At P nt (tmps nt L gv) H.get m far ι0 h0 w0 a w :=
 Znk hT hS live m far h.1 hm h.2.1 (fun k hk2 => ZfZ hk (hd k hk2)) L h.2.2.1 H.get h.2.2.2
end
end Ev
end Go.Proofs.Ytgnmjjakmeomiaa
