/- Part 4. -/
import Derived.Test.YtaifklllpehnmaaGreatDoorZac
set_option linter.unusedSimpArgs false
set_option linter.unusedVariables false
/- The runner, with places to stop at: where a way on of a given depth begins, so many of them left out. -/
namespace Go.Proofs.YtaifklllpehnmaaGreatDoor
open Go.RowKit
namespace Ev
inductive StopC where
 | fin (v : Value) (s : St)
 | head (a : Code) (K : List Zbi) (T : Tr Value) (s : St)
 | next (i : Nat) (T : Tr Value) (s : St)
 | cut (b : Code) (K : List Zbi) (T : Tr Value) (s : St)
noncomputable section
def StopC.s : StopC → St
 | .fin _ s => s
 | .head _ _ _ s => s
 | .next _ _ s => s
 | .cut _ _ _ s => s
def Zpg (s : St) : Option Value → Option StopC
 | some v => some (.fin v s)
 | none => none
def Zsj (P : Program) (fn : Func) (e : Ex) (T : Tr Value) (s : St) : Option StopC :=
 match e with
 | .exit _ => none
 | .normal => Zpg s (Zrl P fn T s)
 | .ret => Zpg s (Zrl P fn T s)
mutual
def ZbJ (P : Program) (ext : FuncId → Option Ext) (fn : Func) (nt : Nat) (cd : Nat) : Nat → Nat → Code → List Zbi → Tr Value → St → Option StopC
 | 0, _, _, _, _, _ => none
 | fu + 1, cm, c, K, T, s => match c with
  | .seq a b => ZbJ P ext fn nt cd fu cm a (.seq b :: K) T s
  | .scope a => ZbJ P ext fn nt cd fu cm a (.scp :: K) T s
  | .block id a => ZbJ P ext fn nt cd fu cm a (.blk id :: K) T s
  | .cond x a b => match opnd T x with
   | .bool t => match t with
    | true => ZbJ P ext fn nt cd fu cm a K T s
    | false => ZbJ P ext fn nt cd fu cm b K T s
   | _ => none
  | .loop a => some (.head a K T s)
  | c => match ZY P ext nt fu c T s with
   | some (e, T', s') => Zbd P ext fn nt cd fu cm K e T' s'
   | none => none
termination_by structural fu _ _ _ _ _ => fu
def Zbd (P : Program) (ext : FuncId → Option Ext) (fn : Func) (nt : Nat) (cd : Nat) : Nat → Nat → List Zbi → Ex → Tr Value → St → Option StopC
 | 0, _, _, _, _, _ => none
 | fu + 1, cm, K, e, T, s => match K with
  | [] => Zsj P fn e T s
  | .seq b :: K => match e with
   | .normal => match Nat.beq K.length cd with
    | false => ZbJ P ext fn nt cd fu cm b K T s
    | true => match cm with
     | 0 => some (.cut b K T s)
     | m + 1 => ZbJ P ext fn nt cd fu m b K T s
   | .exit i => Zbd P ext fn nt cd fu cm K (.exit i) T s
   | .ret => Zbd P ext fn nt cd fu cm K .ret T s
  | .blk id :: K => match e with
   | .exit i => bif Nat.beq i id then Zbd P ext fn nt cd fu cm K .normal T s else Zbd P ext fn nt cd fu cm K (.exit i) T s
   | .normal => Zbd P ext fn nt cd fu cm K .normal T s
   | .ret => Zbd P ext fn nt cd fu cm K .ret T s
  | .scp :: K => Zbd P ext fn nt cd fu cm K e T s
  | .rnd i :: K => match e with
   | .normal => some (.next i T s)
   | .exit j => Zbd P ext fn nt cd fu cm K (.exit j) T s
   | .ret => Zbd P ext fn nt cd fu cm K .ret T s
termination_by structural fu _ _ _ _ _ => fu
end
end
section
variable {P : Program} {ext : FuncId → Option Ext}
theorem Zph {s : St} {o : Option Value} {st : StopC} (h : Zpg s o = some st) : ∃ v, st = .fin v s ∧ o = some v := by
 cases o with
 | none => cases h
 | some v => injection h with h; exact ⟨v, h.symm, rfl⟩
theorem Zpi {fn : Func} {e : Ex} {T : Tr Value} {s : St} {st : StopC} (h : Zsj P fn e T s = some st) : ∃ v, st = .fin v s ∧ (match e with | .exit _ => False | _ => True) ∧ (match ZaA P T s fn.results.toList with | some [v] => some v | some vs => some (.tuple vs.toArray) | none => none) = some v := by
 cases e with
 | exit i => cases h
 | normal => obtain ⟨v, h1, h2⟩ := Zph h; exact ⟨v, h1, trivial, h2⟩
 | ret => obtain ⟨v, h1, h2⟩ := Zph h; exact ⟨v, h1, trivial, h2⟩
theorem Zuc (F : Fit P ext) {fn : Func} {nt cd : Nat} : ∀ fu : Nat, (∀ cm c K T s st, ZbJ P ext fn nt cd fu cm c K T s = some st → Up s st.s) ∧ (∀ cm K e T s st, Zbd P ext fn nt cd fu cm K e T s = some st → Up s st.s) := by
 intro fu
 induction fu with
 | zero => exact ⟨fun _ _ _ _ _ _ h => by simp [ZbJ] at h, fun _ _ _ _ _ _ h => by simp [Zbd] at h⟩
 | succ fu ih =>
  obtain ⟨ihT, ihB⟩ := ih
  have other : ∀ cm c K T s st, (match ZY P ext nt fu c T s with | some (e, T', s') => Zbd P ext fn nt cd fu cm K e T' s' | none => none) = some st → Up s st.s := fun cm c K T s st h => by
   split at h
   ·exact ((ZaF (P := P) (ext := ext) (fun f g hg => (F.hp f g hg).up) fu).1 _ _ _ _ _ _ _ (by assumption)).trans (ihB _ _ _ _ _ _ h)
   ·cases h
  refine ⟨fun cm c K T s st h => ?_, fun cm K e T s st h => ?_⟩
  ·cases c <;> simp only [ZbJ] at h
   case seq a b => exact ihT _ _ _ _ _ _ h
   case scope a => exact ihT _ _ _ _ _ _ h
   case block id a => exact ihT _ _ _ _ _ _ h
   case cond x a b =>
    split at h
    ·split at h
     ·exact ihT _ _ _ _ _ _ h
     ·exact ihT _ _ _ _ _ _ h
    ·cases h
   case loop a => injection h with h; subst h; exact Up.refl _
   all_goals exact other _ _ _ _ _ _ h
  ·cases K with
   | nil => simp only [Zbd] at h; obtain ⟨v, rfl, _⟩ := Zpi h; exact Up.refl _
   | cons k K =>
    cases k <;> simp only [Zbd] at h
    ·cases e <;> simp only at h
     ·split at h
      ·exact ihT _ _ _ _ _ _ h
      ·split at h
       ·injection h with h; subst h; exact Up.refl _
       ·exact ihT _ _ _ _ _ _ h
     ·exact ihB _ _ _ _ _ _ h
     ·exact ihB _ _ _ _ _ _ h
    ·cases e <;> simp only at h
     ·exact ihB _ _ _ _ _ _ h
     ·rename_i id i
      cases hb : Nat.beq i id <;> rw [hb] at h <;> exact ihB _ _ _ _ _ _ h
     ·exact ihB _ _ _ _ _ _ h
    ·exact ihB _ _ _ _ _ _ h
    ·cases e <;> simp only at h
     ·injection h with h; subst h; exact Up.refl _
     ·exact ihB _ _ _ _ _ _ h
     ·exact ihB _ _ _ _ _ _ h
def Zg8 (P : Program) (fn : Func) (R : Ending → World → Prop) (Nx : Nat → Act → World → Prop) (nt : Nat) (ι : Ren) (a : Act) (w : World) : StopC → Prop
 | .fin v _ => ∀ v', VR ι v v' → R (.returned v') w
 | .head b K T _ => TR ι nt [] T a → (Code.loop b).wp P (post P fn R Nx K) a w
 | .next i T _ => TR ι nt [] T a → Nx i a w
 | .cut b K T _ => TR ι nt [] T a → b.wp P (post P fn R Nx K) a w
theorem Zmc (F : Fit P ext) {fn : Func} {nt cd : Nat} {R : Ending → World → Prop} {Nx : Nat → Act → World → Prop} : ∀ fu : Nat,
  (∀ cm c K T s st, ZbJ P ext fn nt cd fu cm c K T s = some st → (∀ p ∈ st.s.ob, p.1 = p.2) → ∀ ι a w, TR ι nt [] T a → Emb P ι s.h.get w → Fresh ι s.n st.s.n →
   (∀ ι' a' w', Step P ι s.h.get w ι' st.s.h.get w' → Dom ι ι' s.n st.s.n → Zg8 P fn R Nx nt ι' a' w' st) → c.wp P (post P fn R Nx K) a w) ∧
  (∀ cm K e T s st, Zbd P ext fn nt cd fu cm K e T s = some st → (∀ p ∈ st.s.ob, p.1 = p.2) → ∀ ι a w, TR ι nt [] T a → Emb P ι s.h.get w → Fresh ι s.n st.s.n →
   (∀ ι' a' w', Step P ι s.h.get w ι' st.s.h.get w' → Dom ι ι' s.n st.s.n → Zg8 P fn R Nx nt ι' a' w' st) → post P fn R Nx K e.out a w) := by
 intro fu
 induction fu with
 | zero => exact ⟨fun _ _ _ _ _ _ h => by simp [ZbJ] at h, fun _ _ _ _ _ _ h => by simp [Zbd] at h⟩
 | succ fu ih =>
  obtain ⟨ihT, ihB⟩ := ih
  have other : ∀ cm c K T s st, (match ZY P ext nt fu c T s with | some (e, T', s') => Zbd P ext fn nt cd fu cm K e T' s' | none => none) = some st → (∀ p ∈ st.s.ob, p.1 = p.2) → ∀ ι a w, TR ι nt [] T a → Emb P ι s.h.get w → Fresh ι s.n st.s.n →
   (∀ ι' a' w', Step P ι s.h.get w ι' st.s.h.get w' → Dom ι ι' s.n st.s.n → Zg8 P fn R Nx nt ι' a' w' st) → c.wp P (post P fn R Nx K) a w := fun cm c K T s st h ho ι a w hT he hf hQ => by
   split at h
   ·rename_i e T1 s1 h1
    have u1 := (ZaF (P := P) (ext := ext) (fun f g hg => (F.hp f g hg).up) fu).1 _ _ _ _ _ _ _ h1
    have u2 := (Zuc F (fn := fn) (nt := nt) fu).2 _ _ _ _ _ _ h
    refine wp_mono (Ztp F h1 (ZV u2.ob ho) hT he (hf.mono (Nat.le_refl _) u2.n)) ?_
    rintro ex a1 w1 ⟨rfl, ι1, g1, g2, g3⟩
    exact ihB _ K e T1 s1 st h ho ι1 a1 w1 g3 g1.emb (hf.after g2 u1.n) fun ι' a' w' k1 k2 => hQ ι' a' w' (g1.trans k1) (g2.trans k2 u1.n u2.n)
   ·cases h
  refine ⟨fun cm c K T s st h ho ι a w hT he hf hQ => ?_, fun cm K e T s st h ho ι a w hT he hf hQ => ?_⟩
  ·have h0 := h
   cases c <;> simp only [ZbJ] at h
   case seq x y => exact wp_seq (ihT _ x (.seq y :: K) T s st h ho ι a w hT he hf hQ)
   case scope x => exact wp_scope_straight (ihT _ x (.scp :: K) T s st h ho ι a w hT he hf hQ)
   case block id x => exact wp_block (ihT _ x (.blk id :: K) T s st h ho ι a w hT he hf hQ)
   case cond x y z =>
    split at h
    ·rename_i t ht
     have hx : a.eval x = .bool t := Zbw ((ht ▸ hT.opnd x : VR ι (.bool t) (ZaI a x)).bool_inv)
     split at h
     ·exact wp_cond_true hx (ihT _ y K T s st h ho ι a w hT he hf hQ)
     ·exact wp_cond_false hx (ihT _ z K T s st h ho ι a w hT he hf hQ)
    ·cases h
   case loop x =>
    injection h with h
    subst h
    exact hQ ι a w (Step.refl he) Dom.refl hT
   all_goals exact other _ _ K T s st h ho ι a w hT he hf hQ
  ·cases K with
   | nil =>
    simp only [Zbd] at h
    obtain ⟨v, rfl, hne, hr⟩ := Zpi h
    obtain ⟨v', hrun, hv⟩ := Zbb hT he hr
    have := hQ ι a w (Step.refl he) Dom.refl v' hv
    cases e with
    | normal => exact ⟨hT.2.1, v', hrun, this⟩
    | ret => exact ⟨hT.2.1, v', hrun, this⟩
    | exit i => exact hne.elim
   | cons k K =>
    cases k with
    | seq b =>
     simp only [Zbd] at h
     cases e with
     | normal =>
      simp only at h
      split at h
      ·exact ihT _ b K T s st h ho ι a w hT he hf hQ
      ·split at h
       ·injection h with h
        subst h
        exact hQ ι a w (Step.refl he) Dom.refl hT
       ·exact ihT _ b K T s st h ho ι a w hT he hf hQ
     | exit i => exact ihB _ K (.exit i) T s st h ho ι a w hT he hf hQ
     | ret => exact ihB _ K .ret T s st h ho ι a w hT he hf hQ
    | blk id =>
     simp only [Zbd] at h
     cases e with
     | normal => exact ihB _ K .normal T s st h ho ι a w hT he hf hQ
     | ret => exact ihB _ K .ret T s st h ho ι a w hT he hf hQ
     | exit i =>
      simp only at h
      show if i = id then _ else _
      cases hb : Nat.beq i id with
      | true =>
       rw [hb] at h
       rw [if_pos (Nat.eq_of_beq_eq_true hb)]
       exact ihB _ K .normal T s st h ho ι a w hT he hf hQ
      | false =>
       rw [hb] at h
       rw [if_neg (fun e => by rw [Zdk e] at hb; cases hb)]
       exact ihB _ K (.exit i) T s st h ho ι a w hT he hf hQ
    | scp =>
     simp only [Zbd] at h
     have := ihB _ K e T s st h ho ι a w hT he hf hQ
     cases e <;> exact this
    | rnd i =>
     simp only [Zbd] at h
     cases e with
     | normal =>
      injection h with h
      subst h
      exact hQ ι a w (Step.refl he) Dom.refl hT
     | exit j => exact ihB _ K (.exit j) T s st h ho ι a w hT he hf hQ
     | ret => exact ihB _ K .ret T s st h ho ι a w hT he hf hQ
end
noncomputable section
def ZgZ (live : List Nat) (r : Option StopC) : Option (Value × List (Option AObj) × List (Bool × Bool)) :=
 match r with
 | some (.fin u s) => bif Nat.ble s.n 1000000000 then some (u, live.map s.h.get, s.ob) else none
 | _ => none
def Ziu (i : Nat) (live temps : List Nat) (r : Option StopC) : Option (List (Option Value) × List (Option AObj) × List (Bool × Bool)) :=
 match r with
 | some (.next j T s) => bif Nat.beq j i && Nat.ble s.n 1000000000 then some (temps.map T.get, live.map s.h.get, s.ob) else none
 | _ => none
def ZfM (live temps : List Nat) (r : Option StopC) : Option ((Code × List Zbi) × List (Option Value) × List (Option AObj) × List (Bool × Bool)) :=
 match r with
 | some (.head b K T s) => bif Nat.ble s.n 1000000000 then some ((b, K), temps.map T.get, live.map s.h.get, s.ob) else none
 | _ => none
end
theorem Zg9 {live : List Nat} {r : Option StopC} {u : Value} {bl : List (Option AObj)} {ob : List (Bool × Bool)} (h : ZgZ live r = some (u, bl, ob)) : ∃ s, r = some (.fin u s) ∧ live.map s.h.get = bl ∧ s.ob = ob ∧ s.n ≤ far := by
 unfold ZgZ at h
 split at h
 ·rename_i u' s
  obtain ⟨hn, h⟩ := Zr h
  injection h with h
  simp only [Prod.mk.injEq] at h
  obtain ⟨rfl, rfl, rfl⟩ := h
  exact ⟨s, rfl, rfl, rfl, Nat.le_of_ble_eq_true hn⟩
 ·cases h
theorem Zmn {i : Nat} {live temps : List Nat} {r : Option StopC} {tv : List (Option Value)} {bl : List (Option AObj)} {ob : List (Bool × Bool)} (h : Ziu i live temps r = some (tv, bl, ob)) : ∃ T s, r = some (.next i T s) ∧ temps.map T.get = tv ∧ live.map s.h.get = bl ∧ s.ob = ob ∧ s.n ≤ far := by
 unfold Ziu at h
 split at h
 ·rename_i j T s
  obtain ⟨hn, h⟩ := Zr h
  simp only [Bool.and_eq_true] at hn
  injection h with h
  simp only [Prod.mk.injEq] at h
  obtain ⟨rfl, rfl, rfl⟩ := h
  exact ⟨T, s, by rw [Nat.eq_of_beq_eq_true hn.1], rfl, rfl, rfl, Nat.le_of_ble_eq_true hn.2⟩
 ·cases h
theorem ZfY {live temps : List Nat} {r : Option StopC} {bK : Code × List Zbi} {tv : List (Option Value)} {bl : List (Option AObj)} {ob : List (Bool × Bool)} (h : ZfM live temps r = some (bK, tv, bl, ob)) : ∃ T s, r = some (.head bK.1 bK.2 T s) ∧ temps.map T.get = tv ∧ live.map s.h.get = bl ∧ s.ob = ob ∧ s.n ≤ far := by
 unfold ZfM at h
 split at h
 ·rename_i b K T s
  obtain ⟨hn, h⟩ := Zr h
  injection h with h
  simp only [Prod.mk.injEq] at h
  obtain ⟨rfl, rfl, rfl, rfl⟩ := h
  exact ⟨T, s, rfl, rfl, rfl, rfl, Nat.le_of_ble_eq_true hn⟩
 ·cases h
section
variable {P : Program} {ext : FuncId → Option Ext}
theorem Zsk (F : Fit P ext) {f : FuncId} {fn : Func} {c : Code} (hfn : P.funcs[f]? = some fn) (hb : fn.body = some c) {A : Array Value} {pre : List AObj} {v : Value} {post : List (Option AObj)} (hA : Nat.ble A.size fn.ntmps = true) {fu : Nat} {orc : Orc} {cd cm : Nat} {st : StopC}
  (hev : ZbJ P ext fn fn.ntmps cd fu cm c [] (Zbq 0 A.toList .nil) ⟨Zcj 0 pre, pre.length, [], orc, []⟩ = some st) (ho : ∀ p ∈ st.s.ob, p.1 = p.2) (hn : st.s.n ≤ far)
  (hto : ∀ ι0 w0, (∀ k, ι0 k ≠ none → k < pre.length ∨ ZcV k) → ∀ ι' a' w', Step P ι0 (lk pre) w0 ι' st.s.h.get w' → Zg8 P fn (Fin P ι0 pre w0 v post) (fun _ _ _ => False) fn.ntmps ι' a' w' st) : LSpec P f A pre v post := by
 intro ι w args' hd ha he
 refine calls_of_wp hfn hb ?_
 have := (Zmc F (R := Fin P ι pre w v post) (Nx := fun _ _ _ => False) fu).1 cm c [] _ _ st hev ho ι _ w (ZbT ha (Nat.le_of_ble_eq_true hA)) (by show Emb P ι (Zcj 0 pre).get w; rw [Zd7]; exact he)
  ⟨hn, fun k h1 h2 => by
   cases hk : ι k with
   | none => rfl
   | some b => exact absurd (hd k (by rw [hk]; simp)) (by have h3 : pre.length ≤ k := h1; have h4 : st.s.n ≤ 1000000000 := hn; have h5 : k < st.s.n := h2; unfold ZcV; omega)⟩
  (fun ι' a' w' g1 _ => hto ι w hd ι' a' w' (by have := g1; simp only [Zd7] at this; exact this))
 exact this
end
end Ev
end Go.Proofs.YtaifklllpehnmaaGreatDoor
/- Functions of loops as machines: states at loops' heads, and a step from each to the next one. -/
namespace Go.Proofs.YtaifklllpehnmaaGreatDoor
open Go.RowKit
namespace Ev
def ZO : List Zbi → List Nat
 | [] => []
 | .rnd i :: K => i :: ZO K
 | .seq _ :: K => ZO K
 | .blk _ :: K => ZO K
 | .scp :: K => ZO K
def Zb9 {X R : Type} (step : X → Option (X ⊕ R)) : Nat → X → Option R
 | 0, _ => none
 | n + 1, x => match step x with
  | none => none
  | some (.inl y) => Zb9 step n y
  | some (.inr r) => some r
def goM {X R : Type} (step : X → Option (X ⊕ R)) (n : Nat) (o : Option (X ⊕ R)) : Option R :=
 match o with
 | none => none
 | some (.inl y) => Zb9 step n y
 | some (.inr r) => some r
theorem ZbW (n : Nat) (h : Nat.ble n 1000000000 = true) : n ≤ far := Nat.le_of_ble_eq_true h
theorem Zmd {P : Program} {c : Code} {Q : Exit → Act → World → Prop} : ∀ (n m : Nat), n ≤ m → ∀ a w, Code.rounds P c Q n a w → Code.rounds P c Q m a w
 | 0, _, _, _, _, h => h.elim
 | n + 1, 0, hm, _, _, _ => by omega
 | n + 1, m + 1, hm, a, w, h => by
  rw [rounds_succ] at h ⊢
  refine wp_mono h ?_
  intro e a' w' h'
  cases e with
  | normal => exact Zmd n m (by omega) a' w' h'
  | exit i => exact h'
  | goto l => exact h'
  | ret => exact h'
  | panic ch => exact h'
  | outgrown => exact h'
theorem ZcM {P : Program} {fn : Func} {R : Ending → World → Prop} {Nx Nx' : Nat → Act → World → Prop} : ∀ {K : List Zbi}, (∀ j ∈ ZO K, Nx' j = Nx j) → post P fn R Nx' K = post P fn R Nx K
 | [], _ => rfl
 | .seq b :: K, h => by simp only [post]; rw [ZcM (K := K) h]
 | .blk id :: K, h => by simp only [post]; rw [ZcM (K := K) h]
 | .scp :: K, h => by simp only [post]; rw [ZcM (K := K) h]
 | .rnd j :: K, h => by
  simp only [post]
  rw [ZcM (K := K) fun j hj => h j (List.mem_cons_of_mem _ hj), h j (List.mem_cons_self ..)]
noncomputable def ZdE : Nat → List (Option AObj) → Tr AObj
 | _, [] => .nil
 | i, none :: l => ZdE (i + 1) l
 | i, some o :: l => (ZdE (i + 1) l).set i (some o)
theorem ZgA : ∀ (l : List (Option AObj)) (i k : Nat), (ZdE i l).get k = if i ≤ k then (l[k - i]?).join else none
 | [], i, k => by
  show (Tr.nil : Tr AObj).get k = _
  rw [Tr.get_nil]
  split <;> simp
 | none :: l, i, k => by
  show (ZdE (i + 1) l).get k = _
  rw [ZgA l (i + 1) k]
  by_cases h : i + 1 ≤ k
  ·rw [if_pos h, if_pos (by omega)]
   have : k - i = (k - (i + 1)) + 1 := by omega
   rw [this, List.getElem?_cons_succ]
  ·rw [if_neg h]
   by_cases hk : i ≤ k
   ·rw [if_pos hk, show k - i = 0 by omega]; rfl
   ·rw [if_neg hk]
 | some o :: l, i, k => by
  show ((ZdE (i + 1) l).set i (some o)).get k = _
  rw [Tr.get_set]
  by_cases hk : k = i
  ·subst hk; rw [Zz, if_pos (Nat.le_refl _)]; simp
  ·rw [Zu hk, ZgA l (i + 1) k]
   by_cases h : i + 1 ≤ k
   ·rw [if_pos h, if_pos (by omega)]
    have : k - i = (k - (i + 1)) + 1 := by omega
    rw [this, List.getElem?_cons_succ]
   ·rw [if_neg h, if_neg (by omega)]
theorem Zte (l : List (Option AObj)) : (ZdE 0 l).get = lkO l := funext fun k => by rw [ZgA]; simp [lkO]
theorem Ziv {nt m : Nat} {lt : List (Nat × Value)} {H : List (Option AObj)} {T : Tr Value} {s : St} {live : List Nat} (hl : live.length = m) (hn : live.Nodup) (ht : Ze3 (rho live far) ((lt.map (·.1)).map T.get) lt) (hb : Zbu (rho live far) (live.map s.h.get) H) : ZsQ nt m (fun t => Za6 t lt) (ZdE 0 H) T s live := by
 refine ⟨hl, hn, fun t v _ h => Zpc ht t v h, fun j o ho => ?_⟩
 rw [Zte] at ho
 exact Zc9 hb j o ho
structure Mach where
 fn : Func
 pre : List AObj
 X : Type
 R : Type
 step : X → Option (X ⊕ R)
 hd : X → Nat
 code : Nat → Code × List Zbi
 isL : Nat → Bool
 L : X → List (Nat × Value)
 H : X → List (Option AObj)
 V : R → Value
 Po : R → List (Option AObj)
namespace Mach
def after (M : Mach) (n : Nat) : M.X ⊕ M.R → Option M.R
 | .inl y => Zb9 M.step n y
 | .inr r => some r
def KK (M : Mach) (i : Nat) : List Zbi := match M.isL i with | true => .rnd i :: (M.code i).2 | false => (M.code i).2
def IntoM (M : Mach) (y : M.X) (T : Tr Value) (s : St) : Prop :=
 ∃ live, Zcy M.pre.length live = true ∧ ZsQ M.fn.ntmps (M.H y).length (fun t => Za6 t (M.L y)) (ZdE 0 (M.H y)) T s live
def To (M : Mach) (K0 : List Zbi) : StopC → M.X ⊕ M.R → Prop
 | .fin u s, .inr r => ∃ live, Zkk M.pre.length (M.V r) (M.Po r) u s live
 | .next j T s, .inl y => j = M.hd y ∧ M.isL j = true ∧ j ∈ ZO K0 ∧ M.IntoM y T s
 | .head b K T s, .inl y => M.isL (M.hd y) = true ∧ (b, K) = M.code (M.hd y) ∧ (∀ j ∈ ZO K, j ∈ ZO K0) ∧ M.IntoM y T s
 | .cut b K T s, .inl y => M.isL (M.hd y) = false ∧ (b, K) = M.code (M.hd y) ∧ (∀ j ∈ ZO K, j ∈ ZO K0) ∧ M.IntoM y T s
 | _, _ => False
noncomputable def Start (M : Mach) (x : M.X) (gv : Nat → Value) (P : Program) (ext : FuncId → Option Ext) (cd cm fu : Nat) (orc : Orc) : Option StopC :=
 ZbJ P ext M.fn M.fn.ntmps cd fu cm (M.code (M.hd x)).1 (M.KK (M.hd x)) (tmps M.fn.ntmps (fun t => Za6 t (M.L x)) gv) ⟨ZdE 0 (M.H x), (M.H x).length, [], orc, []⟩
noncomputable def Ok (M : Mach) (P : Program) (ext : FuncId → Option Ext) (x : M.X) (o : Option (M.X ⊕ M.R)) : Prop :=
 ∀ y, o = some y → ∀ gv, ∃ cd cm fu orc st, M.Start x gv P ext cd cm fu orc = some st ∧ (∀ p ∈ st.s.ob, p.1 = p.2) ∧ st.s.n ≤ far ∧ M.To (M.KK (M.hd x)) st y
def AtM (M : Mach) (P : Program) (ι0 : Ren) (w0 : World) (y : M.X) (gv : Nat → Value) (a : Act) (w : World) : Prop :=
 At P M.fn.ntmps (tmps M.fn.ntmps (fun t => Za6 t (M.L y)) gv) (ZdE 0 (M.H y)).get (M.H y).length far ι0 (lk M.pre) w0 a w
section
variable {P : Program} {ext : FuncId → Option Ext}
def Good (M : Mach) (P : Program) (r : M.R) (ι0 : Ren) (w0 : World) (n : Nat) (x : M.X) (Nx : Nat → Act → World → Prop) (a : Act) (w : World) : Prop :=
 match M.isL (M.hd x) with
 | true => Code.rounds P (M.code (M.hd x)).1 (post P M.fn (Fin P ι0 M.pre w0 (M.V r) (M.Po r)) Nx (M.code (M.hd x)).2) n a w
 | false => (M.code (M.hd x)).1.wp P (post P M.fn (Fin P ι0 M.pre w0 (M.V r) (M.Po r)) Nx (M.code (M.hd x)).2) a w
def Outer (M : Mach) (P : Program) (r : M.R) (ι0 : Ren) (w0 : World) (n : Nat) (js : List Nat) (Nx : Nat → Act → World → Prop) : Prop :=
 ∀ m z, m < n → Zb9 M.step m z = some r → M.isL (M.hd z) = true → M.hd z ∈ js → ∀ gv a w, M.AtM P ι0 w0 z gv a w → Nx (M.hd z) a w
theorem run1 (M : Mach) (hH : ∀ x, (M.H x).length ≤ far) (hPo : ∀ r, (M.Po r).length ≤ far) (r : M.R) {ι0 : Ren} {w0 : World} (hd0 : ∀ k, ι0 k ≠ none → k < M.pre.length ∨ ZcV k) (n : Nat)
  (ih : ∀ m, m ≤ n → ∀ x, Zb9 M.step m x = some r → ∀ Nx, M.Outer P r ι0 w0 m (ZO (M.code (M.hd x)).2) Nx → ∀ gv a w, M.AtM P ι0 w0 x gv a w → M.Good P r ι0 w0 m x Nx a w)
  {K0 : List Zbi} {Nx : Nat → Act → World → Prop} (hNx : M.Outer P r ι0 w0 (n + 1) (ZO K0) Nx) {st : StopC} {y : M.X ⊕ M.R} (hto : M.To K0 st y) (hy : M.after n y = some r)
  {ι : Ren} {a : Act} {w : World} (hS : Step P ι0 (lk M.pre) w0 ι st.s.h.get w) : Zg8 P M.fn (Fin P ι0 M.pre w0 (M.V r) (M.Po r)) Nx M.fn.ntmps ι a w st := by
 have sub : ∀ {K : List Zbi}, (∀ j ∈ ZO K, j ∈ ZO K0) → M.Outer P r ι0 w0 n (ZO K) Nx := fun {K} hs m z hm hz hl hj gv a w hat => hNx m z (by omega) hz hl (hs _ hj) gv a w hat
 cases st with
 | fin u s =>
  cases y with
  | inl y => exact hto.elim
  | inr r' =>
   obtain ⟨live, hto⟩ := hto
   obtain rfl : r' = r := Option.some.inj hy
   exact fun v' hv => ZoP (hPo r') hd0 hto hS hv
 | next j T s =>
  cases y with
  | inr r' => exact hto.elim
  | inl y =>
   obtain ⟨rfl, hl, hj, live, hk, hi⟩ := hto
   intro hT
   obtain ⟨gv, hat⟩ := Zla (hH y) hi hk hd0 hT hS
   exact hNx n y (by omega) hy hl hj gv a w hat
 | head b K T s =>
  cases y with
  | inr r' => exact hto.elim
  | inl y =>
   obtain ⟨hl, hc, hsub, live, hk, hi⟩ := hto
   intro hT
   obtain ⟨gv, hat⟩ := Zla (hH y) hi hk hd0 hT hS
   have e1 : b = (M.code (M.hd y)).1 := congrArg Prod.fst hc
   have e2 : K = (M.code (M.hd y)).2 := congrArg Prod.snd hc
   subst e1 e2
   have := ih n (Nat.le_refl _) y hy Nx (sub hsub) gv a w hat
   unfold Good at this
   rw [hl] at this
   exact wp_loop_rounds n this
 | cut b K T s =>
  cases y with
  | inr r' => exact hto.elim
  | inl y =>
   obtain ⟨hl, hc, hsub, live, hk, hi⟩ := hto
   intro hT
   obtain ⟨gv, hat⟩ := Zla (hH y) hi hk hd0 hT hS
   have e1 : b = (M.code (M.hd y)).1 := congrArg Prod.fst hc
   have e2 : K = (M.code (M.hd y)).2 := congrArg Prod.snd hc
   subst e1 e2
   have := ih n (Nat.le_refl _) y hy Nx (sub hsub) gv a w hat
   unfold Good at this
   rw [hl] at this
   exact this
theorem rounds (F : Fit P ext) (M : Mach) (hH : ∀ x, (M.H x).length ≤ far) (hPo : ∀ r, (M.Po r).length ≤ far) (hK : ∀ x, M.isL (M.hd x) = true → M.hd x ∉ ZO (M.code (M.hd x)).2) (ok : ∀ x, M.Ok P ext x (M.step x)) (r : M.R) {ι0 : Ren} {w0 : World} (hd0 : ∀ k, ι0 k ≠ none → k < M.pre.length ∨ ZcV k) :
  ∀ (n : Nat) (x : M.X), Zb9 M.step n x = some r → ∀ Nx, M.Outer P r ι0 w0 n (ZO (M.code (M.hd x)).2) Nx → ∀ gv a w, M.AtM P ι0 w0 x gv a w → M.Good P r ι0 w0 n x Nx a w := by
 intro n
 induction n using Nat.strongRecOn with
 | ind n ih =>
  intro x hx Nx hNx gv a w hat
  cases n with
  | zero => cases hx
  | succ n =>
   have hat0 := hat
   obtain ⟨ι, hT, hS, hfr⟩ := hat
   cases hy : M.step x with
   | none => simp only [Zb9, hy] at hx; cases hx
   | some y =>
    obtain ⟨cd, cm, fu, orc, st, hev, ho, hn, hto⟩ := ok x y hy gv
    have hyr : M.after n y = some r := by
     cases y <;> (simp only [Zb9, hy] at hx; exact hx)
    have fresh : Fresh ι (M.H x).length st.s.n := ⟨hn, fun k h1 h2 => hfr k h1 (Nat.lt_of_lt_of_le h2 hn)⟩
    have ih' : ∀ m, m ≤ n → ∀ x, Zb9 M.step m x = some r → ∀ Nx, M.Outer P r ι0 w0 m (ZO (M.code (M.hd x)).2) Nx → ∀ gv a w, M.AtM P ι0 w0 x gv a w → M.Good P r ι0 w0 m x Nx a w := fun m hm => ih m (by omega)
    have go : ∀ Nx', M.Outer P r ι0 w0 (n + 1) (ZO (M.KK (M.hd x))) Nx' → (M.code (M.hd x)).1.wp P (post P M.fn (Fin P ι0 M.pre w0 (M.V r) (M.Po r)) Nx' (M.KK (M.hd x))) a w := fun Nx' hNx' =>
     (Zmc F (R := Fin P ι0 M.pre w0 (M.V r) (M.Po r)) (Nx := Nx') fu).1 cm _ _ _ _ st hev ho ι a w hT hS.emb fresh fun ι' a' w' g1 _ => run1 M hH hPo r hd0 n ih' hNx' hto hyr (hS.trans g1)
    unfold Good
    cases hl : M.isL (M.hd x) with
    | false =>
     have e : M.KK (M.hd x) = (M.code (M.hd x)).2 := by unfold KK; rw [hl]
     rw [e] at go
     exact go Nx hNx
    | true =>
     have e : M.KK (M.hd x) = .rnd (M.hd x) :: (M.code (M.hd x)).2 := by unfold KK; rw [hl]
     rw [e] at go
     show Code.rounds P _ _ (n + 1) a w
     rw [rounds_succ]
     let Nx' : Nat → Act → World → Prop := fun j => if j = M.hd x then Code.rounds P (M.code (M.hd x)).1 (post P M.fn (Fin P ι0 M.pre w0 (M.V r) (M.Po r)) Nx (M.code (M.hd x)).2) n else Nx j
     have n1 : Nx' (M.hd x) = Code.rounds P (M.code (M.hd x)).1 (post P M.fn (Fin P ι0 M.pre w0 (M.V r) (M.Po r)) Nx (M.code (M.hd x)).2) n := if_pos rfl
     have n2 : ∀ j, j ≠ M.hd x → Nx' j = Nx j := fun j hj => if_neg hj
     have hp : post P M.fn (Fin P ι0 M.pre w0 (M.V r) (M.Po r)) Nx' (M.code (M.hd x)).2 = post P M.fn (Fin P ι0 M.pre w0 (M.V r) (M.Po r)) Nx (M.code (M.hd x)).2 := ZcM fun j hj => n2 j fun e => by subst e; exact hK x hl hj
     have := go Nx' fun m z hm hz hlz hj gv a w hat => by
      by_cases hzx : M.hd z = M.hd x
      ·rw [hzx, n1]
       have := ih m (by omega) z hz Nx (fun m' z' h1 h2 h3 h4 => hNx m' z' (by omega) h2 h3 (by rw [hzx] at h4; exact h4)) gv a w hat
       unfold Good at this
       rw [hlz] at this
       rw [hzx] at this
       exact Zmd m n (by omega) a w this
      ·rw [n2 _ hzx]
       rcases List.mem_cons.1 hj with h | h
       ·exact absurd h hzx
       ·exact hNx m z (by omega) hz hlz h gv a w hat
     simp only [post, hp, n1] at this
     exact this
noncomputable def Enter (M : Mach) (P : Program) (ext : FuncId → Option Ext) (A : Array Value) (o : Option (M.X ⊕ M.R)) : Prop :=
 ∀ y, o = some y → ∃ cd cm fu orc st, ZbJ P ext M.fn M.fn.ntmps cd fu cm (ZdD M.fn) [] (Zbq 0 A.toList .nil) ⟨Zcj 0 M.pre, M.pre.length, [], orc, []⟩ = some st ∧ (∀ p ∈ st.s.ob, p.1 = p.2) ∧ st.s.n ≤ far ∧ M.To [] st y
theorem spec (F : Fit P ext) (M : Mach) {f : FuncId} (hfn : P.funcs[f]? = some M.fn) (hb : M.fn.body = some (ZdD M.fn)) {A : Array Value} (hA : Nat.ble A.size M.fn.ntmps = true) (hH : ∀ x, (M.H x).length ≤ far) (hPo : ∀ r, (M.Po r).length ≤ far) (hK : ∀ x, M.isL (M.hd x) = true → M.hd x ∉ ZO (M.code (M.hd x)).2)
  (ok : ∀ x, M.Ok P ext x (M.step x)) {o : Option (M.X ⊕ M.R)} (en : M.Enter P ext A o) {n : Nat} {r : M.R} (h : goM M.step n o = some r) : LSpec P f A M.pre (M.V r) (M.Po r) := by
 cases o with
 | none => cases h
 | some y =>
  obtain ⟨cd, cm, fu, orc, st, hev, ho, hn, hto⟩ := en y rfl
  refine Zsk F hfn hb hA hev ho hn fun ι0 w0 hd ι' a' w' hS => ?_
  exact run1 M hH hPo r hd n (fun m _ => rounds F M hH hPo hK ok r hd m) (K0 := []) (fun m z _ _ _ hj => by cases hj) hto (by cases y <;> exact h) hS
end
/-! ### How leaves are written -/
section
variable {P : Program} {ext : FuncId → Option Ext} {M : Mach} {x : M.X} {cd cm fu : Nat} {orc : Orc} {live : List Nat} {bl : List (Option AObj)} {ob : List (Bool × Bool)}
theorem ok_none : M.Ok P ext x none := fun _ h => by cases h
theorem ok_ite {c : Prop} [Decidable c] {A B : Option (M.X ⊕ M.R)} (h1 : c → M.Ok P ext x A) (h2 : ¬ c → M.Ok P ext x B) : M.Ok P ext x (if c then A else B) := by
 by_cases h : c
 ·rw [if_pos h]; exact h1 h
 ·rw [if_neg h]; exact h2 h
theorem ok_bind {α : Type} {o : Option α} {k : α → Option (M.X ⊕ M.R)} (h : ∀ r, o = some r → M.Ok P ext x (k r)) : M.Ok P ext x (o.bind k) := by
 cases o with
 | none => exact ok_none
 | some r => exact h r rfl
theorem ok_fin {r : M.R} {u : Value} (hev : ∀ gv, ZgZ live (M.Start x gv P ext cd cm fu orc) = some (u, bl, ob)) (ho : ∀ p ∈ ob, p.1 = p.2) (hl : live.length = (M.Po r).length) (hn : live.Nodup) (hk : Zcy M.pre.length live = true) (hv : M.V r = Za2 (rho live far) 3 u ∧ Zam 3 u = true) (hbl : Zbu (rho live far) bl (M.Po r)) : M.Ok P ext x (some (.inr r)) := by
 intro y hy gv
 obtain rfl := Option.some.inj hy
 obtain ⟨s, h1, rfl, rfl, h4⟩ := Zg9 (hev gv)
 exact ⟨cd, cm, fu, orc, _, h1, ho, h4, live, hl, hn, hk, hv, Zc9 hbl⟩
theorem ok_next {y : M.X} {tv : (Nat → Value) → List (Option Value)} (hL : M.isL (M.hd y) = true) (hr : M.hd y ∈ ZO (M.KK (M.hd x))) (hev : ∀ gv, Ziu (M.hd y) live ((M.L y).map (·.1)) (M.Start x gv P ext cd cm fu orc) = some (tv gv, bl, ob)) (ho : ∀ p ∈ ob, p.1 = p.2) (hl : live.length = (M.H y).length) (hn : live.Nodup) (hk : Zcy M.pre.length live = true) (ht : ∀ gv, Ze3 (rho live far) (tv gv) (M.L y)) (hbl : Zbu (rho live far) bl (M.H y)) : M.Ok P ext x (some (.inl y)) := by
 intro y' hy gv
 obtain rfl := Option.some.inj hy
 obtain ⟨T, s, h1, h2, rfl, rfl, h4⟩ := Zmn (hev gv)
 exact ⟨cd, cm, fu, orc, _, h1, ho, h4, rfl, hL, hr, live, hk, Ziv hl hn (h2 ▸ ht gv) hbl⟩
theorem ok_head {y : M.X} {tv : (Nat → Value) → List (Option Value)} {bK : Code × List Zbi} (hL : M.isL (M.hd y) = true) (hr : bK = M.code (M.hd y)) (hsub : ∀ j ∈ ZO (M.code (M.hd y)).2, j ∈ ZO (M.KK (M.hd x))) (hev : ∀ gv, ZfM live ((M.L y).map (·.1)) (M.Start x gv P ext cd cm fu orc) = some (bK, tv gv, bl, ob)) (ho : ∀ p ∈ ob, p.1 = p.2) (hl : live.length = (M.H y).length) (hn : live.Nodup) (hk : Zcy M.pre.length live = true) (ht : ∀ gv, Ze3 (rho live far) (tv gv) (M.L y)) (hbl : Zbu (rho live far) bl (M.H y)) : M.Ok P ext x (some (.inl y)) := by
 intro y' hy gv
 obtain rfl := Option.some.inj hy
 obtain ⟨T, s, h1, h2, rfl, rfl, h4⟩ := ZfY (hev gv)
 exact ⟨cd, cm, fu, orc, _, h1, ho, h4, hL, hr, by rw [hr]; exact hsub, live, hk, Ziv hl hn (h2 ▸ ht gv) hbl⟩
variable {A : Array Value}
noncomputable def startE (M : Mach) (P : Program) (ext : FuncId → Option Ext) (A : Array Value) (cd cm fu : Nat) (orc : Orc) : Option StopC :=
 ZbJ P ext M.fn M.fn.ntmps cd fu cm (ZdD M.fn) [] (Zbq 0 A.toList .nil) ⟨Zcj 0 M.pre, M.pre.length, [], orc, []⟩
theorem en_ite {c : Prop} [Decidable c] {B C : Option (M.X ⊕ M.R)} (h1 : c → M.Enter P ext A B) (h2 : ¬ c → M.Enter P ext A C) : M.Enter P ext A (if c then B else C) := by
 by_cases h : c
 ·rw [if_pos h]; exact h1 h
 ·rw [if_neg h]; exact h2 h
theorem en_fin {r : M.R} {u : Value} (hev : ZgZ live (M.startE P ext A cd cm fu orc) = some (u, bl, ob)) (ho : ∀ p ∈ ob, p.1 = p.2) (hl : live.length = (M.Po r).length) (hn : live.Nodup) (hk : Zcy M.pre.length live = true) (hv : M.V r = Za2 (rho live far) 3 u ∧ Zam 3 u = true) (hbl : Zbu (rho live far) bl (M.Po r)) : M.Enter P ext A (some (.inr r)) := by
 intro y hy
 obtain rfl := Option.some.inj hy
 obtain ⟨s, h1, rfl, rfl, h4⟩ := Zg9 hev
 exact ⟨cd, cm, fu, orc, _, h1, ho, h4, live, hl, hn, hk, hv, Zc9 hbl⟩
theorem en_head {y : M.X} {tv : List (Option Value)} {bK : Code × List Zbi} (hL : M.isL (M.hd y) = true) (hr : bK = M.code (M.hd y)) (hsub : ZO (M.code (M.hd y)).2 = []) (hev : ZfM live ((M.L y).map (·.1)) (M.startE P ext A cd cm fu orc) = some (bK, tv, bl, ob)) (ho : ∀ p ∈ ob, p.1 = p.2) (hl : live.length = (M.H y).length) (hn : live.Nodup) (hk : Zcy M.pre.length live = true) (ht : Ze3 (rho live far) tv (M.L y)) (hbl : Zbu (rho live far) bl (M.H y)) : M.Enter P ext A (some (.inl y)) := by
 intro y' hy
 obtain rfl := Option.some.inj hy
 obtain ⟨T, s, h1, rfl, rfl, rfl, h4⟩ := ZfY hev
 exact ⟨cd, cm, fu, orc, _, h1, ho, h4, hL, hr, (fun j hj => by rw [show bK.2 = (M.code (M.hd y)).2 from congrArg Prod.snd hr, hsub] at hj; cases hj), live, hk, Ziv hl hn ht hbl⟩
end
end Mach
/-! ### Functions without loops -/
section
variable {P : Program} {ext : FuncId → Option Ext} {fn : Func} {pre : List AObj} {A : Array Value} {R : Type} {V : R → Value} {Po : R → List (Option AObj)} {live : List Nat} {bl : List (Option AObj)} {ob : List (Bool × Bool)} {fu : Nat} {orc : Orc}
noncomputable def Zsl (P : Program) (ext : FuncId → Option Ext) (fn : Func) (pre : List AObj) (A : Array Value) (fu : Nat) (orc : Orc) : Option Stop :=
 ZcW P ext fn fn.ntmps fu (ZdD fn) [] (Zbq 0 A.toList .nil) ⟨Zcj 0 pre, pre.length, [], orc, []⟩
noncomputable def Fx (P : Program) (ext : FuncId → Option Ext) (fn : Func) (pre : List AObj) (A : Array Value) {R : Type} (V : R → Value) (Po : R → List (Option AObj)) (o : Option R) : Prop :=
 ∀ r, o = some r → ∃ fu orc u s, Zsl P ext fn pre A fu orc = some (.fin u s) ∧ (∀ p ∈ s.ob, p.1 = p.2) ∧ s.n ≤ far ∧ ∃ live, Zkk pre.length (V r) (Po r) u s live
theorem Zha : Fx P ext fn pre A V Po none := fun _ h => by cases h
theorem Zds {c : Prop} [Decidable c] {B C : Option R} (h1 : c → Fx P ext fn pre A V Po B) (h2 : ¬ c → Fx P ext fn pre A V Po C) : Fx P ext fn pre A V Po (if c then B else C) := by
 by_cases h : c
 ·rw [if_pos h]; exact h1 h
 ·rw [if_neg h]; exact h2 h
theorem Ze4 {α : Type} {o : Option α} {k : α → Option R} (h : ∀ r, o = some r → Fx P ext fn pre A V Po (k r)) : Fx P ext fn pre A V Po (o.bind k) := by
 cases o with
 | none => exact Zha
 | some r => exact h r rfl
theorem Zdt {r : R} {u : Value} (hev : ZaG live (Zsl P ext fn pre A fu orc) = some (u, bl, ob)) (ho : ∀ p ∈ ob, p.1 = p.2) (hl : live.length = (Po r).length) (hn : live.Nodup) (hk : Zcy pre.length live = true) (hv : V r = Za2 (rho live far) 3 u ∧ Zam 3 u = true) (hbl : Zbu (rho live far) bl (Po r)) : Fx P ext fn pre A V Po (some r) := by
 intro r' hr
 obtain rfl := Option.some.inj hr
 obtain ⟨s, h1, rfl, rfl, h4⟩ := Zid hev
 exact ⟨fu, orc, u, s, h1, ho, h4, live, hl, hn, hk, hv, Zc9 hbl⟩
theorem Zlj (F : Fit P ext) {f : FuncId} (hfn : P.funcs[f]? = some fn) (hb : fn.body = some (ZdD fn)) (hA : Nat.ble A.size fn.ntmps = true) (hPo : ∀ r, (Po r).length ≤ far) {o : Option R} (h : Fx P ext fn pre A V Po o) {r : R} (hr : o = some r) : LSpec P f A pre (V r) (Po r) := by
 obtain ⟨fu, orc, u, s, h1, h2, h3, live, h4⟩ := h r hr
 exact ZrZ F hfn hb hA h1 h2 h3 (hPo r) live h4
end
theorem Zde {P : Program} {f : FuncId} {A A' : Array Value} {pre : List (Nat × AObj)} {v : Value} {post : List (Nat × Option AObj)} {n dn : Nat} (e : A = A') (h : ZaK P f A' pre v post n dn) : ZaK P f A pre v post n dn := e ▸ h
def Zlk (a b : List Int) : Bool := Za a == Za b
end Ev
end Go.Proofs.YtaifklllpehnmaaGreatDoor
/- Rows of elements of any kind: each element so many cells. -/
namespace Go.Proofs.YtaifklllpehnmaaGreatDoor
open Go.RowKit
namespace Ev
def Zep : List Cell → Bool
 | [] => true
 | .any :: _ => false
 | .i _ :: l => Zep l
 | .b _ :: l => Zep l
 | .k _ _ :: l => Zep l
 | .s _ :: l => Zep l
 | .m _ _ _ _ :: l => Zep l
structure Enc (α : Type) where
 cel : α → List Cell
 w : Nat
 dflt : α
 clen : ∀ a, (cel a).length = w
 sure : ∀ a, Zep (cel a) = true
def Enc.enc {α : Type} (E : Enc α) (a : α) : List Value := ZJ (E.cel a)
theorem Enc.len {α : Type} (E : Enc α) (a : α) : (E.enc a).length = E.w := by unfold Enc.enc ZJ; rw [List.length_map, E.clen]
def Zcl : Value → Bool
 | .pointer (some ⟨_, _, some _⟩) => true
 | .slice (some ⟨_, _, some _⟩) _ _ => true
 | v => atom v
theorem Zku : ∀ l : List Cell, Zep l = true → Z4 Zcl (ZJ l) = true
 | [], _ => rfl
 | c :: l, h => by
  show (Zcl (Zbv c) && Z4 Zcl (ZJ l)) = true
  cases c with
  | any => cases h
  | _ => rw [Zku l h]; rfl
theorem Enc.atoms {α : Type} (E : Enc α) (a : α) : Z4 Zcl (E.enc a) = true := Zku _ (E.sure a)
def Zl {α : Type} (E : Enc α) (L : List α) : List Value := L.flatMap E.enc
def ZE {α : Type} (E : Enc α) (L : List α) : List Cell := L.flatMap E.cel
section
variable {α : Type} {E : Enc α}
theorem ZfN : Zl E [] = [] := rfl
theorem ZbK (x : α) (L : List α) : Zl E (x :: L) = E.enc x ++ Zl E L := rfl
theorem Ziw (L M : List α) : Zl E (L ++ M) = Zl E L ++ Zl E M := by simp [Zl]
theorem ZdB : ∀ L : List α, (Zl E L).length = L.length * E.w
 | [] => by simp [ZfN]
 | x :: L => by rw [ZbK, List.length_append, ZdB L, E.len, List.length_cons, Nat.add_mul, Nat.one_mul, Nat.add_comm]
theorem ZgB : ∀ (i : Nat) (L : List α), (Zl E L).drop (i * E.w) = Zl E (L.drop i)
 | 0, L => by simp
 | i + 1, [] => by simp [ZfN]
 | i + 1, x :: L => by
  rw [ZbK, List.drop_succ_cons, ← ZgB i L, Nat.add_mul, Nat.one_mul, Nat.add_comm, ← List.drop_drop, ← E.len x, List.drop_left]
theorem ZgC : ∀ (i : Nat) (L : List α), (Zl E L).take (i * E.w) = Zl E (L.take i)
 | 0, L => by simp [ZfN]
 | i + 1, [] => by simp [ZfN]
 | i + 1, x :: L => by
  rw [ZbK, List.take_succ_cons, ZbK, ← ZgC i L, Nat.add_mul, Nat.one_mul, Nat.add_comm, List.take_append, E.len]
  rw [List.take_of_length_le (by rw [E.len]; omega), Nat.add_sub_cancel_left]
theorem ZgD {L : List α} {i : Nat} (h : i < L.length) (d : α) : L.drop i = L.getD i d :: L.drop (i + 1) := by
 rw [List.getD_eq_getElem?_getD, List.getElem?_eq_getElem h, Option.getD_some]
 exact List.drop_eq_getElem_cons h
theorem Zll {L : List α} {o i q : Nat} (hi : i < L.length) (ho : o = i * E.w + q) (hq : q ≤ E.w) : (Zl E L).drop o = (E.enc (L.getD i E.dflt)).drop q ++ Zl E (L.drop (i + 1)) := by
 subst ho
 rw [← List.drop_drop, ZgB, ZgD hi E.dflt, ZbK, List.drop_append, E.len, Nat.sub_eq_zero_of_le hq, List.drop_zero]
theorem ZeK {β : Type} : ∀ (m : Nat) (l : List β), m ≤ l.length → ZD m l = some (l.take m)
 | 0, l, _ => by simp [ZD]
 | m + 1, [], h => by simp at h
 | m + 1, x :: l, h => by
  simp only [ZD]
  rw [ZeK m l (by simpa using h)]
  rfl
theorem Ztf {L : List α} {o i q m : Nat} (hi : i < L.length) (ho : o = i * E.w + q) (hq : q + m ≤ E.w) : ZD m ((Zl E L).drop o) = some (((E.enc (L.getD i E.dflt)).drop q).take m) := by
 have hl := E.len (L.getD i E.dflt)
 rw [Zll hi ho (by omega), ZeK _ _ (by simp only [List.length_append, List.length_drop, hl]; omega), List.take_append]
 have : m - ((E.enc (L.getD i E.dflt)).drop q).length = 0 := by simp only [List.length_drop, hl]; omega
 rw [this, List.take_zero, List.append_nil]
theorem ZbN : ∀ {cs : List Cell}, Zep cs = true → Zbp (ZJ cs) cs = true
 | [], _ => rfl
 | c :: l, h => by
  cases c with
  | any => cases h
  | i n => show ((n == n) && Zbp (ZJ l) l) = true; rw [ZbN (cs := l) h]; simp
  | b q => show ((q == q) && Zbp (ZJ l) l) = true; rw [ZbN (cs := l) h]; simp
  | s x => show (dP (x = x) && Zbp (ZJ l) l) = true; rw [ZbN (cs := l) h]; simp [dP]
  | m id o n c =>
   show (dP (Zbv (.m id o n c) = Zbv (.m id o n c)) && Zbp (ZJ l) l) = true
   rw [ZbN (cs := l) h, Zg rfl]; rfl
  | k kk n =>
   by_cases hk : kk = .i64
   ·subst hk; show ((decide (IntKind.i64 = IntKind.i64) && (n == n)) && Zbp (ZJ l) l) = true; rw [ZbN (cs := l) h]; simp
   ·have e : Zbp (.int kk n :: ZJ l) (.k kk n :: l) = ((decide (kk = kk) && (n == n)) && Zbp (ZJ l) l) := by cases kk <;> rfl
    show Zbp (.int kk n :: ZJ l) (.k kk n :: l) = true
    rw [e, ZbN (cs := l) h]; simp
theorem Zb3 {L : List α} {o i q m : Nat} {cs : List Cell} (hi : i < L.length) (ho : o = i * E.w + q) (hq : q + m ≤ E.w) (hs : Zep cs = true) (hc : ((E.enc (L.getD i E.dflt)).drop q).take m = ZJ cs) : ZbD (ZD m ((Zl E L).drop o)) cs = true := by
 rw [Ztf hi ho hq, hc]
 exact ZbN hs
theorem Zpj {L : List α} {o i q : Nat} {l : List Value} (x : α) (hi : i < L.length) (ho : o = i * E.w + q) (hq : q + l.length ≤ E.w) (hx : ZcT (E.enc (L.getD i E.dflt)) q l = E.enc x) : o + l.length ≤ (Zl E L).length ∧ ZcT (Zl E L) o l = Zl E (L.set i x) := by
 have hl := E.len (L.getD i E.dflt)
 have hle : o + l.length ≤ (Zl E L).length := by
  have : (i + 1) * E.w ≤ L.length * E.w := Nat.mul_le_mul_right _ hi
  rw [Nat.add_mul, Nat.one_mul] at this
  rw [ZdB]; omega
 refine ⟨hle, ?_⟩
 have e1 : L.set i x = L.take i ++ x :: L.drop (i + 1) := by rw [List.set_eq_take_append_cons_drop, if_pos hi]
 rw [e1, Ziw, ZbK, ← hx]
 unfold ZcT
 have h1 : (Zl E L).take o = Zl E (L.take i) ++ (E.enc (L.getD i E.dflt)).take q := by
  have hd : Zl E L = Zl E (L.take i) ++ (E.enc (L.getD i E.dflt) ++ Zl E (L.drop (i + 1))) := by
   rw [← ZbK, ← ZgD hi, ← Ziw, List.take_append_drop]
  rw [hd, List.take_append]
  have hlen : (Zl E (L.take i)).length = i * E.w := by rw [ZdB, List.length_take]; rw [Nat.min_eq_left (by omega)]
  rw [List.take_of_length_le (by omega), hlen, show o - i * E.w = q by omega, List.take_append]
  rw [show q - (E.enc (L.getD i E.dflt)).length = 0 by omega, List.take_zero, List.append_nil]
 have h2 : (Zl E L).drop (o + l.length) = (E.enc (L.getD i E.dflt)).drop (q + l.length) ++ Zl E (L.drop (i + 1)) := Zll hi (by omega) hq
 rw [h1, h2]
 simp
theorem Ztg {L R : List α} {o a n m : Nat} (ha : a + n ≤ L.length) (ho : o = a * E.w) (hm : m = n * E.w) (hR : (L.drop a).take n = R) : ZD m ((Zl E L).drop o) = some (Zl E R) := by
 subst ho hm hR
 rw [ZgB, ZeK, ZgC]
 rw [ZdB, List.length_drop]
 exact Nat.mul_le_mul_right _ (by omega)
theorem ZH {L M R : List α} {n m : Nat} (hm : m = n * E.w) (hn : n ≤ L.length) (hR : L.take n ++ M = R) : m ≤ (Zl E L).length ∧ (Zl E L).take m ++ Zl E M = Zl E R := by
 subst hm hR
 refine ⟨by rw [ZdB]; exact Nat.mul_le_mul_right _ hn, ?_⟩
 rw [ZgC, Ziw]
theorem Zsm {L : List α} (j : Nat) (hw : 0 < E.w) : (Zl E L)[j]? = if h : j / E.w < L.length then (E.enc (L[j / E.w]'h))[j % E.w]? else none := by
 by_cases h : j / E.w < L.length
 ·rw [dif_pos h]
  have hj : j = (j / E.w) * E.w + j % E.w := by rw [Nat.mul_comm]; exact (Nat.div_add_mod j E.w).symm
  have hr : j % E.w < E.w := Nat.mod_lt _ hw
  have := Zll (E := E) h hj (Nat.le_of_lt hr)
  have h0 : ((Zl E L).drop j)[0]? = (Zl E L)[j]? := by rw [List.getElem?_drop]; rfl
  rw [← h0, this, List.getElem?_append_left (by rw [List.length_drop, E.len]; omega), List.getElem?_drop, Nat.add_zero]
  rw [List.getD_eq_getElem?_getD, List.getElem?_eq_getElem h, Option.getD_some]
 ·rw [dif_neg h, List.getElem?_eq_none]
  rw [ZdB]
  have : L.length ≤ j / E.w := by omega
  exact (Nat.le_div_iff_mul_le hw).1 this
theorem Zth {z : List Value} (x : α) (n : Nat) (hw : 0 < E.w) (hz : E.enc x = z) {m : Nat} (hm : m = n * E.w) : rep z m = Zl E (List.replicate n x) := by
 subst hz hm
 apply List.ext_getElem?
 intro j
 rw [Zsm j hw]
 have hl := E.len x
 by_cases h : j < n * E.w
 ·have h' : j / E.w < n := (Nat.div_lt_iff_lt_mul hw).2 h
  rw [dif_pos (by simpa using h')]
  have : (rep (E.enc x) (n * E.w))[j]? = some ((E.enc x).getD (j % (E.enc x).length) undef) := by simp [rep, h]
  rw [this, List.getElem_replicate, hl, List.getD_eq_getElem?_getD]
  have hr : j % E.w < (E.enc x).length := by rw [hl]; exact Nat.mod_lt _ hw
  rw [List.getElem?_eq_getElem hr, Option.getD_some]
 ·rw [dif_neg (by simp; exact (Nat.le_div_iff_mul_le hw).2 (by omega)), List.getElem?_eq_none]
  simp [rep]; omega
/-! ### The same, as told cells -/
theorem ZfO : ZE E [] = [] := rfl
theorem ZdU (x : α) (L : List α) : ZE E (x :: L) = E.cel x ++ ZE E L := rfl
theorem ZeL : ∀ L : List α, (ZE E L).length = L.length * E.w
 | [] => by simp [ZfO]
 | x :: L => by rw [ZdU, List.length_append, ZeL L, E.clen, List.length_cons, Nat.add_mul, Nat.one_mul, Nat.add_comm]
theorem ZgE : ∀ (i : Nat) (L : List α), (ZE E L).drop (i * E.w) = ZE E (L.drop i)
 | 0, L => by simp
 | i + 1, [] => by simp [ZfO]
 | i + 1, x :: L => by
  rw [ZdU, List.drop_succ_cons, ← ZgE i L, Nat.add_mul, Nat.one_mul, Nat.add_comm, ← List.drop_drop, ← E.clen x, List.drop_left]
theorem Zme : ∀ (i : Nat) (L : List α), (ZE E L).take (i * E.w) = ZE E (L.take i)
 | 0, L => by simp [ZfO]
 | i + 1, [] => by simp [ZfO]
 | i + 1, x :: L => by
  rw [ZdU, List.take_succ_cons, ZdU, ← Zme i L, Nat.add_mul, Nat.one_mul, Nat.add_comm, List.take_append, E.clen]
  rw [List.take_of_length_le (by rw [E.clen]; omega), Nat.add_sub_cancel_left]
theorem ZqC {L : List α} {o i q : Nat} (hi : i < L.length) (ho : o = i * E.w + q) (hq : q ≤ E.w) : (ZE E L).drop o = (E.cel (L.getD i E.dflt)).drop q ++ ZE E (L.drop (i + 1)) := by
 subst ho
 rw [← List.drop_drop, ZgE, ZgD hi E.dflt, ZdU, List.drop_append, E.clen, Nat.sub_eq_zero_of_le hq, List.drop_zero]
theorem Zti {L : List α} {o i q m : Nat} (hi : i < L.length) (ho : o = i * E.w + q) (hq : q + m ≤ E.w) : ZD m ((ZE E L).drop o) = some (((E.cel (L.getD i E.dflt)).drop q).take m) := by
 have hl := E.clen (L.getD i E.dflt)
 rw [ZqC hi ho (by omega), ZeK _ _ (by simp only [List.length_append, List.length_drop, hl]; omega), List.take_append]
 have : m - ((E.cel (L.getD i E.dflt)).drop q).length = 0 := by simp only [List.length_drop, hl]; omega
 rw [this, List.take_zero, List.append_nil]
theorem Ztj {L R : List α} {o a n m : Nat} (ha : a + n ≤ L.length) (ho : o = a * E.w) (hm : m = n * E.w) (hR : (L.drop a).take n = R) : ZD m ((ZE E L).drop o) = some (ZE E R) := by
 subst ho hm hR
 rw [ZgE, ZeK, Zme]
 rw [ZeL, List.length_drop]
 exact Nat.mul_le_mul_right _ (by omega)
theorem Zsn {L : List α} (j : Nat) (hw : 0 < E.w) : (ZE E L)[j]? = if h : j / E.w < L.length then (E.cel (L[j / E.w]'h))[j % E.w]? else none := by
 by_cases h : j / E.w < L.length
 ·rw [dif_pos h]
  have hj : j = (j / E.w) * E.w + j % E.w := by rw [Nat.mul_comm]; exact (Nat.div_add_mod j E.w).symm
  have hr : j % E.w < E.w := Nat.mod_lt _ hw
  have := ZqC (E := E) h hj (Nat.le_of_lt hr)
  have h0 : ((ZE E L).drop j)[0]? = (ZE E L)[j]? := by rw [List.getElem?_drop]; rfl
  rw [← h0, this, List.getElem?_append_left (by rw [List.length_drop, E.clen]; omega), List.getElem?_drop, Nat.add_zero]
  rw [List.getD_eq_getElem?_getD, List.getElem?_eq_getElem h, Option.getD_some]
 ·rw [dif_neg h, List.getElem?_eq_none]
  rw [ZeL]
  have : L.length ≤ j / E.w := by omega
  exact (Nat.le_div_iff_mul_le hw).1 this
/-! ### Such a row is a row of atoms -/
theorem ZgF : ∀ L : List α, Z4 Zcl (Zl E L) = true
 | [] => rfl
 | x :: L => by
  have app : ∀ (a b : List Value), Z4 Zcl a = true → Z4 Zcl b = true → Z4 Zcl (a ++ b) = true := by
   intro a b ha hb
   induction a with
   | nil => exact hb
   | cons y a ih =>
    simp only [Z4, Bool.and_eq_true] at ha
    show (Zcl y && Z4 Zcl (a ++ b)) = true
    rw [ha.1, ih ha.2]; rfl
  rw [ZbK]
  exact app _ _ (E.atoms x) (ZgF L)
theorem Zpk {p q : Value → Bool} (h : ∀ v, p v = true → q v = true) : ∀ {l : List Value}, Z4 p l = true → Z4 q l = true
 | [], _ => rfl
 | x :: l, hl => by
  simp only [Z4, Bool.and_eq_true] at hl ⊢
  exact ⟨h x hl.1, Zpk h hl.2⟩
theorem Zie {v : Value} (h : Zcl v = true) : (∃ k o z, v = .pointer (some ⟨k, o, some z⟩)) ∨ (∃ k o z n c, v = .slice (some ⟨k, o, some z⟩) n c) ∨ atom v = true := by
 unfold Zcl at h
 split at h
 ·exact .inl ⟨_, _, _, rfl⟩
 ·exact .inr (.inl ⟨_, _, _, _, _, rfl⟩)
 ·exact .inr (.inr h)
theorem Zpl (d : Nat) {v : Value} (h : Zcl v = true) : Zam d v = true := by
 rcases Zie h with ⟨k, o, z, rfl⟩ | ⟨k, o, z, n, c, rfl⟩ | h
 ·cases d <;> rfl
 ·cases d <;> rfl
 ·cases v with
  | agg => simp [atom] at h
  | tuple => simp [atom] at h
  | func f a b =>
   cases f with
   | func f =>
    simp only [atom, Bool.and_eq_true, Array.isEmpty_iff] at h
    obtain ⟨rfl, rfl⟩ := h
    cases d <;> rfl
   | _ => simp [atom] at h
  | _ => cases d <;> rfl
theorem Zrz {ρ : Nat → Nat} (d : Nat) {v : Value} (h : Zcl v = true) : Za2 ρ d v = v := by
 rcases Zie h with ⟨k, o, z, rfl⟩ | ⟨k, o, z, n, c, rfl⟩ | h
 ·cases d <;> rfl
 ·cases d <;> rfl
 ·exact ZdQ d h
theorem ZtJ (ρ : Nat → Nat) (d : Nat) (L : List α) : (Zl E L).map (Za2 ρ d) = Zl E L := by
 have : ∀ l : List Value, Z4 Zcl l = true → l.map (Za2 ρ d) = l := fun l => by
  induction l with
  | nil => intro _; rfl
  | cons y l ih =>
   intro h
   simp only [Z4, Bool.and_eq_true] at h
   rw [List.map_cons, ih h.2, Zrz d h.1]
 exact this _ (ZgF L)
theorem Zqi (d : Nat) (L : List α) : Z4 (Zam d) (Zl E L) = true := Zpk (fun _ => Zpl d) (ZgF L)
theorem ZR (ρ : Nat → Nat) (L : List α) (t : TypeId) : Ze2 ρ (.cells (Zl E L) t) (.cells (Zl E L) t) := ⟨rfl, ⟨[], by rw [ZtJ, List.append_nil]⟩, Zqi 1 L⟩
theorem ZfP (ρ : Nat → Nat) {c : List Value} {L : List α} (t : TypeId) (h : c = Zl E L) : Ze2 ρ (.cells c t) (.cells (Zl E L) t) := h ▸ ZR ρ L t
end
theorem Zkv {b : Bool} (h : ¬ (b = true)) : (!b) = true := by cases b <;> simp_all
theorem ZaC {b : Bool} (h : b = true) : (!b) = false := by subst h; rfl
def Zn (k : IntKind) : Enc Int := ⟨fun n => match k with | .i64 => [.i n] | k => [.k k n], 1, 0, fun _ => by cases k <;> rfl, fun _ => by cases k <;> rfl⟩
abbrev eI : Enc Int := Zn .i64
abbrev vi (x : Int) : Value := .int .i64 x
abbrev vs (k o n c : Nat) : Value := .slice (some ⟨k, o, none⟩) n c
abbrev vp (k o : Nat) : Value := .pointer (some ⟨k, o, none⟩)
theorem bT {a b : Int} (h : a = b) : (a == b) = true := beq_iff_eq.2 h
theorem bF {a b : Int} (h : ¬ a = b) : (a == b) = false := beq_eq_false_iff_ne.2 h
/-! ### Rows that never change -/
noncomputable def mc {α : Type} (E : Enc α) (L : List α) : Cell := .m (code (ZE E L)) 0 L.length L.length
noncomputable abbrev ms {α : Type} (E : Enc α) (L : List α) : Value := .slice (some ⟨code (ZE E L), 0, some 0⟩) L.length L.length
noncomputable abbrev mp {α : Type} (E : Enc α) (L : List α) (o : Nat) : Value := .pointer (some ⟨code (ZE E L), o, some 0⟩)
theorem ZF {α : Type} {E : Enc α} {L : List α} {o i q m : Nat} {cs : List Cell} (hi : i < L.length) (ho : o = i * E.w + q) (hq : q + m ≤ E.w) (hc : ((E.cel (L.getD i E.dflt)).drop q).take m = cs) : ZP (code (ZE E L)) o m = some cs := by
 unfold ZP
 rw [ZcI]
 show ZD m ((ZE E L).drop o) = some cs
 rw [Zti hi ho hq, hc]
theorem Ztk {α : Type} {E : Enc α} {L R : List α} {o a n m : Nat} (ha : a + n ≤ L.length) (ho : o = a * E.w) (hm : m = n * E.w) (hR : (L.drop a).take n = R) : ZP (code (ZE E L)) o m = some (ZE E R) := by
 unfold ZP
 rw [ZcI]
 exact Ztj ha ho hm hR
theorem Zkw {α : Type} {E : Enc α} {L R : List α} {l h size : Nat} (h1 : l ≤ h) (h2 : h ≤ L.length) (hs : size = E.w) (hR : R = (L.drop l).take (h - l)) :
  l ≤ h ∧ h ≤ L.length ∧ ZP (code (ZE E L)) (0 + l * size) (ZE E R).length = some (ZE E R) ∧ (h - l) * size = (ZE E R).length ∧ R.length = h - l := by
 have hl : R.length = h - l := by rw [hR, List.length_take, List.length_drop]; omega
 have hc : (ZE E R).length = (h - l) * size := by rw [ZeL, hl, hs]
 refine ⟨h1, h2, ?_, hc.symm, hl⟩
 rw [hc]
 exact Ztk (a := l) (n := h - l) (by omega) (by rw [hs]; omega) (by rw [hs]) hR.symm
/-! ### Bytes as strings -/
theorem ZqD : ∀ L : List Int, Zl (Zn .u8) L = L.map (Value.int .u8)
 | [] => rfl
 | x :: L => by rw [ZbK, ZqD L]; rfl
theorem Zso {L R : List Int} {o a n : Nat} (ha : a + n ≤ L.length) (ho : o = a * 1) (hR : (L.drop a).take n = R) : ZD n ((Zl (Zn .u8) L).drop o) = some (R.map (Value.int .u8)) := by
 rw [← ZqD]
 exact Ztg (E := Zn .u8) ha ho (show n = n * 1 from (Nat.mul_one n).symm) hR
end Ev
end Go.Proofs.YtaifklllpehnmaaGreatDoor
/- Arguments that are slices, opened: the block they lie in, and each element as what is read of it. -/
namespace Go.Proofs.YtaifklllpehnmaaGreatDoor
open Go.ChangeShapes Go.WideShapes Go.ChangeAt Go.RowKit Go.Deep
namespace Ev
section
variable {H : Type} {enc : TypeId × Value → H} {P : Program} {w : World}
def Trd (enc : TypeId × Value → H) (P : Program) (w : World) (t : TypeId) (cs : List Value) : Prop := ∃ n y, DataW.trod enc P w 0 (fun _ => true) true n t cs = some y
def Elems (enc : TypeId × Value → H) (P : Program) (w : World) (e : TypeId) (O : Obj) (o cap : Nat) : Prop :=
 ∀ i, i < cap → ∃ C t fr cs, O = .cells C t fr ∧ cs.length = P.cellsOf e ∧ (∀ j, j < P.cellsOf e → C[o + (i * P.cellsOf e + j)]? = cs[j]?) ∧ Trd enc P w e cs
theorem Zsp {t : TypeId} {fs : Array Field} {cs : List Value} (ht : P.underlying t = some (.struct fs)) (h : Trd enc P w t cs) (i : Nat) {f : Field} (hf : fs[i]? = some f) : Trd enc P w f.type ((cs.drop f.offset).take (P.cellsOf f.type)) := by
 obtain ⟨n, y, h⟩ := h
 obtain ⟨xs, n', _, _, _, hxl, hfl⟩ := DataW.trod_struct ht h
 have hi : i < fs.size := (Array.getElem?_eq_some_iff.1 hf).1
 have := hfl i f hf
 rw [List.getElem?_eq_getElem (show i < xs.length by omega)] at this
 exact ⟨n', _, this⟩
theorem ZtK {t : TypeId} {k : IntKind} {cs : List Value} (ht : P.underlying t = some (.int k)) (h : Trd enc P w t cs) : ∃ z, cs = [.int k z] ∧ k.min ≤ z ∧ z ≤ k.max := by
 obtain ⟨n, y, h⟩ := h
 obtain ⟨z, e0, _, wx⟩ := DataW.trod_int ht h
 simp only [Lit.wf, Bool.and_eq_true, decide_eq_true_eq] at wx
 exact ⟨z, e0, wx.1, wx.2⟩
theorem Zsq {t e : TypeId} {cs : List Value} (ht : P.underlying t = some (.slice e)) (hpos : 0 < P.cellsOf e) (h : Trd enc P w t cs) :
  (∃ a, cs = [.slice a 0 0]) ∨ ∃ (b o len cap : Nat) (O : Obj), cs = [.slice (some ⟨b, o, none⟩) len cap] ∧ 0 < cap ∧ len ≤ cap ∧ cap ≤ 9223372036854775807 ∧ w.heap[b]? = some O ∧ Elems enc P w e O o cap := by
 obtain ⟨n0, y, h⟩ := h
 rcases open_slice ht h with ⟨hcs, _⟩ | ⟨a, len, cap, m, n, D, Pl, hcs, hb, hl, hm, hmm, hx, hi⟩
 ·exact .inl ⟨_, hcs⟩
 ·simp only [if_true] at hmm
  subst hmm
  rcases Nat.eq_zero_or_pos m with h0 | h0
  ·subst h0
   obtain rfl : len = 0 := by omega
   exact .inl ⟨_, hcs⟩
  ·right
   obtain ⟨cs0, hc0, _⟩ := hi 0 h0
   obtain ⟨_, hcl0, hat0⟩ := World.cells?_some hc0
   have h1 := hat0 0 hpos
   rw [Nat.zero_mul] at h1
   have ha0 : (a.add 0).add 0 = a := by simp [Addr.add]
   rw [ha0] at h1
   have h2 : w.cell? a = some (cs0[0]'(by omega)) := h1.trans (List.getElem?_eq_getElem (by omega))
   obtain ⟨b, o, spot⟩ := a
   have hspot : spot = none := by
    unfold World.cell? at h2
    split at h2
    ·cases spot with
     | none => rfl
     | some z => simp at h2
    ·cases h2
   subst hspot
   obtain ⟨C, el, fr, hB, _⟩ := ZfX h2
   refine ⟨b, o, len, m, _, hcs, h0, hl, by unfold maxLen at hm; omega, hB, fun i hi' => ?_⟩
   obtain ⟨cs', hc, ht'⟩ := hi i hi'
   obtain ⟨_, hcl, hat⟩ := World.cells?_some hc
   refine ⟨C, el, fr, cs', rfl, hcl, fun j hj => ?_, n, _, ht'⟩
   have h1 := hat j hj
   rw [Go.Deep.add_add] at h1
   have h2 : w.cell? ⟨b, o + (i * P.cellsOf e + j), none⟩ = some (cs'[j]'(by omega)) := by
    have : (⟨b, o, none⟩ : Addr).add (i * P.cellsOf e + j) = ⟨b, o + (i * P.cellsOf e + j), none⟩ := Go.WideShapes.add_plain b o _
    rw [← this, h1]
    exact List.getElem?_eq_getElem (by omega)
   obtain ⟨C', t', fr', hB', hv'⟩ := ZfX h2
   rw [hB] at hB'
   injection hB' with hB'
   injection hB' with e1 e2 e3
   subst e1
   rw [hv']
   exact (List.getElem?_eq_getElem (by omega)).symm
def DecL (w : World) (cs : List Value) (l : List Cell) : Prop := cs.length = l.length ∧ ∀ (i : Nat) x y, l[i]? = some x → cs[i]? = some y → DecC w x y
theorem ZtL {w : World} {cs : List Value} {l : List Cell} (hl : cs.length = l.length) (h : ∀ (i : Nat) x, l[i]? = some x → ∃ y, cs[i]? = some y ∧ DecC w x y) : DecL w cs l :=
 ⟨hl, fun i x y hx hy => by
  obtain ⟨y', h1, h2⟩ := h i x hx
  rw [hy] at h1
  injection h1 with h1
  subst h1
  exact h2⟩
theorem Zud {w : World} {cs : List Value} {k : Nat} : ∀ (j : Nat) x, ([] : List Cell)[j]? = some x → ∃ y, cs[k + j]? = some y ∧ DecC w x y := fun j x h => by simp at h
theorem Zhb {w : World} {cs : List Value} {b : Cell} {l : List Cell} {k : Nat} {y : Value} (hx : cs[k]? = some y) (hd : DecC w b y) (t : ∀ (j : Nat) x, l[j]? = some x → ∃ y, cs[k + 1 + j]? = some y ∧ DecC w x y) :
  ∀ (j : Nat) x, (b :: l)[j]? = some x → ∃ y, cs[k + j]? = some y ∧ DecC w x y := fun j x h => by
 cases j with
 | zero => injection h with h; subst h; exact ⟨y, hx, hd⟩
 | succ j =>
  obtain ⟨y', h1, h2⟩ := t j x (by simpa using h)
  exact ⟨y', by rw [show k + (j + 1) = k + 1 + j by omega]; exact h1, h2⟩
theorem DecL.vr {w : World} {cs : List Value} {l : List Cell} (h : DecL w cs l) : VRs (ιMk w) (ZJ l).toArray cs.toArray :=
 ⟨by simp [ZJ, h.1], fun i x y hx hy => by
  have hx' : (ZJ l)[i]? = some x := by simpa using hx
  have hy' : cs[i]? = some y := by simpa using hy
  unfold ZJ at hx'
  rw [List.getElem?_map] at hx'
  cases hb : l[i]? with
  | none => rw [hb] at hx'; cases hx'
  | some z =>
   rw [hb] at hx'
   injection hx' with hx'
   subst hx'
   exact (h.2 i z y hb hy').vr⟩
theorem pick1 {α : Type} {n : Nat} (d : α) {R : Nat → α → Prop} (h : ∀ i, i < n → ∃ x, R i x) : ∃ f : Nat → α, ∀ i, i < n → R i (f i) := by
 classical
 refine ⟨fun i => if hi : i < n then (h i hi).choose else d, fun i hi => ?_⟩
 simp only [hi, dite_true]
 exact (h i hi).choose_spec
theorem Zsr {α : Type} {E : Enc α} {Q : α → Prop} {t e : TypeId} {cs : List Value} (ht : P.underlying t = some (.slice e)) (hw : P.cellsOf e = E.w) (hpos : 0 < E.w)
  (hel : ∀ cs, cs.length = E.w → Trd enc P w e cs → ∃ x : α, DecL w cs (E.cel x) ∧ Q x) (h : Trd enc P w t cs) : ∃ (L : List α) (v : Value), cs = [v] ∧ DecC w (mc E L) v ∧ L.length ≤ 9223372036854775807 ∧ ∀ x ∈ L, Q x := by
 rcases Zsq ht (by omega) h with ⟨a, rfl⟩ | ⟨b, o, len, cap, O, rfl, h0, hl, hm, hB, hE⟩
 ·exact ⟨[], _, rfl, .m0, by simp, fun x hx => by cases hx⟩
 ·have each : ∀ i, i < len → ∃ x : α, (∃ C t fr, O = .cells C t fr ∧ ∀ j y, (E.cel x)[j]? = some y → ∃ v, C[o + (i * E.w + j)]? = some v ∧ DecC w y v) ∧ Q x := fun i hi => by
   obtain ⟨C, t, fr, cs, hO, hcl, hc, htr⟩ := hE i (by omega)
   obtain ⟨x, hd, hq⟩ := hel cs (by omega) htr
   refine ⟨x, ⟨C, t, fr, hO, fun j y hy => ?_⟩, hq⟩
   have hj : j < cs.length := by rw [hd.1]; exact (List.getElem?_eq_some_iff.1 hy).1
   rw [← hw]
   refine ⟨cs[j], ?_, hd.2 j y _ hy (List.getElem?_eq_getElem hj)⟩
   rw [hc j (by omega)]
   exact List.getElem?_eq_getElem hj
  obtain ⟨G, hG⟩ := pick1 E.dflt each
  obtain ⟨C, t, fr, cs0, hO, _⟩ := hE 0 h0
  subst hO
  refine ⟨(List.range len).map G, _, rfl, ?_, by simp; omega, fun x hx => ?_⟩
  ·have hlen : ((List.range len).map G).length = len := by simp
   unfold mc
   rw [hlen]
   refine .m (base := o) (.mk (ZcI _) hB (fun hp => ?_) fun i x y hx hy => ?_) (Nat.le_refl _) hl
   ·rw [ZeL, hlen] at hp ⊢
    have hlen0 : 0 < len := by
     rcases Nat.eq_zero_or_pos len with e0 | e0
     ·subst e0; simp at hp
     ·exact e0
    obtain ⟨⟨C', t', fr', hO', hx'⟩, _⟩ := hG (len - 1) (by omega)
    injection hO' with e1 e2 e3
    subst e1
    have hw1 : (E.cel (G (len - 1))).length = E.w := E.clen _
    obtain ⟨v, hv, _⟩ := hx' (E.w - 1) _ (List.getElem?_eq_getElem (by omega))
    have := (Array.getElem?_eq_some_iff.1 hv).1
    have e2 : (len - 1) * E.w + E.w = len * E.w := by rw [← Nat.succ_mul]; congr 1; omega
    omega
   ·rw [Zsn i hpos] at hx
    split at hx
    ·rename_i hlt
     rw [List.getElem_map, List.getElem_range] at hx
     obtain ⟨⟨C', t', fr', hO', hx'⟩, _⟩ := hG (i / E.w) (by rw [hlen] at hlt; exact hlt)
     injection hO' with e1 e2 e3
     subst e1
     obtain ⟨v, hv, hd⟩ := hx' (i % E.w) x hx
     have e : i / E.w * E.w + i % E.w = i := by rw [Nat.mul_comm]; exact Nat.div_add_mod i E.w
     rw [e, hy] at hv
     injection hv with hv
     subst hv
     exact hd
    ·cases hx
  ·obtain ⟨i, hi, rfl⟩ := List.mem_map.1 hx
   exact (hG i (List.mem_range.1 hi)).2
theorem Zqj {cs : List Value} {j m : Nat} {v : Value} (h : (cs.drop j).take m = [v]) (hm : m = 1) : cs[j]? = some v := by
 subst hm
 have : ((cs.drop j).take 1)[0]? = some v := by rw [h]; rfl
 rwa [List.getElem?_take_of_lt (by decide), List.getElem?_drop, Nat.add_zero] at this
/-! ### Parts of a value, by where they lie among its cells -/
def Zhc (enc : TypeId × Value → H) (P : Program) (w : World) (t : TypeId) (cs : List Value) (o : Nat) : Prop := Trd enc P w t ((cs.drop o).take (P.cellsOf t))
theorem Zue {t : TypeId} {cs : List Value} {c : Nat} (hc : P.cellsOf t = c) (hl : cs.length = c) (h : Trd enc P w t cs) : Zhc enc P w t cs 0 := by
 unfold Zhc
 rw [List.drop_zero, List.take_of_length_le (by omega)]
 exact h
theorem Ztl {cs : List Value} {o m a k : Nat} (h : a + k ≤ m) : (((cs.drop o).take m).drop a).take k = (cs.drop (o + a)).take k := by
 rw [List.drop_take, List.take_take, List.drop_drop, Nat.min_eq_left (by omega)]
theorem ZfQ {t te : TypeId} {fs : Array Field} {cs : List Value} {o o' : Nat} (fo c ct : Nat) (ht : P.underlying t = some (.struct fs)) (h : Zhc enc P w t cs o) (i : Nat) (hf : (fs[i]?).map (fun f => (f.type, f.offset)) = some (te, fo)) (ho : o' = o + fo) (hc : P.cellsOf te = c) (hct : P.cellsOf t = ct) (hle : fo + c ≤ ct) : Zhc enc P w te cs o' := by
 cases hx : fs[i]? with
 | none => rw [hx] at hf; cases hf
 | some f =>
  rw [hx] at hf
  injection hf with hf
  injection hf with h1 h2
  subst h1 h2 ho
  have := Zsp ht h i hx
  rw [Ztl (by omega)] at this
  exact this
theorem Ztm {cs : List Value} {o : Nat} {v : Value} (h : (cs.drop o).take 1 = [v]) : cs[o]? = some v := Zqj h rfl
theorem Zkx {t : TypeId} {k : IntKind} {cs : List Value} {o : Nat} (ht : P.underlying t = some (.int k)) (hc : P.cellsOf t = 1) (h : Zhc enc P w t cs o) : ∃ z, cs[o]? = some (.int k z) ∧ k.min ≤ z ∧ z ≤ k.max := by
 unfold Zhc at h
 rw [hc] at h
 obtain ⟨z, h1, h2⟩ := ZtK ht h
 exact ⟨z, Ztm h1, h2⟩
theorem ZqE {t : TypeId} {v : Value} {d : DataW H} {p : List MemPlace} (h : DataW.Trod enc P w 0 (fun _ => true) true t v d p) : Trd enc P w t v.cells.toList := by
 obtain ⟨fuel, hf⟩ := h
 exact ⟨fuel, _, hf⟩
end
end Ev
end Go.Proofs.YtaifklllpehnmaaGreatDoor
/- Functions told of whole runs: their own loops run on. -/
namespace Go.Proofs.YtaifklllpehnmaaGreatDoor
open Go.RowKit
namespace Ev
section
variable {P : Program} {ext : FuncId → Option Ext} {pre : List AObj} {A : Array Value} {R : Type} {V : R → Value} {Po : R → List (Option AObj)} {live : List Nat} {bl : List (Option AObj)} {ob : List (Bool × Bool)} {fu : Nat} {orc : Orc}
noncomputable def ZaN (P : Program) (ext : FuncId → Option Ext) (f : FuncId) (pre : List AObj) (A : Array Value) (fu : Nat) (orc : Orc) : Option Stop :=
 match Zb6 P ext fu f A ⟨Zcj 0 pre, pre.length, [], orc, []⟩ with
 | some (v, s) => some (.fin v s)
 | none => none
theorem Zqk (F : Fit P ext) {f : FuncId} {v u : Value} {post : List (Option AObj)} {s : St} (hev : ZaN P ext f pre A fu orc = some (.fin u s)) (ho : ∀ p ∈ s.ob, p.1 = p.2) (hn : s.n ≤ far) (hle : post.length ≤ far) (live : List Nat) (h : Zkk pre.length v post u s live) : LSpec P f A pre v post := by
 intro ι w args' hd ha he
 have hc : Zb6 P ext fu f A ⟨Zcj 0 pre, pre.length, [], orc, []⟩ = some (u, s) := by
  unfold ZaN at hev
  split at hev
  ·rename_i v1 s1 h1
   injection hev with hev
   injection hev with q1 q2
   rw [h1, q1, q2]
  ·cases hev
 have hF := (Zbh (P := P) F fu).2.2.2.1 f A _ u s hc ho ι w args' ha (by show Emb P ι (Zcj 0 pre).get w; rw [Zd7]; exact he)
  ⟨hn, fun k h1 h2 => by
   cases hk : ι k with
   | none => rfl
   | some b => exact absurd (hd k (by rw [hk]; simp)) (by have h3 : pre.length ≤ k := h1; have h4 : s.n ≤ 1000000000 := hn; have h5 : k < s.n := h2; unfold ZcV; omega)⟩
 refine hF.mono ?_
 rintro e w' ⟨v', ι', rfl, g1, g2, g3⟩
 exact ZoP hle hd h (by have := g1; simp only [Zd7] at this; exact this) g3
def Gx (P : Program) (f : FuncId) (pre : List AObj) (A : Array Value) {R : Type} (V : R → Value) (Po : R → List (Option AObj)) (o : Option R) : Prop :=
 ∀ r, o = some r → LSpec P f A pre (V r) (Po r)
variable {f : FuncId}
theorem Zo : Gx P f pre A V Po none := fun _ h => by cases h
theorem Zd {c : Prop} [Decidable c] {B C : Option R} (h1 : c → Gx P f pre A V Po B) (h2 : ¬ c → Gx P f pre A V Po C) : Gx P f pre A V Po (if c then B else C) := by
 by_cases h : c
 ·rw [if_pos h]; exact h1 h
 ·rw [if_neg h]; exact h2 h
theorem Zaj {α : Type} {o : Option α} {k : α → Option R} (h : ∀ r, o = some r → Gx P f pre A V Po (k r)) : Gx P f pre A V Po (o.bind k) := by
 cases o with
 | none => exact Zo
 | some r => exact h r rfl
theorem Zf5 (F : Fit P ext) {r : R} {u : Value} (hev : ZaG live (ZaN P ext f pre A fu orc) = some (u, bl, ob)) (ho : ∀ p ∈ ob, p.1 = p.2) (hl : live.length = (Po r).length) (hn : live.Nodup) (hk : Zcy pre.length live = true) (hv : V r = Za2 (rho live far) 3 u ∧ Zam 3 u = true) (hbl : Zbu (rho live far) bl (Po r)) (hle : (Po r).length ≤ far) : Gx P f pre A V Po (some r) := by
 intro r' hr
 obtain rfl := Option.some.inj hr
 obtain ⟨s, h1, rfl, rfl, h4⟩ := Zid hev
 exact Zqk F h1 ho h4 hle live ⟨hl, hn, hk, hv, Zc9 hbl⟩
end
end Ev
end Go.Proofs.YtaifklllpehnmaaGreatDoor
/- Strings, as lists of their bytes. -/
namespace Go.Proofs.YtaifklllpehnmaaGreatDoor
open Go.RowKit
namespace Ev
set_option linter.unusedVariables false
abbrev tY (p : Prop) [Decidable p] : Bool × Bool := (decide p, true)
abbrev tN (p : Prop) [Decidable p] : Bool × Bool := (decide p, false)
theorem oK {l : List (Bool × Bool)} {a : Int} {k : Nat} (hl : ∀ q ∈ l, q.1 = q.2) (h : a = (k : Int) := by omega) : ∀ q ∈ ((a == Int.ofNat k), true) :: l, q.1 = q.2 := Zb (beq_iff_eq.2 h) hl
abbrev bl (l : List Int) : List Int := l
theorem Zab {n : Int} (h0 : (-9223372036854775808 : Int) ≤ n) (h1 : n ≤ (9223372036854775807 : Int)) : (decide ((-9223372036854775808 : Int) ≤ n) && decide (n ≤ (9223372036854775807 : Int))) = true := by
 rw [decide_eq_true h0, decide_eq_true h1]; rfl
theorem Zeq (l : List Int) : (Za l).size = l.length := by
 show (Za l).data.size = l.length
 rw [ZdA]; simp [u8s]
theorem ZaW {x : ByteArray} {M : List Int} (h : x = Za M) (hM : M.length ≤ 1000000) : Nat.ble x.size 140737488355328 = true := by
 rw [h, Zeq]
 rw [Nat.ble_eq]; omega
def Za8 (l : List Int) : Bool := l.all fun n => decide (0 ≤ n) && decide (n ≤ 255)
theorem Zss {l : List Int} (h : Za8 l = true) {n : Int} (hn : n ∈ l) : 0 ≤ n ∧ n ≤ 255 := by
 have := List.all_eq_true.1 h n hn
 simpa using this
theorem Zst {M : List Int} (h : Za8 M = true) : Zl (Zn .u8) M = ZQ (Za M) := by
 unfold Zl ZQ
 rw [ZdA]
 simp only [u8s, List.map_map]
 have : ∀ n ∈ M, (Zn .u8).enc n = [Value.int .u8 ((UInt8.ofNat n.toNat).toNat : Nat)] := fun n hn => by
  obtain ⟨h0, h1⟩ := Zss h hn
  show [Value.int .u8 n] = _
  have : (UInt8.ofNat n.toNat).toNat = n.toNat := by
   rw [UInt8.toNat_ofNat']; omega
  rw [this, Int.toNat_of_nonneg h0]
 clear h
 induction M with
 | nil => rfl
 | cons n M ih =>
  rw [List.flatMap_cons, this n (List.mem_cons_self ..), ih fun m hm => this m (List.mem_cons_of_mem _ hm)]
  rfl
theorem Zbr {x : ByteArray} {M : List Int} {m : Nat} (h : x = Za M) (hb : Za8 M = true) (hm : m = M.length) : m = x.size ∧ Zl (Zn .u8) M = ZQ x := by
 subst h hm
 exact ⟨(Zeq M).symm, Zst hb⟩
theorem Zco {x : ByteArray} {M : List Int} (h : x = Za M) (h0 : M.length = 0) : 0 = x.size ∧ ([] : List Value) = ZQ x := by
 subst h
 have : M = [] := List.length_eq_zero_iff.1 h0
 subst this
 exact ⟨rfl, rfl⟩
theorem catS (a b : List Int) : Za a ++ Za b = Za (a ++ b) := by
 apply ByteArray.ext
 rw [ByteArray.data_append, ZdA, ZdA, ZdA]; simp [u8s]
theorem sE {a b : ByteArray} (h : a = b := by first | (simp only [catS]; done) | (simp only [catS, bl, List.append_assoc, List.cons_append, List.nil_append, List.append_nil]; done) | rfl) : a = b := h
theorem Zm {a b : ByteArray} {x y : List Int} (h1 : a = Za x) (h2 : b = Za y) (h : x.length + y.length ≤ 1000000) : ((a.size + b.size : Nat) : Int) ≤ IntKind.i64.max := by
 rw [h1, h2, Zeq, Zeq]
 have : IntKind.i64.max = 9223372036854775807 := by decide
 omega
end Ev
end Go.Proofs.YtaifklllpehnmaaGreatDoor
/- awake's parts. -/
namespace Go.Proofs.YtaifklllpehnmaaGreatDoor
open Go.RowKit
namespace Ev
set_option linter.unusedVariables false
def Zky : List Value := [.int .i64 9, .int .i64 1, .int .i64 0, .int .i64 0, .int .i64 20, .int .i64 0, .int .i64 0, .int .i64 0]
theorem Zr0 : LSpec Tryz.prog 26 #[Value.string ⟨#[58, 97, 103, 97, 105, 110, 10, 106, 117, 109, 112, 122, 32, 114, 49, 32, 64, 97, 103, 97, 105, 110, 10, 104, 97, 108, 116, 10]⟩] [] (.tuple #[.slice (some ⟨0, 0, none⟩) 2 2, .int .i64 0, .int .i64 0]) [some (.cells Zky 25)] := by
 refine (Zf5 fit (R := Unit) (r := ()) (V := fun _ => .tuple #[.slice (some ⟨0, 0, none⟩) 2 2, .int .i64 0, .int .i64 0]) (Po := fun _ => [some (.cells Zky 25)]) (fu := 3000) (orc := ⟨[], [], [], [], []⟩) (live := [82]) (u := .tuple #[.slice (some ⟨82, 0, none⟩) 2 2, .int .i64 0, .int .i64 0]) (bl := [some (.cells Zky 25)]) (ob := []) (by kernel_rfl) (by intro p hp; cases hp) rfl (by decide) (by rfl) ⟨by rfl, by rfl⟩ ?_ (by decide)) () rfl
 exact ⟨⟨rfl, ⟨[], rfl⟩, rfl⟩, trivial⟩
end Ev
end Go.Proofs.YtaifklllpehnmaaGreatDoor
/- awake's parts. -/
namespace Go.Proofs.YtaifklllpehnmaaGreatDoor
open Go.RowKit
namespace Ev
set_option linter.unusedVariables false
theorem Zr1 : LSpec Tryz.prog 26 #[Value.string ⟨#[10, 104, 97, 108, 116, 32, 114, 49, 10]⟩] [] (.tuple #[.slice none 0 0, .int .i64 2, .int .i64 130]) [] := by
 exact (Zf5 fit (R := Unit) (r := ()) (V := fun _ => .tuple #[.slice none 0 0, .int .i64 2, .int .i64 130]) (Po := fun _ => []) (fu := 3000) (orc := ⟨[], [], [], [], []⟩) (live := []) (u := .tuple #[.slice none 0 0, .int .i64 2, .int .i64 130]) (bl := []) (ob := []) (by kernel_rfl) (by intro p hp; cases hp) rfl (by decide) (by rfl) ⟨by rfl, by rfl⟩ trivial (by decide)) () rfl
end Ev
end Go.Proofs.YtaifklllpehnmaaGreatDoor
/- awake's parts. -/
namespace Go.Proofs.YtaifklllpehnmaaGreatDoor
open Go.RowKit
namespace Ev
set_option linter.unusedVariables false
noncomputable def Zql (n : Nat) : Zcb := .call [] (.tuple #[.slice (some ⟨n, 0, none⟩) 2 2, .int .i64 0, .int .i64 0]) [(n, some (.cells Zky 25))] 1
def Zpm (n : Nat) : Prop := ZaK Tryz.prog 26 #[Value.string ⟨#[58, 97, 103, 97, 105, 110, 10, 106, 117, 109, 112, 122, 32, 114, 49, 32, 64, 97, 103, 97, 105, 110, 10, 104, 97, 108, 116, 10]⟩] [] (.tuple #[.slice (some ⟨n, 0, none⟩) 2 2, .int .i64 0, .int .i64 0]) [(n, some (.cells Zky 25))] n 1
theorem Zsu (n : Nat) : Zpm n :=
 LSpec.callL Zr0 [] n [0] rfl (by decide) (fun k hk => by cases hk) (by decide) (by decide) (by rfl) trivial (by rfl) ⟨by rfl, trivial⟩ ⟨by decide, trivial⟩ rfl rfl rfl rfl rfl
noncomputable def Zqm : Zcb := .call [] (.tuple #[.slice none 0 0, .int .i64 2, .int .i64 130]) [] 0
def Zpn (n : Nat) : Prop := ZaK Tryz.prog 26 #[Value.string ⟨#[10, 104, 97, 108, 116, 32, 114, 49, 10]⟩] [] (.tuple #[.slice none 0 0, .int .i64 2, .int .i64 130]) [] n 0
theorem Zsv (n : Nat) : Zpn n :=
 LSpec.callL Zr1 [] n [] rfl (by decide) (fun k hk => by cases hk) (by decide) (by decide) (by rfl) trivial (by rfl) trivial trivial rfl rfl rfl rfl rfl
end Ev
end Go.Proofs.YtaifklllpehnmaaGreatDoor
/- Records, and the program's functions as plain ones. -/
namespace Go.Proofs.YtaifklllpehnmaaGreatDoor
open Go.RowKit
namespace Ev
set_option linter.unusedVariables false
inductive ZbX where
 | r0

def Zfh  (N : Nat) : Option ZbX :=
 some (.r0 : ZbX)
end Ev
end Go.Proofs.YtaifklllpehnmaaGreatDoor
/- How records are written, and which functions are told. -/
namespace Go.Proofs.YtaifklllpehnmaaGreatDoor
open Go.RowKit
namespace Ev
set_option linter.unusedVariables false
theorem toL_inj {a b : ByteArray} : (a.toList == b.toList) = (a == b) := (beq_toListBytes a b).symm
theorem Zsw (ns : List Int) : ∀ acc : ByteArray, (ns.foldl (fun r n => r.push (UInt8.ofNat n.toNat)) acc).data = acc.data ++ (ns.map fun n => UInt8.ofNat n.toNat).toArray := by
 induction ns with
 | nil => intro acc; simp
 | cons n ns ih => intro acc; rw [List.foldl_cons, ih]; simp [ByteArray.push]
theorem Zer (ns : List Int) : (Za ns).data = (ns.map fun n => UInt8.ofNat n.toNat).toArray := by
 unfold Za; rw [Zsw]; simp
theorem ZdV (a b : List Int) : Za a ++ Za b = Za (a ++ b) := by
 apply ByteArray.ext
 rw [ByteArray.data_append, Zer, Zer, Zer]; simp
theorem ZaQ {x y : List Int} (h : x.length + y.length ≤ 1000000) : (((Za x).size + (Za y).size : Nat) : Int) ≤ IntKind.i64.max := by
 have e : ∀ l : List Int, (Za l).size = l.length := fun l => by
  show (Za l).data.size = l.length
  rw [Zer]; simp
 rw [e, e]
 have : IntKind.i64.max = 9223372036854775807 := by decide
 omega
theorem Zf6 {x y : List Int} (h : Zlk x y = true) : ((Za x).toList == (Za y).toList) = true := toL_inj.trans h
theorem Zsx {x y : List Int} (h : ¬ (Zlk x y = true)) : ((Za x).toList == (Za y).toList) = false := toL_inj.trans (Bool.eq_false_iff.2 h)
theorem sm {ρ : Nat → Nat} {o p : AObj} (h : Ze2 ρ o p := by exact ⟨rfl, ⟨[], by rfl⟩, by rfl⟩) : Ze2 ρ o p := h
abbrev vq : Value := .int .i64 0
abbrev vf : Value := .bool false
abbrev vT : Value := .bool true
abbrev vn : Value := .slice none 0 0
noncomputable abbrev dS {α : Type} (a : α) : Bool := dP (a = a)
theorem ltA {p : Prop} (h : p := by first | omega | (simp only [List.length_set, List.length_append, List.length_cons, List.length_nil, List.length_replicate, List.length_take, List.length_drop] at * <;> omega)) : p := h
theorem eqA {p : Prop} (h : p := by first | rfl | omega | (simp only [List.length_set, List.length_append, List.length_cons, List.length_nil, List.length_replicate, List.length_take, List.length_drop] at * <;> omega)) : p := h
theorem rr {p q : Prop} (h : p := by rfl) (h2 : q := by rfl) : p ∧ q := ⟨h, h2⟩
section
variable {l : List (Bool × Bool)}
theorem oT {a b : Int} (hl : ∀ q ∈ l, q.1 = q.2) (h : a = b := by omega) : ∀ q ∈ ((a == b), true) :: l, q.1 = q.2 := Zb (bT h) hl
theorem oF {a b : Int} (hl : ∀ q ∈ l, q.1 = q.2) (h : ¬ a = b := by omega) : ∀ q ∈ ((a == b), false) :: l, q.1 = q.2 := Zb (bF h) hl
theorem oD {a b : Int} (hl : ∀ q ∈ l, q.1 = q.2) (h : a ≠ b := by omega) : ∀ q ∈ ((a != b), true) :: l, q.1 = q.2 := Zb (bne_iff_ne.2 h) hl
theorem oE {a b : Int} (hl : ∀ q ∈ l, q.1 = q.2) (h : a = b := by omega) : ∀ q ∈ ((a != b), false) :: l, q.1 = q.2 := Zb (bne_eq_false_iff_eq.2 h) hl
theorem oY {p : Prop} [Decidable p] (hl : ∀ q ∈ l, q.1 = q.2) (h : p := by omega) : ∀ q ∈ (decide p, true) :: l, q.1 = q.2 := Zb (decide_eq_true h) hl
theorem oN {p : Prop} [Decidable p] (hl : ∀ q ∈ l, q.1 = q.2) (h : ¬ p := by omega) : ∀ q ∈ (decide p, false) :: l, q.1 = q.2 := Zb (decide_eq_false h) hl
theorem oR {α : Type} {a b : α} (hl : ∀ q ∈ l, q.1 = q.2) (h : a = b := by rfl) : ∀ q ∈ (dP (a = b), true) :: l, q.1 = q.2 := Zb (Zg h) hl
theorem oB {a b : Nat} (hl : ∀ q ∈ l, q.1 = q.2) (h : a < b := by omega) : ∀ q ∈ (Nat.blt a b, true) :: l, q.1 = q.2 := Zb (Zua h) hl
theorem oI {a b : Int} (hl : ∀ q ∈ l, q.1 = q.2) (h : a = b := by first | rfl | exact Zf4 (by omega)) : ∀ q ∈ ((a == b), true) :: l, q.1 = q.2 := Zb (bT h) hl
end
def Ztu : FuncId → Bool := fun f => Nat.beq f 26 || Nat.beq f 9
noncomputable def Zsy : FuncId → Option Ext := Zpa (Zrx ZoY) Ztu
theorem Zuf : Fit Tryz.prog Zsy := fitT (Ztb ZgY) (fun f h => by
 simp only [Ztu, Bool.or_eq_true] at h
 simp only [Nat.beq_eq] at h
 rcases h with rfl | rfl
 ·exact ⟨_, _, Tryz.func26, rfl⟩
 ·exact ⟨_, _, Tryz.func9, rfl⟩
 )
end Ev
end Go.Proofs.YtaifklllpehnmaaGreatDoor
/- Calls do what the plain functions say. -/
namespace Go.Proofs.YtaifklllpehnmaaGreatDoor
open Go.RowKit
namespace Ev
set_option linter.unusedVariables false
set_option maxRecDepth 100000
noncomputable def ZgG  : ZbX → Value
 | .r0 => vT
noncomputable def ZfZ  : ZbX → List (Option AObj)
 | .r0 => []

theorem Zlm  (N : Nat) : Fx Tryz.prog Zsy Tryz.f9 [] #[] (ZgG ) (ZfZ ) (Zfh  N) := by
 unfold Zfh
 exact Zdt (r := (.r0 : ZbX)) (fu := 4000) (orc := (Zk [] [] [] [] [(0, (Zql 0)), (40, Zqm)])) (live := []) (u := vT) (bl := []) (ob := [(dP (Zpn 50), true), (dP (((((Za ([(104 : Int), (97 : Int), (108 : Int), (116 : Int)] : List Int))).size + ((Za ([(10 : Int)] : List Int))).size : Nat) : Int) ≤ IntKind.i64.max), true), (dP (((((Za ([(106 : Int), (117 : Int), (109 : Int), (112 : Int), (122 : Int), (32 : Int), (114 : Int), (49 : Int), (32 : Int), (64 : Int), (76 : Int), (48 : Int)] : List Int))).size + ((Za ([(10 : Int)] : List Int))).size : Nat) : Int) ≤ IntKind.i64.max), true), (dP (((((Za ([(64 : Int)] : List Int))).size + ((Za ([(76 : Int), (48 : Int)] : List Int))).size : Nat) : Int) ≤ IntKind.i64.max), true), (dP (((((Za ([(76 : Int)] : List Int))).size + ((Za ([(48 : Int)] : List Int))).size : Nat) : Int) ≤ IntKind.i64.max), true), (dP (((((Za ([(114 : Int)] : List Int))).size + ((Za ([(49 : Int)] : List Int))).size : Nat) : Int) ≤ IntKind.i64.max), true), (dP (((((Za ([(58 : Int), (76 : Int), (48 : Int)] : List Int))).size + ((Za ([(10 : Int)] : List Int))).size : Nat) : Int) ≤ IntKind.i64.max), true), (dP (((((Za ([(58 : Int)] : List Int))).size + ((Za ([(76 : Int), (48 : Int)] : List Int))).size : Nat) : Int) ≤ IntKind.i64.max), true), (dP (((((Za ([(76 : Int)] : List Int))).size + ((Za ([(48 : Int)] : List Int))).size : Nat) : Int) ≤ IntKind.i64.max), true), (dP (Zpm 0), true)]) (by kernel_rfl) (Zb (Zg (Zsv 50)) <| Zb (Zg (by first | exact ZaQ (x := ([(104 : Int), (97 : Int), (108 : Int), (116 : Int)] : List Int)) (y := ([(10 : Int)] : List Int)) ltA | (simp only [ZdV, List.append_nil, List.nil_append]; exact ZaQ ltA))) <| Zb (Zg (by first | exact ZaQ (x := ([(106 : Int), (117 : Int), (109 : Int), (112 : Int), (122 : Int), (32 : Int), (114 : Int), (49 : Int), (32 : Int), (64 : Int), (76 : Int), (48 : Int)] : List Int)) (y := ([(10 : Int)] : List Int)) ltA | (simp only [ZdV, List.append_nil, List.nil_append]; exact ZaQ ltA))) <| Zb (Zg (by first | exact ZaQ (x := ([(64 : Int)] : List Int)) (y := ([(76 : Int), (48 : Int)] : List Int)) ltA | (simp only [ZdV, List.append_nil, List.nil_append]; exact ZaQ ltA))) <| Zb (Zg (by first | exact ZaQ (x := ([(76 : Int)] : List Int)) (y := ([(48 : Int)] : List Int)) ltA | (simp only [ZdV, List.append_nil, List.nil_append]; exact ZaQ ltA))) <| Zb (Zg (by first | exact ZaQ (x := ([(114 : Int)] : List Int)) (y := ([(49 : Int)] : List Int)) ltA | (simp only [ZdV, List.append_nil, List.nil_append]; exact ZaQ ltA))) <| Zb (Zg (by first | exact ZaQ (x := ([(58 : Int), (76 : Int), (48 : Int)] : List Int)) (y := ([(10 : Int)] : List Int)) ltA | (simp only [ZdV, List.append_nil, List.nil_append]; exact ZaQ ltA))) <| Zb (Zg (by first | exact ZaQ (x := ([(58 : Int)] : List Int)) (y := ([(76 : Int), (48 : Int)] : List Int)) ltA | (simp only [ZdV, List.append_nil, List.nil_append]; exact ZaQ ltA))) <| Zb (Zg (by first | exact ZaQ (x := ([(76 : Int)] : List Int)) (y := ([(48 : Int)] : List Int)) ltA | (simp only [ZdV, List.append_nil, List.nil_append]; exact ZaQ ltA))) <| Zb (Zg (Zsu 0)) Ze) rfl (by decide) (by rfl) rr trivial

theorem Zix  (N : Nat) (r : ZbX) (h : Zfh  N = some r) : LSpec Tryz.prog 9 #[] [] (ZgG  r) (ZfZ  r) :=
 Zlj Zuf Tryz.func9 (by kernel_rfl) (by kernel_rfl) (fun r => by cases r <;> exact ZbW _ rfl) (Zlm  N) h

end Ev
end Go.Proofs.YtaifklllpehnmaaGreatDoor
/- awake's parts. -/
namespace Go.Proofs.YtaifklllpehnmaaGreatDoor
open Go.RowKit
namespace Ev
set_option linter.unusedVariables false
theorem ZtM (w : World) (ht : TabW w) : Calls Tryz.prog 9 #[] w (Ret (.bool true) w) :=
 Zsi (Zix 0 .r0 rfl) Zq1 rfl
end Ev
end Go.Proofs.YtaifklllpehnmaaGreatDoor
/- Records, and the program's functions as plain ones. -/
namespace Go.Proofs.YtaifklllpehnmaaGreatDoor
open Go.RowKit
namespace Ev
set_option linter.unusedVariables false
structure RA where
 a0 : Int
 a1 : Int
 a2 : Int
 a3 : Int
def RA.z : RA := ⟨0, 0, 0, 0⟩
inductive Zc where
 | r0 (w0 : Int)

def Zp (a0 : Int) (a1 : Int) (a2 : Int) (a3 : Int) (N : Nat) : Option Zc :=
 if a0 < (0 : Int) then
 some (.r0 ((100 : Int)) : Zc)
 else
 if (21 : Int) ≤ a0 then
 some (.r0 ((100 : Int)) : Zc)
 else
 if a0 = (0 : Int) then
 some (.r0 ((100 : Int)) : Zc)
 else
 if a0 = (1 : Int) then
 if (0 : Int) ≤ a1 then
 if a1 ≤ (7 : Int) then
 if (-1099511627776 : Int) ≤ a2 then
 if a2 ≤ (1099511627776 : Int) then
 if (0 : Int) ≤ a3 then
 if a3 ≤ (0 : Int) then
 some (.r0 ((0 : Int)) : Zc)
 else
 some (.r0 ((100 : Int)) : Zc)
 else
 some (.r0 ((100 : Int)) : Zc)
 else
 some (.r0 ((100 : Int)) : Zc)
 else
 some (.r0 ((100 : Int)) : Zc)
 else
 some (.r0 ((100 : Int)) : Zc)
 else
 some (.r0 ((100 : Int)) : Zc)
 else
 if a0 = (2 : Int) then
 if (0 : Int) ≤ a1 then
 if a1 ≤ (7 : Int) then
 if (0 : Int) ≤ a2 then
 if a2 ≤ (0 : Int) then
 if (0 : Int) ≤ a3 then
 if a3 ≤ (0 : Int) then
 some (.r0 ((0 : Int)) : Zc)
 else
 some (.r0 ((100 : Int)) : Zc)
 else
 some (.r0 ((100 : Int)) : Zc)
 else
 some (.r0 ((100 : Int)) : Zc)
 else
 some (.r0 ((100 : Int)) : Zc)
 else
 some (.r0 ((100 : Int)) : Zc)
 else
 some (.r0 ((100 : Int)) : Zc)
 else
 if a0 = (3 : Int) then
 if (0 : Int) ≤ a1 then
 if a1 ≤ (7 : Int) then
 if (0 : Int) ≤ a2 then
 if a2 ≤ (7 : Int) then
 if (0 : Int) ≤ a3 then
 if a3 ≤ (0 : Int) then
 some (.r0 ((0 : Int)) : Zc)
 else
 some (.r0 ((100 : Int)) : Zc)
 else
 some (.r0 ((100 : Int)) : Zc)
 else
 some (.r0 ((100 : Int)) : Zc)
 else
 some (.r0 ((100 : Int)) : Zc)
 else
 some (.r0 ((100 : Int)) : Zc)
 else
 some (.r0 ((100 : Int)) : Zc)
 else
 if a0 = (4 : Int) then
 if (0 : Int) ≤ a1 then
 if a1 ≤ (7 : Int) then
 if (0 : Int) ≤ a2 then
 if a2 ≤ (7 : Int) then
 if (0 : Int) ≤ a3 then
 if a3 ≤ (7 : Int) then
 some (.r0 ((0 : Int)) : Zc)
 else
 some (.r0 ((100 : Int)) : Zc)
 else
 some (.r0 ((100 : Int)) : Zc)
 else
 some (.r0 ((100 : Int)) : Zc)
 else
 some (.r0 ((100 : Int)) : Zc)
 else
 some (.r0 ((100 : Int)) : Zc)
 else
 some (.r0 ((100 : Int)) : Zc)
 else
 if a0 = (5 : Int) then
 if (0 : Int) ≤ a1 then
 if a1 ≤ (7 : Int) then
 if (0 : Int) ≤ a2 then
 if a2 ≤ (7 : Int) then
 if (0 : Int) ≤ a3 then
 if a3 ≤ (7 : Int) then
 some (.r0 ((0 : Int)) : Zc)
 else
 some (.r0 ((100 : Int)) : Zc)
 else
 some (.r0 ((100 : Int)) : Zc)
 else
 some (.r0 ((100 : Int)) : Zc)
 else
 some (.r0 ((100 : Int)) : Zc)
 else
 some (.r0 ((100 : Int)) : Zc)
 else
 some (.r0 ((100 : Int)) : Zc)
 else
 if a0 = (6 : Int) then
 if (0 : Int) ≤ a1 then
 if a1 ≤ (7 : Int) then
 if (0 : Int) ≤ a2 then
 if a2 ≤ (7 : Int) then
 if (0 : Int) ≤ a3 then
 if a3 ≤ (7 : Int) then
 some (.r0 ((0 : Int)) : Zc)
 else
 some (.r0 ((100 : Int)) : Zc)
 else
 some (.r0 ((100 : Int)) : Zc)
 else
 some (.r0 ((100 : Int)) : Zc)
 else
 some (.r0 ((100 : Int)) : Zc)
 else
 some (.r0 ((100 : Int)) : Zc)
 else
 some (.r0 ((100 : Int)) : Zc)
 else
 if a0 = (7 : Int) then
 if (0 : Int) ≤ a1 then
 if a1 ≤ (7 : Int) then
 if (0 : Int) ≤ a2 then
 if a2 ≤ (7 : Int) then
 if (0 : Int) ≤ a3 then
 if a3 ≤ (7 : Int) then
 some (.r0 ((0 : Int)) : Zc)
 else
 some (.r0 ((100 : Int)) : Zc)
 else
 some (.r0 ((100 : Int)) : Zc)
 else
 some (.r0 ((100 : Int)) : Zc)
 else
 some (.r0 ((100 : Int)) : Zc)
 else
 some (.r0 ((100 : Int)) : Zc)
 else
 some (.r0 ((100 : Int)) : Zc)
 else
 if a0 = (8 : Int) then
 if (0 : Int) ≤ a1 then
 if a1 ≤ (512 : Int) then
 if (0 : Int) ≤ a2 then
 if a2 ≤ (0 : Int) then
 if (0 : Int) ≤ a3 then
 if a3 ≤ (0 : Int) then
 some (.r0 ((0 : Int)) : Zc)
 else
 some (.r0 ((100 : Int)) : Zc)
 else
 some (.r0 ((100 : Int)) : Zc)
 else
 some (.r0 ((100 : Int)) : Zc)
 else
 some (.r0 ((100 : Int)) : Zc)
 else
 some (.r0 ((100 : Int)) : Zc)
 else
 some (.r0 ((100 : Int)) : Zc)
 else
 if a0 = (9 : Int) then
 if (0 : Int) ≤ a1 then
 if a1 ≤ (7 : Int) then
 if (0 : Int) ≤ a2 then
 if a2 ≤ (512 : Int) then
 if (0 : Int) ≤ a3 then
 if a3 ≤ (0 : Int) then
 some (.r0 ((0 : Int)) : Zc)
 else
 some (.r0 ((100 : Int)) : Zc)
 else
 some (.r0 ((100 : Int)) : Zc)
 else
 some (.r0 ((100 : Int)) : Zc)
 else
 some (.r0 ((100 : Int)) : Zc)
 else
 some (.r0 ((100 : Int)) : Zc)
 else
 some (.r0 ((100 : Int)) : Zc)
 else
 if a0 = (10 : Int) then
 if (0 : Int) ≤ a1 then
 if a1 ≤ (7 : Int) then
 if (0 : Int) ≤ a2 then
 if a2 ≤ (0 : Int) then
 if (0 : Int) ≤ a3 then
 if a3 ≤ (0 : Int) then
 some (.r0 ((0 : Int)) : Zc)
 else
 some (.r0 ((100 : Int)) : Zc)
 else
 some (.r0 ((100 : Int)) : Zc)
 else
 some (.r0 ((100 : Int)) : Zc)
 else
 some (.r0 ((100 : Int)) : Zc)
 else
 some (.r0 ((100 : Int)) : Zc)
 else
 some (.r0 ((100 : Int)) : Zc)
 else
 if a0 = (11 : Int) then
 if (0 : Int) ≤ a1 then
 if a1 ≤ (7 : Int) then
 if (1 : Int) ≤ a2 then
 if a2 ≤ (16 : Int) then
 if (0 : Int) ≤ a3 then
 if a3 ≤ (IntKind.i64.wrap ((IntKind.i64.wrap ((1 : Int) * (2 ^ (a2).toNat : Int))) - (1 : Int))) then
 some (.r0 ((0 : Int)) : Zc)
 else
 some (.r0 ((100 : Int)) : Zc)
 else
 some (.r0 ((100 : Int)) : Zc)
 else
 some (.r0 ((100 : Int)) : Zc)
 else
 some (.r0 ((100 : Int)) : Zc)
 else
 some (.r0 ((100 : Int)) : Zc)
 else
 some (.r0 ((100 : Int)) : Zc)
 else
 if a0 = (12 : Int) then
 if (0 : Int) ≤ a1 then
 if a1 ≤ (7 : Int) then
 if (0 : Int) ≤ a2 then
 if a2 ≤ (0 : Int) then
 if (0 : Int) ≤ a3 then
 if a3 ≤ (0 : Int) then
 some (.r0 ((0 : Int)) : Zc)
 else
 some (.r0 ((100 : Int)) : Zc)
 else
 some (.r0 ((100 : Int)) : Zc)
 else
 some (.r0 ((100 : Int)) : Zc)
 else
 some (.r0 ((100 : Int)) : Zc)
 else
 some (.r0 ((100 : Int)) : Zc)
 else
 some (.r0 ((100 : Int)) : Zc)
 else
 if a0 = (13 : Int) then
 if (0 : Int) ≤ a1 then
 if a1 ≤ (7 : Int) then
 if (0 : Int) ≤ a2 then
 if a2 ≤ (7 : Int) then
 if (0 : Int) ≤ a3 then
 if a3 ≤ (15 : Int) then
 some (.r0 ((0 : Int)) : Zc)
 else
 some (.r0 ((100 : Int)) : Zc)
 else
 some (.r0 ((100 : Int)) : Zc)
 else
 some (.r0 ((100 : Int)) : Zc)
 else
 some (.r0 ((100 : Int)) : Zc)
 else
 some (.r0 ((100 : Int)) : Zc)
 else
 some (.r0 ((100 : Int)) : Zc)
 else
 if a0 = (14 : Int) then
 if (0 : Int) ≤ a1 then
 if a1 ≤ (7 : Int) then
 if (0 : Int) ≤ a2 then
 if a2 ≤ (15 : Int) then
 if (0 : Int) ≤ a3 then
 if a3 ≤ (7 : Int) then
 some (.r0 ((0 : Int)) : Zc)
 else
 some (.r0 ((100 : Int)) : Zc)
 else
 some (.r0 ((100 : Int)) : Zc)
 else
 some (.r0 ((100 : Int)) : Zc)
 else
 some (.r0 ((100 : Int)) : Zc)
 else
 some (.r0 ((100 : Int)) : Zc)
 else
 some (.r0 ((100 : Int)) : Zc)
 else
 if a0 = (15 : Int) then
 if (0 : Int) ≤ a1 then
 if a1 ≤ (0 : Int) then
 if (0 : Int) ≤ a2 then
 if a2 ≤ (0 : Int) then
 if (0 : Int) ≤ a3 then
 if a3 ≤ (0 : Int) then
 some (.r0 ((0 : Int)) : Zc)
 else
 some (.r0 ((100 : Int)) : Zc)
 else
 some (.r0 ((100 : Int)) : Zc)
 else
 some (.r0 ((100 : Int)) : Zc)
 else
 some (.r0 ((100 : Int)) : Zc)
 else
 some (.r0 ((100 : Int)) : Zc)
 else
 some (.r0 ((100 : Int)) : Zc)
 else
 if a0 = (16 : Int) then
 if (0 : Int) ≤ a1 then
 if a1 ≤ (0 : Int) then
 if (0 : Int) ≤ a2 then
 if a2 ≤ (0 : Int) then
 if (0 : Int) ≤ a3 then
 if a3 ≤ (0 : Int) then
 some (.r0 ((0 : Int)) : Zc)
 else
 some (.r0 ((100 : Int)) : Zc)
 else
 some (.r0 ((100 : Int)) : Zc)
 else
 some (.r0 ((100 : Int)) : Zc)
 else
 some (.r0 ((100 : Int)) : Zc)
 else
 some (.r0 ((100 : Int)) : Zc)
 else
 some (.r0 ((100 : Int)) : Zc)
 else
 if a0 = (17 : Int) then
 if (0 : Int) ≤ a1 then
 if a1 ≤ (0 : Int) then
 if (0 : Int) ≤ a2 then
 if a2 ≤ (0 : Int) then
 if (0 : Int) ≤ a3 then
 if a3 ≤ (0 : Int) then
 some (.r0 ((0 : Int)) : Zc)
 else
 some (.r0 ((100 : Int)) : Zc)
 else
 some (.r0 ((100 : Int)) : Zc)
 else
 some (.r0 ((100 : Int)) : Zc)
 else
 some (.r0 ((100 : Int)) : Zc)
 else
 some (.r0 ((100 : Int)) : Zc)
 else
 some (.r0 ((100 : Int)) : Zc)
 else
 if a0 = (18 : Int) then
 if (0 : Int) ≤ a1 then
 if a1 ≤ (0 : Int) then
 if (0 : Int) ≤ a2 then
 if a2 ≤ (0 : Int) then
 if (0 : Int) ≤ a3 then
 if a3 ≤ (0 : Int) then
 some (.r0 ((0 : Int)) : Zc)
 else
 some (.r0 ((100 : Int)) : Zc)
 else
 some (.r0 ((100 : Int)) : Zc)
 else
 some (.r0 ((100 : Int)) : Zc)
 else
 some (.r0 ((100 : Int)) : Zc)
 else
 some (.r0 ((100 : Int)) : Zc)
 else
 some (.r0 ((100 : Int)) : Zc)
 else
 if a0 = (19 : Int) then
 if (0 : Int) ≤ a1 then
 if a1 ≤ (7 : Int) then
 if (0 : Int) ≤ a2 then
 if a2 ≤ (0 : Int) then
 if (0 : Int) ≤ a3 then
 if a3 ≤ (0 : Int) then
 some (.r0 ((0 : Int)) : Zc)
 else
 some (.r0 ((100 : Int)) : Zc)
 else
 some (.r0 ((100 : Int)) : Zc)
 else
 some (.r0 ((100 : Int)) : Zc)
 else
 some (.r0 ((100 : Int)) : Zc)
 else
 some (.r0 ((100 : Int)) : Zc)
 else
 some (.r0 ((100 : Int)) : Zc)
 else
 if (0 : Int) ≤ a1 then
 if a1 ≤ (0 : Int) then
 if (0 : Int) ≤ a2 then
 if a2 ≤ (0 : Int) then
 if (0 : Int) ≤ a3 then
 if a3 ≤ (0 : Int) then
 some (.r0 ((0 : Int)) : Zc)
 else
 some (.r0 ((100 : Int)) : Zc)
 else
 some (.r0 ((100 : Int)) : Zc)
 else
 some (.r0 ((100 : Int)) : Zc)
 else
 some (.r0 ((100 : Int)) : Zc)
 else
 some (.r0 ((100 : Int)) : Zc)
 else
 some (.r0 ((100 : Int)) : Zc)

inductive Z0 where
 | r0 (w0 : List Int) (w1 : Int)

def ZC (a0 : Int) (a1 : Int) (a2 : Int) (a3 : Int) (N : Nat) : Option Z0 :=
 ((Zp (a0) (a1) (a2) (a3) N).bind fun r => match r with
 | .r0 y0_0 =>
 if ¬ (y0_0 = (0 : Int)) then
 some (.r0 (([] : List Int)) (y0_0) : Z0)
 else
 if a0 < (0 : Int) then
 some (.r0 (([] : List Int)) ((0 : Int)) : Z0)
 else
 if (21 : Int) ≤ a0 then
 some (.r0 (([] : List Int)) ((0 : Int)) : Z0)
 else
 if a0 = (0 : Int) then
 some (.r0 (([] : List Int)) ((0 : Int)) : Z0)
 else
 if a0 = (1 : Int) then
 if (-9223372036854775808 : Int) ≤ a1 then
 if a1 ≤ (9223372036854775807 : Int) then
 if (Zf a1).length ≤ 21 then
 if (-9223372036854775808 : Int) ≤ a2 then
 if a2 ≤ (9223372036854775807 : Int) then
 if (Zf a2).length ≤ 21 then
 some (.r0 (((((bl [99, 111, 110, 115, 116, 32]) ++ ((bl [114]) ++ (Zf a1))) ++ (bl [32])) ++ (Zf a2))) ((0 : Int)) : Z0)
 else
 none
 else
 none
 else
 none
 else
 none
 else
 none
 else
 none
 else
 if a0 = (2 : Int) then
 if (-9223372036854775808 : Int) ≤ a1 then
 if a1 ≤ (9223372036854775807 : Int) then
 if (Zf a1).length ≤ 21 then
 some (.r0 (((bl [110, 105, 108, 32]) ++ ((bl [114]) ++ (Zf a1)))) ((0 : Int)) : Z0)
 else
 none
 else
 none
 else
 none
 else
 if a0 = (3 : Int) then
 if (-9223372036854775808 : Int) ≤ a1 then
 if a1 ≤ (9223372036854775807 : Int) then
 if (Zf a1).length ≤ 21 then
 if (-9223372036854775808 : Int) ≤ a2 then
 if a2 ≤ (9223372036854775807 : Int) then
 if (Zf a2).length ≤ 21 then
 some (.r0 (((((bl [109, 111, 118, 101, 32]) ++ ((bl [114]) ++ (Zf a1))) ++ (bl [32])) ++ ((bl [114]) ++ (Zf a2)))) ((0 : Int)) : Z0)
 else
 none
 else
 none
 else
 none
 else
 none
 else
 none
 else
 none
 else
 if a0 = (4 : Int) then
 if (-9223372036854775808 : Int) ≤ a1 then
 if a1 ≤ (9223372036854775807 : Int) then
 if (Zf a1).length ≤ 21 then
 if (-9223372036854775808 : Int) ≤ a2 then
 if a2 ≤ (9223372036854775807 : Int) then
 if (Zf a2).length ≤ 21 then
 if (-9223372036854775808 : Int) ≤ a3 then
 if a3 ≤ (9223372036854775807 : Int) then
 if (Zf a3).length ≤ 21 then
 some (.r0 (((((((bl [97, 100, 100, 32]) ++ ((bl [114]) ++ (Zf a1))) ++ (bl [32])) ++ ((bl [114]) ++ (Zf a2))) ++ (bl [32])) ++ ((bl [114]) ++ (Zf a3)))) ((0 : Int)) : Z0)
 else
 none
 else
 none
 else
 none
 else
 none
 else
 none
 else
 none
 else
 none
 else
 none
 else
 none
 else
 if a0 = (5 : Int) then
 if (-9223372036854775808 : Int) ≤ a1 then
 if a1 ≤ (9223372036854775807 : Int) then
 if (Zf a1).length ≤ 21 then
 if (-9223372036854775808 : Int) ≤ a2 then
 if a2 ≤ (9223372036854775807 : Int) then
 if (Zf a2).length ≤ 21 then
 if (-9223372036854775808 : Int) ≤ a3 then
 if a3 ≤ (9223372036854775807 : Int) then
 if (Zf a3).length ≤ 21 then
 some (.r0 (((((((bl [115, 117, 98, 32]) ++ ((bl [114]) ++ (Zf a1))) ++ (bl [32])) ++ ((bl [114]) ++ (Zf a2))) ++ (bl [32])) ++ ((bl [114]) ++ (Zf a3)))) ((0 : Int)) : Z0)
 else
 none
 else
 none
 else
 none
 else
 none
 else
 none
 else
 none
 else
 none
 else
 none
 else
 none
 else
 if a0 = (6 : Int) then
 if (-9223372036854775808 : Int) ≤ a1 then
 if a1 ≤ (9223372036854775807 : Int) then
 if (Zf a1).length ≤ 21 then
 if (-9223372036854775808 : Int) ≤ a2 then
 if a2 ≤ (9223372036854775807 : Int) then
 if (Zf a2).length ≤ 21 then
 if (-9223372036854775808 : Int) ≤ a3 then
 if a3 ≤ (9223372036854775807 : Int) then
 if (Zf a3).length ≤ 21 then
 some (.r0 (((((((bl [108, 101, 115, 115, 32]) ++ ((bl [114]) ++ (Zf a1))) ++ (bl [32])) ++ ((bl [114]) ++ (Zf a2))) ++ (bl [32])) ++ ((bl [114]) ++ (Zf a3)))) ((0 : Int)) : Z0)
 else
 none
 else
 none
 else
 none
 else
 none
 else
 none
 else
 none
 else
 none
 else
 none
 else
 none
 else
 if a0 = (7 : Int) then
 if (-9223372036854775808 : Int) ≤ a1 then
 if a1 ≤ (9223372036854775807 : Int) then
 if (Zf a1).length ≤ 21 then
 if (-9223372036854775808 : Int) ≤ a2 then
 if a2 ≤ (9223372036854775807 : Int) then
 if (Zf a2).length ≤ 21 then
 if (-9223372036854775808 : Int) ≤ a3 then
 if a3 ≤ (9223372036854775807 : Int) then
 if (Zf a3).length ≤ 21 then
 some (.r0 (((((((bl [101, 113, 32]) ++ ((bl [114]) ++ (Zf a1))) ++ (bl [32])) ++ ((bl [114]) ++ (Zf a2))) ++ (bl [32])) ++ ((bl [114]) ++ (Zf a3)))) ((0 : Int)) : Z0)
 else
 none
 else
 none
 else
 none
 else
 none
 else
 none
 else
 none
 else
 none
 else
 none
 else
 none
 else
 if a0 = (8 : Int) then
 if (-9223372036854775808 : Int) ≤ a1 then
 if a1 ≤ (9223372036854775807 : Int) then
 if (Zf a1).length ≤ 21 then
 some (.r0 (((bl [106, 117, 109, 112, 32]) ++ ((bl [64]) ++ ((bl [76]) ++ (Zf a1))))) ((0 : Int)) : Z0)
 else
 none
 else
 none
 else
 none
 else
 if a0 = (9 : Int) then
 if (-9223372036854775808 : Int) ≤ a1 then
 if a1 ≤ (9223372036854775807 : Int) then
 if (Zf a1).length ≤ 21 then
 if (-9223372036854775808 : Int) ≤ a2 then
 if a2 ≤ (9223372036854775807 : Int) then
 if (Zf a2).length ≤ 21 then
 some (.r0 (((((bl [106, 117, 109, 112, 122, 32]) ++ ((bl [114]) ++ (Zf a1))) ++ (bl [32])) ++ ((bl [64]) ++ ((bl [76]) ++ (Zf a2))))) ((0 : Int)) : Z0)
 else
 none
 else
 none
 else
 none
 else
 none
 else
 none
 else
 none
 else
 if a0 = (10 : Int) then
 if (-9223372036854775808 : Int) ≤ a1 then
 if a1 ≤ (9223372036854775807 : Int) then
 if (Zf a1).length ≤ 21 then
 some (.r0 (((bl [114, 111, 111, 116, 32]) ++ ((bl [114]) ++ (Zf a1)))) ((0 : Int)) : Z0)
 else
 none
 else
 none
 else
 none
 else
 if a0 = (11 : Int) then
 if (-9223372036854775808 : Int) ≤ a1 then
 if a1 ≤ (9223372036854775807 : Int) then
 if (Zf a1).length ≤ 21 then
 if (-9223372036854775808 : Int) ≤ a2 then
 if a2 ≤ (9223372036854775807 : Int) then
 if (Zf a2).length ≤ 21 then
 if (-9223372036854775808 : Int) ≤ a3 then
 if a3 ≤ (9223372036854775807 : Int) then
 if (Zf a3).length ≤ 21 then
 some (.r0 (((((((bl [110, 101, 119, 32]) ++ ((bl [114]) ++ (Zf a1))) ++ (bl [32])) ++ (Zf a2)) ++ (bl [32])) ++ (Zf a3))) ((0 : Int)) : Z0)
 else
 none
 else
 none
 else
 none
 else
 none
 else
 none
 else
 none
 else
 none
 else
 none
 else
 none
 else
 if a0 = (12 : Int) then
 if (-9223372036854775808 : Int) ≤ a1 then
 if a1 ≤ (9223372036854775807 : Int) then
 if (Zf a1).length ≤ 21 then
 some (.r0 (((bl [102, 114, 101, 101, 32]) ++ ((bl [114]) ++ (Zf a1)))) ((0 : Int)) : Z0)
 else
 none
 else
 none
 else
 none
 else
 if a0 = (13 : Int) then
 if (-9223372036854775808 : Int) ≤ a1 then
 if a1 ≤ (9223372036854775807 : Int) then
 if (Zf a1).length ≤ 21 then
 if (-9223372036854775808 : Int) ≤ a2 then
 if a2 ≤ (9223372036854775807 : Int) then
 if (Zf a2).length ≤ 21 then
 if (-9223372036854775808 : Int) ≤ a3 then
 if a3 ≤ (9223372036854775807 : Int) then
 if (Zf a3).length ≤ 21 then
 some (.r0 (((((((bl [103, 101, 116, 32]) ++ ((bl [114]) ++ (Zf a1))) ++ (bl [32])) ++ ((bl [114]) ++ (Zf a2))) ++ (bl [32])) ++ (Zf a3))) ((0 : Int)) : Z0)
 else
 none
 else
 none
 else
 none
 else
 none
 else
 none
 else
 none
 else
 none
 else
 none
 else
 none
 else
 if a0 = (14 : Int) then
 if (-9223372036854775808 : Int) ≤ a1 then
 if a1 ≤ (9223372036854775807 : Int) then
 if (Zf a1).length ≤ 21 then
 if (-9223372036854775808 : Int) ≤ a2 then
 if a2 ≤ (9223372036854775807 : Int) then
 if (Zf a2).length ≤ 21 then
 if (-9223372036854775808 : Int) ≤ a3 then
 if a3 ≤ (9223372036854775807 : Int) then
 if (Zf a3).length ≤ 21 then
 some (.r0 (((((((bl [115, 101, 116, 32]) ++ ((bl [114]) ++ (Zf a1))) ++ (bl [32])) ++ (Zf a2)) ++ (bl [32])) ++ ((bl [114]) ++ (Zf a3)))) ((0 : Int)) : Z0)
 else
 none
 else
 none
 else
 none
 else
 none
 else
 none
 else
 none
 else
 none
 else
 none
 else
 none
 else
 if a0 = (15 : Int) then
 some (.r0 ((bl [98, 101, 103, 105, 110])) ((0 : Int)) : Z0)
 else
 if a0 = (16 : Int) then
 some (.r0 ((bl [101, 108, 115, 101])) ((0 : Int)) : Z0)
 else
 if a0 = (17 : Int) then
 some (.r0 ((bl [101, 110, 100])) ((0 : Int)) : Z0)
 else
 if a0 = (18 : Int) then
 some (.r0 ((bl [114, 101, 116, 114, 121])) ((0 : Int)) : Z0)
 else
 if a0 = (19 : Int) then
 if (-9223372036854775808 : Int) ≤ a1 then
 if a1 ≤ (9223372036854775807 : Int) then
 if (Zf a1).length ≤ 21 then
 some (.r0 (((bl [101, 109, 105, 116, 32]) ++ ((bl [114]) ++ (Zf a1)))) ((0 : Int)) : Z0)
 else
 none
 else
 none
 else
 none
 else
 some (.r0 ((bl [104, 97, 108, 116])) ((0 : Int)) : Z0)
 )

inductive ZW where
 | r0 (w0 : List Int) (w1 : Int)

inductive Z8 where
 | h1m0 (v1 : List Int) (v4 : Nat)
 | h2m0 (v1 : List Int) (v3 : Nat)
 | h2m1 (v1 : List Int) (v3 : Nat) (v4 : List Int)

def ZaZ (L0 : List RA) (N : Nat) (v1 : List Int) (v4 : Nat) : Option (Z8 ⊕ ZW) :=
 if (v4 : Int) < (L0.length : Int) then
 if (L0.getD v4 RA.z).a0 = (8 : Int) then
 ((Zp ((L0.getD v4 RA.z).a0) ((L0.getD v4 RA.z).a1) ((L0.getD v4 RA.z).a2) ((L0.getD v4 RA.z).a3) N).bind fun r => match r with
 | .r0 y2_0 =>
 if ¬ (y2_0 = (0 : Int)) then
 some (.inr (.r0 (([] : List Int)) ((130 : Int)) : ZW))
 else
 if (L0.length : Int) < (L0.getD v4 RA.z).a1 then
 some (.inr (.r0 (([] : List Int)) ((130 : Int)) : ZW))
 else
 if (0 : Int) ≤ (L0.getD v4 RA.z).a1 then
 if ((L0.getD v4 RA.z).a1).toNat < v1.length then
 if (((v4 + 1) : Nat) : Int) ≤ (9223372036854775807 : Int) then
 some (.inl (.h1m0 ((v1.set ((L0.getD v4 RA.z).a1).toNat (IntKind.i64.wrap ((v1.getD ((L0.getD v4 RA.z).a1).toNat 0) + (1 : Int))))) ((v4 + 1)) : Z8))
 else
 none
 else
 none
 else
 none
 )
 else
 if (L0.getD v4 RA.z).a0 = (9 : Int) then
 ((Zp ((L0.getD v4 RA.z).a0) ((L0.getD v4 RA.z).a1) ((L0.getD v4 RA.z).a2) ((L0.getD v4 RA.z).a3) N).bind fun r => match r with
 | .r0 y3_0 =>
 if ¬ (y3_0 = (0 : Int)) then
 some (.inr (.r0 (([] : List Int)) ((130 : Int)) : ZW))
 else
 if (L0.length : Int) < (L0.getD v4 RA.z).a2 then
 some (.inr (.r0 (([] : List Int)) ((130 : Int)) : ZW))
 else
 if (0 : Int) ≤ (L0.getD v4 RA.z).a2 then
 if ((L0.getD v4 RA.z).a2).toNat < v1.length then
 if (((v4 + 1) : Nat) : Int) ≤ (9223372036854775807 : Int) then
 some (.inl (.h1m0 ((v1.set ((L0.getD v4 RA.z).a2).toNat (IntKind.i64.wrap ((v1.getD ((L0.getD v4 RA.z).a2).toNat 0) + (1 : Int))))) ((v4 + 1)) : Z8))
 else
 none
 else
 none
 else
 none
 )
 else
 ((Zp ((L0.getD v4 RA.z).a0) ((L0.getD v4 RA.z).a1) ((L0.getD v4 RA.z).a2) ((L0.getD v4 RA.z).a3) N).bind fun r => match r with
 | .r0 y3_0 =>
 if ¬ (y3_0 = (0 : Int)) then
 some (.inr (.r0 (([] : List Int)) ((130 : Int)) : ZW))
 else
 if (((v4 + 1) : Nat) : Int) ≤ (9223372036854775807 : Int) then
 some (.inl (.h1m0 (v1) ((v4 + 1)) : Z8))
 else
 none
 )
 else
 if (((L0.length + 1) : Nat) : Int) ≤ (9223372036854775807 : Int) then
 some (.inl (.h2m0 (v1) (0) : Z8))
 else
 none

def Za3 (L0 : List RA) (N : Nat) (v1 : List Int) (v3 : Nat) : Option (Z8 ⊕ ZW) :=
 if (v3 : Int) < (((L0.length + 1) : Nat) : Int) then
 if v3 < v1.length then
 if (0 : Int) < (v1.getD v3 0) then
 if (v3 : Int) ≤ (9223372036854775807 : Int) then
 if (Zf (v3 : Int)).length ≤ 21 then
 if (Za8 (((bl [58]) ++ ((bl [76]) ++ (Zf (v3 : Int)))) ++ (bl [10]))) = true then
 if (v3 : Int) < (L0.length : Int) then
 ((ZC ((L0.getD v3 RA.z).a0) ((L0.getD v3 RA.z).a1) ((L0.getD v3 RA.z).a2) ((L0.getD v3 RA.z).a3) N).bind fun r => match r with
 | .r0 y7_0 y7_1 =>
 if (y7_0.length + 1) ≤ 1000000 then
 if (y7_0.length + 1) ≤ 100000 then
 if (Za8 (y7_0 ++ (bl [10]))) = true then
 if (((v3 + 1) : Nat) : Int) ≤ (9223372036854775807 : Int) then
 some (.inl (.h2m1 (v1) ((v3 + 1)) (((((bl [58]) ++ ((bl [76]) ++ (Zf (v3 : Int)))) ++ (bl [10])) ++ (y7_0 ++ (bl [10])))) : Z8))
 else
 none
 else
 none
 else
 none
 else
 none
 )
 else
 if (((v3 + 1) : Nat) : Int) ≤ (9223372036854775807 : Int) then
 some (.inl (.h2m1 (v1) ((v3 + 1)) ((((bl [58]) ++ ((bl [76]) ++ (Zf (v3 : Int)))) ++ (bl [10]))) : Z8))
 else
 none
 else
 none
 else
 none
 else
 none
 else
 if (v3 : Int) < (L0.length : Int) then
 ((ZC ((L0.getD v3 RA.z).a0) ((L0.getD v3 RA.z).a1) ((L0.getD v3 RA.z).a2) ((L0.getD v3 RA.z).a3) N).bind fun r => match r with
 | .r0 y4_0 y4_1 =>
 if (y4_0.length + 1) ≤ 1000000 then
 if (y4_0.length + 1) ≤ 100000 then
 if (Za8 (y4_0 ++ (bl [10]))) = true then
 if (((v3 + 1) : Nat) : Int) ≤ (9223372036854775807 : Int) then
 some (.inl (.h2m1 (v1) ((v3 + 1)) ((y4_0 ++ (bl [10]))) : Z8))
 else
 none
 else
 none
 else
 none
 else
 none
 )
 else
 if (((v3 + 1) : Nat) : Int) ≤ (9223372036854775807 : Int) then
 some (.inl (.h2m0 (v1) ((v3 + 1)) : Z8))
 else
 none
 else
 none
 else
 some (.inr (.r0 (([] : List Int)) ((0 : Int)) : ZW))

def Za4 (L0 : List RA) (N : Nat) (v1 : List Int) (v3 : Nat) (v4 : List Int) : Option (Z8 ⊕ ZW) :=
 if (v3 : Int) < (((L0.length + 1) : Nat) : Int) then
 if v3 < v1.length then
 if (0 : Int) < (v1.getD v3 0) then
 if (v3 : Int) ≤ (9223372036854775807 : Int) then
 if (Zf (v3 : Int)).length ≤ 21 then
 if (Za8 (((bl [58]) ++ ((bl [76]) ++ (Zf (v3 : Int)))) ++ (bl [10]))) = true then
 if v4.length ≤ 100000 then
 if (v3 : Int) < (L0.length : Int) then
 ((ZC ((L0.getD v3 RA.z).a0) ((L0.getD v3 RA.z).a1) ((L0.getD v3 RA.z).a2) ((L0.getD v3 RA.z).a3) N).bind fun r => match r with
 | .r0 y8_0 y8_1 =>
 if (y8_0.length + 1) ≤ 1000000 then
 if (y8_0.length + 1) ≤ 100000 then
 if (Za8 (y8_0 ++ (bl [10]))) = true then
 if (v4.length + ((1 + (1 + (Zf (v3 : Int)).length)) + 1)) ≤ 100000 then
 if (((v3 + 1) : Nat) : Int) ≤ (9223372036854775807 : Int) then
 some (.inl (.h2m1 (v1) ((v3 + 1)) (((v4 ++ (((bl [58]) ++ ((bl [76]) ++ (Zf (v3 : Int)))) ++ (bl [10]))) ++ (y8_0 ++ (bl [10])))) : Z8))
 else
 none
 else
 none
 else
 none
 else
 none
 else
 none
 )
 else
 if (((v3 + 1) : Nat) : Int) ≤ (9223372036854775807 : Int) then
 some (.inl (.h2m1 (v1) ((v3 + 1)) ((v4 ++ (((bl [58]) ++ ((bl [76]) ++ (Zf (v3 : Int)))) ++ (bl [10])))) : Z8))
 else
 none
 else
 none
 else
 none
 else
 none
 else
 none
 else
 if (v3 : Int) < (L0.length : Int) then
 ((ZC ((L0.getD v3 RA.z).a0) ((L0.getD v3 RA.z).a1) ((L0.getD v3 RA.z).a2) ((L0.getD v3 RA.z).a3) N).bind fun r => match r with
 | .r0 y4_0 y4_1 =>
 if (y4_0.length + 1) ≤ 1000000 then
 if (y4_0.length + 1) ≤ 100000 then
 if (Za8 (y4_0 ++ (bl [10]))) = true then
 if v4.length ≤ 100000 then
 if (((v3 + 1) : Nat) : Int) ≤ (9223372036854775807 : Int) then
 some (.inl (.h2m1 (v1) ((v3 + 1)) ((v4 ++ (y4_0 ++ (bl [10])))) : Z8))
 else
 none
 else
 none
 else
 none
 else
 none
 else
 none
 )
 else
 if (((v3 + 1) : Nat) : Int) ≤ (9223372036854775807 : Int) then
 some (.inl (.h2m1 (v1) ((v3 + 1)) (v4) : Z8))
 else
 none
 else
 none
 else
 if 0 < v4.length then
 if v4.length ≤ 1000000000 then
 some (.inr (.r0 (v4) ((0 : Int)) : ZW))
 else
 none
 else
 none

def Zat (L0 : List RA) (N : Nat) : Z8 → Option (Z8 ⊕ ZW)
 | .h1m0 v1 v4 => ZaZ L0 N v1 v4
 | .h2m0 v1 v3 => Za3 L0 N v1 v3
 | .h2m1 v1 v3 v4 => Za4 L0 N v1 v3 v4

def Zcu (L0 : List RA) (N : Nat) : Option (Z8 ⊕ ZW) :=
 if (512 : Int) < (L0.length : Int) then
 some (.inr (.r0 (([] : List Int)) ((3 : Int)) : ZW))
 else
 some (.inl (.h1m0 ((List.replicate (L0.length + 1) (0 : Int))) (0) : Z8))

def ZdW (L0 : List RA) (N : Nat) : Option ZW := goM (Zat L0 N) N (Zcu L0 N)

inductive Zh where
 | r0 (w0 : Bool)

def Zw (a0 : Int) (a1 : Int) (a2 : Int) (a3 : Int) (N : Nat) : Option Zh :=
 if a0 = (1 : Int) then
 if (0 : Int) ≤ a1 then
 if a1 < (8 : Int) then
 if (-1099511627776 : Int) ≤ a2 then
 if a2 ≤ (1099511627776 : Int) then
 if a3 = (0 : Int) then
 some (.r0 (true) : Zh)
 else
 some (.r0 (false) : Zh)
 else
 some (.r0 (false) : Zh)
 else
 some (.r0 (false) : Zh)
 else
 some (.r0 (false) : Zh)
 else
 some (.r0 (false) : Zh)
 else
 if a0 = (2 : Int) then
 if (0 : Int) ≤ a1 then
 if a1 < (8 : Int) then
 if a2 = (0 : Int) then
 if a3 = (0 : Int) then
 some (.r0 (true) : Zh)
 else
 some (.r0 (false) : Zh)
 else
 some (.r0 (false) : Zh)
 else
 some (.r0 (false) : Zh)
 else
 some (.r0 (false) : Zh)
 else
 if a0 = (10 : Int) then
 if (0 : Int) ≤ a1 then
 if a1 < (8 : Int) then
 if a2 = (0 : Int) then
 if a3 = (0 : Int) then
 some (.r0 (true) : Zh)
 else
 some (.r0 (false) : Zh)
 else
 some (.r0 (false) : Zh)
 else
 some (.r0 (false) : Zh)
 else
 some (.r0 (false) : Zh)
 else
 if a0 = (12 : Int) then
 if (0 : Int) ≤ a1 then
 if a1 < (8 : Int) then
 if a2 = (0 : Int) then
 if a3 = (0 : Int) then
 some (.r0 (true) : Zh)
 else
 some (.r0 (false) : Zh)
 else
 some (.r0 (false) : Zh)
 else
 some (.r0 (false) : Zh)
 else
 some (.r0 (false) : Zh)
 else
 if a0 = (19 : Int) then
 if (0 : Int) ≤ a1 then
 if a1 < (8 : Int) then
 if a2 = (0 : Int) then
 if a3 = (0 : Int) then
 some (.r0 (true) : Zh)
 else
 some (.r0 (false) : Zh)
 else
 some (.r0 (false) : Zh)
 else
 some (.r0 (false) : Zh)
 else
 some (.r0 (false) : Zh)
 else
 if a0 = (3 : Int) then
 if (0 : Int) ≤ a1 then
 if a1 < (8 : Int) then
 if (0 : Int) ≤ a2 then
 if a2 < (8 : Int) then
 if a3 = (0 : Int) then
 some (.r0 (true) : Zh)
 else
 some (.r0 (false) : Zh)
 else
 some (.r0 (false) : Zh)
 else
 some (.r0 (false) : Zh)
 else
 some (.r0 (false) : Zh)
 else
 some (.r0 (false) : Zh)
 else
 if a0 = (4 : Int) then
 if (0 : Int) ≤ a1 then
 if a1 < (8 : Int) then
 if (0 : Int) ≤ a2 then
 if a2 < (8 : Int) then
 if (0 : Int) ≤ a3 then
 if a3 < (8 : Int) then
 some (.r0 (true) : Zh)
 else
 some (.r0 (false) : Zh)
 else
 some (.r0 (false) : Zh)
 else
 some (.r0 (false) : Zh)
 else
 some (.r0 (false) : Zh)
 else
 some (.r0 (false) : Zh)
 else
 some (.r0 (false) : Zh)
 else
 if a0 = (5 : Int) then
 if (0 : Int) ≤ a1 then
 if a1 < (8 : Int) then
 if (0 : Int) ≤ a2 then
 if a2 < (8 : Int) then
 if (0 : Int) ≤ a3 then
 if a3 < (8 : Int) then
 some (.r0 (true) : Zh)
 else
 some (.r0 (false) : Zh)
 else
 some (.r0 (false) : Zh)
 else
 some (.r0 (false) : Zh)
 else
 some (.r0 (false) : Zh)
 else
 some (.r0 (false) : Zh)
 else
 some (.r0 (false) : Zh)
 else
 if a0 = (6 : Int) then
 if (0 : Int) ≤ a1 then
 if a1 < (8 : Int) then
 if (0 : Int) ≤ a2 then
 if a2 < (8 : Int) then
 if (0 : Int) ≤ a3 then
 if a3 < (8 : Int) then
 some (.r0 (true) : Zh)
 else
 some (.r0 (false) : Zh)
 else
 some (.r0 (false) : Zh)
 else
 some (.r0 (false) : Zh)
 else
 some (.r0 (false) : Zh)
 else
 some (.r0 (false) : Zh)
 else
 some (.r0 (false) : Zh)
 else
 if a0 = (7 : Int) then
 if (0 : Int) ≤ a1 then
 if a1 < (8 : Int) then
 if (0 : Int) ≤ a2 then
 if a2 < (8 : Int) then
 if (0 : Int) ≤ a3 then
 if a3 < (8 : Int) then
 some (.r0 (true) : Zh)
 else
 some (.r0 (false) : Zh)
 else
 some (.r0 (false) : Zh)
 else
 some (.r0 (false) : Zh)
 else
 some (.r0 (false) : Zh)
 else
 some (.r0 (false) : Zh)
 else
 some (.r0 (false) : Zh)
 else
 if a0 = (8 : Int) then
 if (0 : Int) ≤ a1 then
 if a1 ≤ (512 : Int) then
 if a2 = (0 : Int) then
 if a3 = (0 : Int) then
 some (.r0 (true) : Zh)
 else
 some (.r0 (false) : Zh)
 else
 some (.r0 (false) : Zh)
 else
 some (.r0 (false) : Zh)
 else
 some (.r0 (false) : Zh)
 else
 if a0 = (9 : Int) then
 if (0 : Int) ≤ a1 then
 if a1 < (8 : Int) then
 if (0 : Int) ≤ a2 then
 if a2 ≤ (512 : Int) then
 if a3 = (0 : Int) then
 some (.r0 (true) : Zh)
 else
 some (.r0 (false) : Zh)
 else
 some (.r0 (false) : Zh)
 else
 some (.r0 (false) : Zh)
 else
 some (.r0 (false) : Zh)
 else
 some (.r0 (false) : Zh)
 else
 if a0 = (11 : Int) then
 if (0 : Int) ≤ a1 then
 if a1 < (8 : Int) then
 if (1 : Int) ≤ a2 then
 if a2 ≤ (16 : Int) then
 if (0 : Int) ≤ a3 then
 if a3 < (IntKind.i64.wrap ((1 : Int) * (2 ^ (a2).toNat : Int))) then
 some (.r0 (true) : Zh)
 else
 some (.r0 (false) : Zh)
 else
 some (.r0 (false) : Zh)
 else
 some (.r0 (false) : Zh)
 else
 some (.r0 (false) : Zh)
 else
 some (.r0 (false) : Zh)
 else
 some (.r0 (false) : Zh)
 else
 if a0 = (13 : Int) then
 if (0 : Int) ≤ a1 then
 if a1 < (8 : Int) then
 if (0 : Int) ≤ a2 then
 if a2 < (8 : Int) then
 if (0 : Int) ≤ a3 then
 if a3 < (16 : Int) then
 some (.r0 (true) : Zh)
 else
 some (.r0 (false) : Zh)
 else
 some (.r0 (false) : Zh)
 else
 some (.r0 (false) : Zh)
 else
 some (.r0 (false) : Zh)
 else
 some (.r0 (false) : Zh)
 else
 some (.r0 (false) : Zh)
 else
 if a0 = (14 : Int) then
 if (0 : Int) ≤ a1 then
 if a1 < (8 : Int) then
 if (0 : Int) ≤ a2 then
 if a2 < (16 : Int) then
 if (0 : Int) ≤ a3 then
 if a3 < (8 : Int) then
 some (.r0 (true) : Zh)
 else
 some (.r0 (false) : Zh)
 else
 some (.r0 (false) : Zh)
 else
 some (.r0 (false) : Zh)
 else
 some (.r0 (false) : Zh)
 else
 some (.r0 (false) : Zh)
 else
 some (.r0 (false) : Zh)
 else
 if a0 = (15 : Int) then
 if a1 = (0 : Int) then
 if a2 = (0 : Int) then
 if a3 = (0 : Int) then
 some (.r0 (true) : Zh)
 else
 some (.r0 (false) : Zh)
 else
 some (.r0 (false) : Zh)
 else
 some (.r0 (false) : Zh)
 else
 if a0 = (16 : Int) then
 if a1 = (0 : Int) then
 if a2 = (0 : Int) then
 if a3 = (0 : Int) then
 some (.r0 (true) : Zh)
 else
 some (.r0 (false) : Zh)
 else
 some (.r0 (false) : Zh)
 else
 some (.r0 (false) : Zh)
 else
 if a0 = (17 : Int) then
 if a1 = (0 : Int) then
 if a2 = (0 : Int) then
 if a3 = (0 : Int) then
 some (.r0 (true) : Zh)
 else
 some (.r0 (false) : Zh)
 else
 some (.r0 (false) : Zh)
 else
 some (.r0 (false) : Zh)
 else
 if a0 = (18 : Int) then
 if a1 = (0 : Int) then
 if a2 = (0 : Int) then
 if a3 = (0 : Int) then
 some (.r0 (true) : Zh)
 else
 some (.r0 (false) : Zh)
 else
 some (.r0 (false) : Zh)
 else
 some (.r0 (false) : Zh)
 else
 if a0 = (20 : Int) then
 if a1 = (0 : Int) then
 if a2 = (0 : Int) then
 if a3 = (0 : Int) then
 some (.r0 (true) : Zh)
 else
 some (.r0 (false) : Zh)
 else
 some (.r0 (false) : Zh)
 else
 some (.r0 (false) : Zh)
 else
 some (.r0 (false) : Zh)

inductive Za7 where
 | r0 (w0 : Bool)

inductive Zak where
 | h1m0 (v2 : Nat)

def ZaE (L0 : List RA) (a1 : Int) (N : Nat) (v2 : Nat) : Option (Zak ⊕ Za7) :=
 if (v2 : Int) < (L0.length : Int) then
 if (L0.getD v2 RA.z).a0 = (8 : Int) then
 if (L0.getD v2 RA.z).a1 = a1 then
 some (.inr (.r0 (true) : Za7))
 else
 if (((v2 + 1) : Nat) : Int) ≤ (9223372036854775807 : Int) then
 some (.inl (.h1m0 ((v2 + 1)) : Zak))
 else
 none
 else
 if (L0.getD v2 RA.z).a0 = (9 : Int) then
 if (L0.getD v2 RA.z).a2 = a1 then
 some (.inr (.r0 (true) : Za7))
 else
 if (((v2 + 1) : Nat) : Int) ≤ (9223372036854775807 : Int) then
 some (.inl (.h1m0 ((v2 + 1)) : Zak))
 else
 none
 else
 if (((v2 + 1) : Nat) : Int) ≤ (9223372036854775807 : Int) then
 some (.inl (.h1m0 ((v2 + 1)) : Zak))
 else
 none
 else
 some (.inr (.r0 (false) : Za7))

def Zbs (L0 : List RA) (a1 : Int) (N : Nat) : Zak → Option (Zak ⊕ Za7)
 | .h1m0 v2 => ZaE L0 a1 N v2

def Zef (L0 : List RA) (a1 : Int) (N : Nat) : Option (Zak ⊕ Za7) :=
 some (.inl (.h1m0 (0) : Zak))

def ZcN (L0 : List RA) (a1 : Int) (N : Nat) : Option Za7 := goM (Zbs L0 a1 N) N (Zef L0 a1 N)

inductive Za9 where
 | r0 (w0 : List Int)

def Zcm (rec : Int → Option Za9) (a0 : Int) (N : Nat) : Option Za9 :=
 if a0 < (0 : Int) then
 ((rec ((IntKind.i64.wrap ((0 : Int) - a0)))).bind fun r => match r with
 | .r0 y1_0 =>
 if (1 + y1_0.length) ≤ 1000000 then
 some (.r0 (((bl [45]) ++ y1_0)) : Za9)
 else
 none
 )
 else
 if a0 < (10 : Int) then
 some (.r0 (([((48 : Int) + a0)] : List Int)) : Za9)
 else
 if (a0 / (10 : Int)) ≤ (9223372036854775807 : Int) then
 ((rec ((a0 / (10 : Int)))).bind fun r => match r with
 | .r0 y3_0 =>
 if (y3_0.length + 1) ≤ 1000000 then
 some (.r0 ((y3_0 ++ ([((48 : Int) + (a0 % (10 : Int)))] : List Int))) : Za9)
 else
 none
 )
 else
 none
def Zbx (N : Nat) : Nat → Int → Option Za9
 | 0, _ => none
 | n + 1, a0 => Zcm (Zbx N n) a0 N

def Zy (a0 : Int) (N : Nat) : Option Za9 := Zbx N N a0

inductive Zx where
 | r0 (w0 : List Int) (w1 : Int)

def Z1 (a0 : Int) (a1 : Int) (a2 : Int) (a3 : Int) (N : Nat) : Option Zx :=
 ((Zw (a0) (a1) (a2) (a3) N).bind fun r => match r with
 | .r0 y0_0 =>
 if ¬ (y0_0 = true) then
 some (.r0 (([] : List Int)) ((100 : Int)) : Zx)
 else
 if a0 = (1 : Int) then
 ((Zy (a1) N).bind fun r => match r with
 | .r0 y3_0 =>
 if (2 + y3_0.length) ≤ 1000000 then
 if (5 + (2 + y3_0.length)) ≤ 1000000 then
 ((Zy (a2) N).bind fun r => match r with
 | .r0 y6_0 =>
 if (1 + y6_0.length) ≤ 1000000 then
 if ((5 + (2 + y3_0.length)) + (1 + y6_0.length)) ≤ 1000000 then
 some (.r0 ((((bl [99, 111, 110, 115, 116]) ++ ((bl [32, 114]) ++ y3_0)) ++ ((bl [32]) ++ y6_0))) ((0 : Int)) : Zx)
 else
 none
 else
 none
 )
 else
 none
 else
 none
 )
 else
 if a0 = (2 : Int) then
 ((Zy (a1) N).bind fun r => match r with
 | .r0 y4_0 =>
 if (2 + y4_0.length) ≤ 1000000 then
 if (3 + (2 + y4_0.length)) ≤ 1000000 then
 some (.r0 (((bl [110, 105, 108]) ++ ((bl [32, 114]) ++ y4_0))) ((0 : Int)) : Zx)
 else
 none
 else
 none
 )
 else
 if a0 = (10 : Int) then
 ((Zy (a1) N).bind fun r => match r with
 | .r0 y5_0 =>
 if (2 + y5_0.length) ≤ 1000000 then
 if (4 + (2 + y5_0.length)) ≤ 1000000 then
 some (.r0 (((bl [114, 111, 111, 116]) ++ ((bl [32, 114]) ++ y5_0))) ((0 : Int)) : Zx)
 else
 none
 else
 none
 )
 else
 if a0 = (12 : Int) then
 ((Zy (a1) N).bind fun r => match r with
 | .r0 y6_0 =>
 if (2 + y6_0.length) ≤ 1000000 then
 if (4 + (2 + y6_0.length)) ≤ 1000000 then
 some (.r0 (((bl [102, 114, 101, 101]) ++ ((bl [32, 114]) ++ y6_0))) ((0 : Int)) : Zx)
 else
 none
 else
 none
 )
 else
 if a0 = (19 : Int) then
 ((Zy (a1) N).bind fun r => match r with
 | .r0 y7_0 =>
 if (2 + y7_0.length) ≤ 1000000 then
 if (4 + (2 + y7_0.length)) ≤ 1000000 then
 some (.r0 (((bl [101, 109, 105, 116]) ++ ((bl [32, 114]) ++ y7_0))) ((0 : Int)) : Zx)
 else
 none
 else
 none
 )
 else
 if a0 = (3 : Int) then
 ((Zy (a1) N).bind fun r => match r with
 | .r0 y8_0 =>
 if (2 + y8_0.length) ≤ 1000000 then
 if (4 + (2 + y8_0.length)) ≤ 1000000 then
 ((Zy (a2) N).bind fun r => match r with
 | .r0 y11_0 =>
 if (2 + y11_0.length) ≤ 1000000 then
 if ((4 + (2 + y8_0.length)) + (2 + y11_0.length)) ≤ 1000000 then
 some (.r0 ((((bl [109, 111, 118, 101]) ++ ((bl [32, 114]) ++ y8_0)) ++ ((bl [32, 114]) ++ y11_0))) ((0 : Int)) : Zx)
 else
 none
 else
 none
 )
 else
 none
 else
 none
 )
 else
 if a0 = (4 : Int) then
 ((Zy (a1) N).bind fun r => match r with
 | .r0 y9_0 =>
 if (2 + y9_0.length) ≤ 1000000 then
 if (3 + (2 + y9_0.length)) ≤ 1000000 then
 ((Zy (a2) N).bind fun r => match r with
 | .r0 y12_0 =>
 if (2 + y12_0.length) ≤ 1000000 then
 if ((3 + (2 + y9_0.length)) + (2 + y12_0.length)) ≤ 1000000 then
 ((Zy (a3) N).bind fun r => match r with
 | .r0 y15_0 =>
 if (2 + y15_0.length) ≤ 1000000 then
 if (((3 + (2 + y9_0.length)) + (2 + y12_0.length)) + (2 + y15_0.length)) ≤ 1000000 then
 some (.r0 (((((bl [97, 100, 100]) ++ ((bl [32, 114]) ++ y9_0)) ++ ((bl [32, 114]) ++ y12_0)) ++ ((bl [32, 114]) ++ y15_0))) ((0 : Int)) : Zx)
 else
 none
 else
 none
 )
 else
 none
 else
 none
 )
 else
 none
 else
 none
 )
 else
 if a0 = (5 : Int) then
 ((Zy (a1) N).bind fun r => match r with
 | .r0 y10_0 =>
 if (2 + y10_0.length) ≤ 1000000 then
 if (3 + (2 + y10_0.length)) ≤ 1000000 then
 ((Zy (a2) N).bind fun r => match r with
 | .r0 y13_0 =>
 if (2 + y13_0.length) ≤ 1000000 then
 if ((3 + (2 + y10_0.length)) + (2 + y13_0.length)) ≤ 1000000 then
 ((Zy (a3) N).bind fun r => match r with
 | .r0 y16_0 =>
 if (2 + y16_0.length) ≤ 1000000 then
 if (((3 + (2 + y10_0.length)) + (2 + y13_0.length)) + (2 + y16_0.length)) ≤ 1000000 then
 some (.r0 (((((bl [115, 117, 98]) ++ ((bl [32, 114]) ++ y10_0)) ++ ((bl [32, 114]) ++ y13_0)) ++ ((bl [32, 114]) ++ y16_0))) ((0 : Int)) : Zx)
 else
 none
 else
 none
 )
 else
 none
 else
 none
 )
 else
 none
 else
 none
 )
 else
 if a0 = (6 : Int) then
 ((Zy (a1) N).bind fun r => match r with
 | .r0 y11_0 =>
 if (2 + y11_0.length) ≤ 1000000 then
 if (4 + (2 + y11_0.length)) ≤ 1000000 then
 ((Zy (a2) N).bind fun r => match r with
 | .r0 y14_0 =>
 if (2 + y14_0.length) ≤ 1000000 then
 if ((4 + (2 + y11_0.length)) + (2 + y14_0.length)) ≤ 1000000 then
 ((Zy (a3) N).bind fun r => match r with
 | .r0 y17_0 =>
 if (2 + y17_0.length) ≤ 1000000 then
 if (((4 + (2 + y11_0.length)) + (2 + y14_0.length)) + (2 + y17_0.length)) ≤ 1000000 then
 some (.r0 (((((bl [108, 101, 115, 115]) ++ ((bl [32, 114]) ++ y11_0)) ++ ((bl [32, 114]) ++ y14_0)) ++ ((bl [32, 114]) ++ y17_0))) ((0 : Int)) : Zx)
 else
 none
 else
 none
 )
 else
 none
 else
 none
 )
 else
 none
 else
 none
 )
 else
 if a0 = (7 : Int) then
 ((Zy (a1) N).bind fun r => match r with
 | .r0 y12_0 =>
 if (2 + y12_0.length) ≤ 1000000 then
 if (2 + (2 + y12_0.length)) ≤ 1000000 then
 ((Zy (a2) N).bind fun r => match r with
 | .r0 y15_0 =>
 if (2 + y15_0.length) ≤ 1000000 then
 if ((2 + (2 + y12_0.length)) + (2 + y15_0.length)) ≤ 1000000 then
 ((Zy (a3) N).bind fun r => match r with
 | .r0 y18_0 =>
 if (2 + y18_0.length) ≤ 1000000 then
 if (((2 + (2 + y12_0.length)) + (2 + y15_0.length)) + (2 + y18_0.length)) ≤ 1000000 then
 some (.r0 (((((bl [101, 113]) ++ ((bl [32, 114]) ++ y12_0)) ++ ((bl [32, 114]) ++ y15_0)) ++ ((bl [32, 114]) ++ y18_0))) ((0 : Int)) : Zx)
 else
 none
 else
 none
 )
 else
 none
 else
 none
 )
 else
 none
 else
 none
 )
 else
 if a0 = (8 : Int) then
 ((Zy (a1) N).bind fun r => match r with
 | .r0 y13_0 =>
 if (3 + y13_0.length) ≤ 1000000 then
 if (4 + (3 + y13_0.length)) ≤ 1000000 then
 some (.r0 (((bl [106, 117, 109, 112]) ++ ((bl [32, 64, 76]) ++ y13_0))) ((0 : Int)) : Zx)
 else
 none
 else
 none
 )
 else
 if a0 = (9 : Int) then
 ((Zy (a1) N).bind fun r => match r with
 | .r0 y14_0 =>
 if (2 + y14_0.length) ≤ 1000000 then
 if (5 + (2 + y14_0.length)) ≤ 1000000 then
 ((Zy (a2) N).bind fun r => match r with
 | .r0 y17_0 =>
 if (3 + y17_0.length) ≤ 1000000 then
 if ((5 + (2 + y14_0.length)) + (3 + y17_0.length)) ≤ 1000000 then
 some (.r0 ((((bl [106, 117, 109, 112, 122]) ++ ((bl [32, 114]) ++ y14_0)) ++ ((bl [32, 64, 76]) ++ y17_0))) ((0 : Int)) : Zx)
 else
 none
 else
 none
 )
 else
 none
 else
 none
 )
 else
 if a0 = (11 : Int) then
 ((Zy (a1) N).bind fun r => match r with
 | .r0 y15_0 =>
 if (2 + y15_0.length) ≤ 1000000 then
 if (3 + (2 + y15_0.length)) ≤ 1000000 then
 ((Zy (a2) N).bind fun r => match r with
 | .r0 y18_0 =>
 if (1 + y18_0.length) ≤ 1000000 then
 if ((3 + (2 + y15_0.length)) + (1 + y18_0.length)) ≤ 1000000 then
 ((Zy (a3) N).bind fun r => match r with
 | .r0 y21_0 =>
 if (1 + y21_0.length) ≤ 1000000 then
 if (((3 + (2 + y15_0.length)) + (1 + y18_0.length)) + (1 + y21_0.length)) ≤ 1000000 then
 some (.r0 (((((bl [110, 101, 119]) ++ ((bl [32, 114]) ++ y15_0)) ++ ((bl [32]) ++ y18_0)) ++ ((bl [32]) ++ y21_0))) ((0 : Int)) : Zx)
 else
 none
 else
 none
 )
 else
 none
 else
 none
 )
 else
 none
 else
 none
 )
 else
 if a0 = (13 : Int) then
 ((Zy (a1) N).bind fun r => match r with
 | .r0 y16_0 =>
 if (2 + y16_0.length) ≤ 1000000 then
 if (3 + (2 + y16_0.length)) ≤ 1000000 then
 ((Zy (a2) N).bind fun r => match r with
 | .r0 y19_0 =>
 if (2 + y19_0.length) ≤ 1000000 then
 if ((3 + (2 + y16_0.length)) + (2 + y19_0.length)) ≤ 1000000 then
 ((Zy (a3) N).bind fun r => match r with
 | .r0 y22_0 =>
 if (1 + y22_0.length) ≤ 1000000 then
 if (((3 + (2 + y16_0.length)) + (2 + y19_0.length)) + (1 + y22_0.length)) ≤ 1000000 then
 some (.r0 (((((bl [103, 101, 116]) ++ ((bl [32, 114]) ++ y16_0)) ++ ((bl [32, 114]) ++ y19_0)) ++ ((bl [32]) ++ y22_0))) ((0 : Int)) : Zx)
 else
 none
 else
 none
 )
 else
 none
 else
 none
 )
 else
 none
 else
 none
 )
 else
 if a0 = (14 : Int) then
 ((Zy (a1) N).bind fun r => match r with
 | .r0 y17_0 =>
 if (2 + y17_0.length) ≤ 1000000 then
 if (3 + (2 + y17_0.length)) ≤ 1000000 then
 ((Zy (a2) N).bind fun r => match r with
 | .r0 y20_0 =>
 if (1 + y20_0.length) ≤ 1000000 then
 if ((3 + (2 + y17_0.length)) + (1 + y20_0.length)) ≤ 1000000 then
 ((Zy (a3) N).bind fun r => match r with
 | .r0 y23_0 =>
 if (2 + y23_0.length) ≤ 1000000 then
 if (((3 + (2 + y17_0.length)) + (1 + y20_0.length)) + (2 + y23_0.length)) ≤ 1000000 then
 some (.r0 (((((bl [115, 101, 116]) ++ ((bl [32, 114]) ++ y17_0)) ++ ((bl [32]) ++ y20_0)) ++ ((bl [32, 114]) ++ y23_0))) ((0 : Int)) : Zx)
 else
 none
 else
 none
 )
 else
 none
 else
 none
 )
 else
 none
 else
 none
 )
 else
 if a0 = (15 : Int) then
 some (.r0 ((bl [98, 101, 103, 105, 110])) ((0 : Int)) : Zx)
 else
 if a0 = (16 : Int) then
 some (.r0 ((bl [101, 108, 115, 101])) ((0 : Int)) : Zx)
 else
 if a0 = (17 : Int) then
 some (.r0 ((bl [101, 110, 100])) ((0 : Int)) : Zx)
 else
 if a0 = (18 : Int) then
 some (.r0 ((bl [114, 101, 116, 114, 121])) ((0 : Int)) : Zx)
 else
 if a0 = (20 : Int) then
 some (.r0 ((bl [104, 97, 108, 116])) ((0 : Int)) : Zx)
 else
 some (.r0 (([] : List Int)) ((0 : Int)) : Zx)
 )

inductive ZK where
 | r0 (w0 : List Int) (w1 : Int)

inductive Zv where
 | h1m0 (v1 : Nat)
 | h2m0 (v1 : Nat)
 | h2m1 (v1 : List Int) (v2 : Nat)

def ZaP (L0 : List RA) (N : Nat) (v1 : Nat) : Option (Zv ⊕ ZK) :=
 if (v1 : Int) < (L0.length : Int) then
 if (L0.getD v1 RA.z).a0 = (8 : Int) then
 ((Zw ((L0.getD v1 RA.z).a0) ((L0.getD v1 RA.z).a1) ((L0.getD v1 RA.z).a2) ((L0.getD v1 RA.z).a3) N).bind fun r => match r with
 | .r0 y2_0 =>
 if ¬ (y2_0 = true) then
 some (.inr (.r0 (([] : List Int)) ((130 : Int)) : ZK))
 else
 if (L0.length : Int) < (L0.getD v1 RA.z).a1 then
 some (.inr (.r0 (([] : List Int)) ((130 : Int)) : ZK))
 else
 if (((v1 + 1) : Nat) : Int) ≤ (9223372036854775807 : Int) then
 some (.inl (.h1m0 ((v1 + 1)) : Zv))
 else
 none
 )
 else
 if (L0.getD v1 RA.z).a0 = (9 : Int) then
 ((Zw ((L0.getD v1 RA.z).a0) ((L0.getD v1 RA.z).a1) ((L0.getD v1 RA.z).a2) ((L0.getD v1 RA.z).a3) N).bind fun r => match r with
 | .r0 y3_0 =>
 if ¬ (y3_0 = true) then
 some (.inr (.r0 (([] : List Int)) ((130 : Int)) : ZK))
 else
 if (L0.length : Int) < (L0.getD v1 RA.z).a2 then
 some (.inr (.r0 (([] : List Int)) ((130 : Int)) : ZK))
 else
 if (((v1 + 1) : Nat) : Int) ≤ (9223372036854775807 : Int) then
 some (.inl (.h1m0 ((v1 + 1)) : Zv))
 else
 none
 )
 else
 ((Zw ((L0.getD v1 RA.z).a0) ((L0.getD v1 RA.z).a1) ((L0.getD v1 RA.z).a2) ((L0.getD v1 RA.z).a3) N).bind fun r => match r with
 | .r0 y3_0 =>
 if ¬ (y3_0 = true) then
 some (.inr (.r0 (([] : List Int)) ((130 : Int)) : ZK))
 else
 if (((v1 + 1) : Nat) : Int) ≤ (9223372036854775807 : Int) then
 some (.inl (.h1m0 ((v1 + 1)) : Zv))
 else
 none
 )
 else
 some (.inl (.h2m0 (0) : Zv))

def Zar (L0 : List RA) (N : Nat) (v1 : Nat) : Option (Zv ⊕ ZK) :=
 if (v1 : Int) ≤ (L0.length : Int) then
 ((ZcN (L0) ((v1 : Int)) N).bind fun r => match r with
 | .r0 y1_0 =>
 if y1_0 = true then
 ((Zy ((v1 : Int)) N).bind fun r => match r with
 | .r0 y3_0 =>
 if y3_0.length = 0 then
 if (v1 : Int) < (L0.length : Int) then
 ((Z1 ((L0.getD v1 RA.z).a0) ((L0.getD v1 RA.z).a1) ((L0.getD v1 RA.z).a2) ((L0.getD v1 RA.z).a3) N).bind fun r => match r with
 | .r0 y6_0 y6_1 =>
 if y6_0.length = 0 then
 if (((v1 + 1) : Nat) : Int) ≤ (9223372036854775807 : Int) then
 some (.inl (.h2m1 ((bl [58, 76, 10, 10])) ((v1 + 1)) : Zv))
 else
 none
 else
 if y6_0.length ≤ 100000 then
 if (Za8 y6_0) = true then
 if (3 + y6_0.length) ≤ 100000 then
 if (((v1 + 1) : Nat) : Int) ≤ (9223372036854775807 : Int) then
 some (.inl (.h2m1 ((((bl [58, 76, 10]) ++ y6_0) ++ (bl [10]))) ((v1 + 1)) : Zv))
 else
 none
 else
 none
 else
 none
 else
 none
 )
 else
 if (((v1 + 1) : Nat) : Int) ≤ (9223372036854775807 : Int) then
 some (.inl (.h2m1 ((bl [58, 76, 10])) ((v1 + 1)) : Zv))
 else
 none
 else
 if y3_0.length ≤ 100000 then
 if (Za8 y3_0) = true then
 if (2 + y3_0.length) ≤ 100000 then
 if (v1 : Int) < (L0.length : Int) then
 ((Z1 ((L0.getD v1 RA.z).a0) ((L0.getD v1 RA.z).a1) ((L0.getD v1 RA.z).a2) ((L0.getD v1 RA.z).a3) N).bind fun r => match r with
 | .r0 y9_0 y9_1 =>
 if y9_0.length = 0 then
 if ((2 + y3_0.length) + 1) ≤ 100000 then
 if (((v1 + 1) : Nat) : Int) ≤ (9223372036854775807 : Int) then
 some (.inl (.h2m1 (((((bl [58, 76]) ++ y3_0) ++ (bl [10])) ++ (bl [10]))) ((v1 + 1)) : Zv))
 else
 none
 else
 none
 else
 if y9_0.length ≤ 100000 then
 if (Za8 y9_0) = true then
 if ((2 + y3_0.length) + 1) ≤ 100000 then
 if (((2 + y3_0.length) + 1) + y9_0.length) ≤ 100000 then
 if (((v1 + 1) : Nat) : Int) ≤ (9223372036854775807 : Int) then
 some (.inl (.h2m1 ((((((bl [58, 76]) ++ y3_0) ++ (bl [10])) ++ y9_0) ++ (bl [10]))) ((v1 + 1)) : Zv))
 else
 none
 else
 none
 else
 none
 else
 none
 else
 none
 )
 else
 if (((v1 + 1) : Nat) : Int) ≤ (9223372036854775807 : Int) then
 some (.inl (.h2m1 ((((bl [58, 76]) ++ y3_0) ++ (bl [10]))) ((v1 + 1)) : Zv))
 else
 none
 else
 none
 else
 none
 else
 none
 )
 else
 if (v1 : Int) < (L0.length : Int) then
 ((Z1 ((L0.getD v1 RA.z).a0) ((L0.getD v1 RA.z).a1) ((L0.getD v1 RA.z).a2) ((L0.getD v1 RA.z).a3) N).bind fun r => match r with
 | .r0 y4_0 y4_1 =>
 if y4_0.length = 0 then
 if (((v1 + 1) : Nat) : Int) ≤ (9223372036854775807 : Int) then
 some (.inl (.h2m1 ((bl [10])) ((v1 + 1)) : Zv))
 else
 none
 else
 if y4_0.length ≤ 100000 then
 if (Za8 y4_0) = true then
 if (((v1 + 1) : Nat) : Int) ≤ (9223372036854775807 : Int) then
 some (.inl (.h2m1 ((y4_0 ++ (bl [10]))) ((v1 + 1)) : Zv))
 else
 none
 else
 none
 else
 none
 )
 else
 if (((v1 + 1) : Nat) : Int) ≤ (9223372036854775807 : Int) then
 some (.inl (.h2m0 ((v1 + 1)) : Zv))
 else
 none
 )
 else
 some (.inr (.r0 (([] : List Int)) ((0 : Int)) : ZK))

def Zas (L0 : List RA) (N : Nat) (v1 : List Int) (v2 : Nat) : Option (Zv ⊕ ZK) :=
 if (v2 : Int) ≤ (L0.length : Int) then
 ((ZcN (L0) ((v2 : Int)) N).bind fun r => match r with
 | .r0 y1_0 =>
 if y1_0 = true then
 if v1.length ≤ 100000 then
 ((Zy ((v2 : Int)) N).bind fun r => match r with
 | .r0 y4_0 =>
 if y4_0.length = 0 then
 if (v1.length + 2) ≤ 100000 then
 if (v2 : Int) < (L0.length : Int) then
 ((Z1 ((L0.getD v2 RA.z).a0) ((L0.getD v2 RA.z).a1) ((L0.getD v2 RA.z).a2) ((L0.getD v2 RA.z).a3) N).bind fun r => match r with
 | .r0 y8_0 y8_1 =>
 if y8_0.length = 0 then
 if ((v1.length + 2) + 1) ≤ 100000 then
 if (((v2 + 1) : Nat) : Int) ≤ (9223372036854775807 : Int) then
 some (.inl (.h2m1 ((((v1 ++ (bl [58, 76])) ++ (bl [10])) ++ (bl [10]))) ((v2 + 1)) : Zv))
 else
 none
 else
 none
 else
 if y8_0.length ≤ 100000 then
 if (Za8 y8_0) = true then
 if ((v1.length + 2) + 1) ≤ 100000 then
 if (((v1.length + 2) + 1) + y8_0.length) ≤ 100000 then
 if (((v2 + 1) : Nat) : Int) ≤ (9223372036854775807 : Int) then
 some (.inl (.h2m1 (((((v1 ++ (bl [58, 76])) ++ (bl [10])) ++ y8_0) ++ (bl [10]))) ((v2 + 1)) : Zv))
 else
 none
 else
 none
 else
 none
 else
 none
 else
 none
 )
 else
 if (((v2 + 1) : Nat) : Int) ≤ (9223372036854775807 : Int) then
 some (.inl (.h2m1 (((v1 ++ (bl [58, 76])) ++ (bl [10]))) ((v2 + 1)) : Zv))
 else
 none
 else
 none
 else
 if y4_0.length ≤ 100000 then
 if (Za8 y4_0) = true then
 if (v1.length + 2) ≤ 100000 then
 if ((v1.length + 2) + y4_0.length) ≤ 100000 then
 if (v2 : Int) < (L0.length : Int) then
 ((Z1 ((L0.getD v2 RA.z).a0) ((L0.getD v2 RA.z).a1) ((L0.getD v2 RA.z).a2) ((L0.getD v2 RA.z).a3) N).bind fun r => match r with
 | .r0 y11_0 y11_1 =>
 if y11_0.length = 0 then
 if (((v1.length + 2) + y4_0.length) + 1) ≤ 100000 then
 if (((v2 + 1) : Nat) : Int) ≤ (9223372036854775807 : Int) then
 some (.inl (.h2m1 (((((v1 ++ (bl [58, 76])) ++ y4_0) ++ (bl [10])) ++ (bl [10]))) ((v2 + 1)) : Zv))
 else
 none
 else
 none
 else
 if y11_0.length ≤ 100000 then
 if (Za8 y11_0) = true then
 if (((v1.length + 2) + y4_0.length) + 1) ≤ 100000 then
 if ((((v1.length + 2) + y4_0.length) + 1) + y11_0.length) ≤ 100000 then
 if (((v2 + 1) : Nat) : Int) ≤ (9223372036854775807 : Int) then
 some (.inl (.h2m1 ((((((v1 ++ (bl [58, 76])) ++ y4_0) ++ (bl [10])) ++ y11_0) ++ (bl [10]))) ((v2 + 1)) : Zv))
 else
 none
 else
 none
 else
 none
 else
 none
 else
 none
 )
 else
 if (((v2 + 1) : Nat) : Int) ≤ (9223372036854775807 : Int) then
 some (.inl (.h2m1 ((((v1 ++ (bl [58, 76])) ++ y4_0) ++ (bl [10]))) ((v2 + 1)) : Zv))
 else
 none
 else
 none
 else
 none
 else
 none
 else
 none
 )
 else
 none
 else
 if (v2 : Int) < (L0.length : Int) then
 ((Z1 ((L0.getD v2 RA.z).a0) ((L0.getD v2 RA.z).a1) ((L0.getD v2 RA.z).a2) ((L0.getD v2 RA.z).a3) N).bind fun r => match r with
 | .r0 y4_0 y4_1 =>
 if y4_0.length = 0 then
 if v1.length ≤ 100000 then
 if (((v2 + 1) : Nat) : Int) ≤ (9223372036854775807 : Int) then
 some (.inl (.h2m1 ((v1 ++ (bl [10]))) ((v2 + 1)) : Zv))
 else
 none
 else
 none
 else
 if y4_0.length ≤ 100000 then
 if (Za8 y4_0) = true then
 if v1.length ≤ 100000 then
 if (v1.length + y4_0.length) ≤ 100000 then
 if (((v2 + 1) : Nat) : Int) ≤ (9223372036854775807 : Int) then
 some (.inl (.h2m1 (((v1 ++ y4_0) ++ (bl [10]))) ((v2 + 1)) : Zv))
 else
 none
 else
 none
 else
 none
 else
 none
 else
 none
 )
 else
 if (((v2 + 1) : Nat) : Int) ≤ (9223372036854775807 : Int) then
 some (.inl (.h2m1 (v1) ((v2 + 1)) : Zv))
 else
 none
 )
 else
 some (.inr (.r0 (v1) ((0 : Int)) : ZK))

def Zad (L0 : List RA) (N : Nat) : Zv → Option (Zv ⊕ ZK)
 | .h1m0 v1 => ZaP L0 N v1
 | .h2m0 v1 => Zar L0 N v1
 | .h2m1 v1 v2 => Zas L0 N v1 v2

def ZbB (L0 : List RA) (N : Nat) : Option (Zv ⊕ ZK) :=
 if (512 : Int) < (L0.length : Int) then
 some (.inr (.r0 (([] : List Int)) ((3 : Int)) : ZK))
 else
 some (.inl (.h1m0 (0) : Zv))

def ZcO (L0 : List RA) (N : Nat) : Option ZK := goM (Zad L0 N) N (ZbB L0 N)

inductive Zal where
 | r0 (w0 : Bool)

def ZbL (L0 : List RA) (a1 : Int) (a2 : Int) (a3 : Int) (a4 : Int) (N : Nat) : Option Zal :=
 ((ZdW ((L0.take ((if (520 : Int) < (L0.length : Int) then (520 : Int) else (L0.length : Int))).toNat)) N).bind fun r => match r with
 | .r0 y0_0 y0_1 =>
 ((ZcO ((L0.take ((if (520 : Int) < (L0.length : Int) then (520 : Int) else (L0.length : Int))).toNat)) N).bind fun r => match r with
 | .r0 y1_0 y1_1 =>
 ((ZC (a1) (a2) (a3) (a4) N).bind fun r => match r with
 | .r0 y2_0 y2_1 =>
 ((Z1 (a1) (a2) (a3) (a4) N).bind fun r => match r with
 | .r0 y3_0 y3_1 =>
 if (Zlk y0_0 y1_0) = true then
 if y0_1 = y1_1 then
 if (Zlk y2_0 y3_0) = true then
 if y2_1 = y3_1 then
 some (.r0 (true) : Zal)
 else
 some (.r0 (false) : Zal)
 else
 some (.r0 (false) : Zal)
 else
 some (.r0 (false) : Zal)
 else
 some (.r0 (false) : Zal)
 )
 )
 )
 )
end Ev
end Go.Proofs.YtaifklllpehnmaaGreatDoor
/- How records are written, and which functions are told. -/
namespace Go.Proofs.YtaifklllpehnmaaGreatDoor
open Go.RowKit
namespace Ev
set_option linter.unusedVariables false
def E_iiii : Enc RA := ⟨fun x => [.i x.a0, .i x.a1, .i x.a2, .i x.a3], 4, RA.z, fun _ => rfl, fun _ => rfl⟩
instance : Inhabited RA := ⟨RA.z⟩
def Zr2 : FuncId → Option (List Value → Option Value) := fun f =>
 bif Nat.beq f 9 then some (fun l => match l with | [] => some (.bool true) | _ => none) else
 none
theorem Zsz (w : World) (ht : TabW w) : Calls Tryz.prog 9 #[] w (Ret (.bool true) w) := ZtM w ht
theorem Zug : Zks Zr2 := fun f g h => by
 unfold Zr2 at h
 cases hb : Nat.beq f 9 with
 | true =>
  rw [hb] at h
  obtain rfl := Nat.eq_of_beq_eq_true hb
  simp only [cond_true, Option.some.injEq] at h
  subst h
  refine ⟨⟨_, _, Tryz.func9, rfl⟩, fun args v ha hv w ht => ?_⟩
  obtain ⟨l⟩ := args
  cases l with
  | nil =>
   change some (Value.bool true) = some v at hv
   injection hv with hv
   subst hv
   exact Zsz w ht
  | cons x l => change (none : Option Value) = some v at hv; cases hv
 | false =>
  rw [hb] at h
  simp only [cond_false] at h
  cases h
def Ztv : FuncId → Bool := fun f => Nat.beq f 7 || Nat.beq f 5 || Nat.beq f 3 || Nat.beq f 16 || Nat.beq f 8 || Nat.beq f 18 || Nat.beq f 6 || Nat.beq f 17 || Nat.beq f 11
noncomputable def ZX : FuncId → Option Ext := Zpa (Zrx Zr2) Ztv
theorem Zdu : Fit Tryz.prog ZX := fitT (Ztb Zug) (fun f h => by
 simp only [Ztv, Bool.or_eq_true] at h
 simp only [Nat.beq_eq] at h
 rcases h with (((((((rfl | rfl) | rfl) | rfl) | rfl) | rfl) | rfl) | rfl) | rfl
 ·exact ⟨_, _, Tryz.func7, rfl⟩
 ·exact ⟨_, _, Tryz.func5, rfl⟩
 ·exact ⟨_, _, Tryz.func3, rfl⟩
 ·exact ⟨_, _, Tryz.func16, rfl⟩
 ·exact ⟨_, _, Tryz.func8, rfl⟩
 ·exact ⟨_, _, Tryz.func18, rfl⟩
 ·exact ⟨_, _, Tryz.func6, rfl⟩
 ·exact ⟨_, _, Tryz.func17, rfl⟩
 ·exact ⟨_, _, Tryz.func11, rfl⟩
 )
end Ev
end Go.Proofs.YtaifklllpehnmaaGreatDoor
