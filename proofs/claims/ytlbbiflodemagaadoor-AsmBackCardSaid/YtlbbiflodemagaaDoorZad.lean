/- Part 4. -/
import Derived.Test.YtlbbiflodemagaaDoorZac
set_option linter.unusedSimpArgs false
set_option linter.unusedVariables false
/- The runner, with places to stop at: where a way on of a given depth begins, so many of them left out. -/
namespace Go.Proofs.YtlbbiflodemagaaDoor
open Go.RowKit
namespace Ev
inductive StopC where
 | fin (v : Value) (s : St)
 | head (a : Code) (K : List Zbk) (T : Tr Value) (s : St)
 | next (i : Nat) (T : Tr Value) (s : St)
 | cut (b : Code) (K : List Zbk) (T : Tr Value) (s : St)
 | thr (u : Value) (s : St)
noncomputable section
def StopC.s : StopC → St
 | .fin _ s => s
 | .head _ _ _ s => s
 | .next _ _ s => s
 | .cut _ _ _ s => s
 | .thr _ s => s
def ZrD (s : St) : Option Value → Option StopC
 | some v => some (.fin v s)
 | none => none
def ZrE : Option (Value × Tr Value × St) → Option StopC
 | some (u, _, s) => bif ZbL u then some (.thr u s) else none
 | none => none
def ZvD (P : Program) (fn : Func) (e : Ex) (T : Tr Value) (s : St) : Option StopC :=
 match e with
 | .exit _ => none
 | .normal => ZrD s (Zur P fn T s)
 | .ret => ZrD s (Zur P fn T s)
mutual
def ZdI (P : Program) (ext : FuncId → Option Ext) (fn : Func) (nt : Nat) (cd : Nat) : Nat → Nat → Code → List Zbk → Tr Value → St → Option StopC
 | 0, _, _, _, _, _ => none
 | fu + 1, cm, c, K, T, s => match c with
  | .seq a b => ZdI P ext fn nt cd fu cm a (.seq b :: K) T s
  | .scope a => ZdI P ext fn nt cd fu cm a (.scp :: K) T s
  | .block id a => ZdI P ext fn nt cd fu cm a (.blk id :: K) T s
  | .cond x a b => match opnd T x with
   | .bool t => match t with
    | true => ZdI P ext fn nt cd fu cm a K T s
    | false => ZdI P ext fn nt cd fu cm b K T s
   | _ => none
  | .loop a => some (.head a K T s)
  | c => match ZaE P ext nt fu c T s with
   | some (e, T', s') => Zco P ext fn nt cd fu cm K e T' s'
   | none => ZrE (ZaP P ext nt (Zdy P ext fu) fu c T s)
termination_by structural fu _ _ _ _ _ => fu
def Zco (P : Program) (ext : FuncId → Option Ext) (fn : Func) (nt : Nat) (cd : Nat) : Nat → Nat → List Zbk → Ex → Tr Value → St → Option StopC
 | 0, _, _, _, _, _ => none
 | fu + 1, cm, K, e, T, s => match K with
  | [] => ZvD P fn e T s
  | .seq b :: K => match e with
   | .normal => match Nat.beq K.length cd with
    | false => ZdI P ext fn nt cd fu cm b K T s
    | true => match cm with
     | 0 => some (.cut b K T s)
     | m + 1 => ZdI P ext fn nt cd fu m b K T s
   | .exit i => Zco P ext fn nt cd fu cm K (.exit i) T s
   | .ret => Zco P ext fn nt cd fu cm K .ret T s
  | .blk id :: K => match e with
   | .exit i => bif Nat.beq i id then Zco P ext fn nt cd fu cm K .normal T s else Zco P ext fn nt cd fu cm K (.exit i) T s
   | .normal => Zco P ext fn nt cd fu cm K .normal T s
   | .ret => Zco P ext fn nt cd fu cm K .ret T s
  | .scp :: K => Zco P ext fn nt cd fu cm K e T s
  | .rnd i :: K => match e with
   | .normal => some (.next i T s)
   | .exit j => Zco P ext fn nt cd fu cm K (.exit j) T s
   | .ret => Zco P ext fn nt cd fu cm K .ret T s
termination_by structural fu _ _ _ _ _ => fu
end
end
section
variable {P : Program} {ext : FuncId → Option Ext}
theorem ZrF {s : St} {o : Option Value} {st : StopC} (h : ZrD s o = some st) : ∃ v, st = .fin v s ∧ o = some v := by
 cases o with
 | none => cases h
 | some v => injection h with h; exact ⟨v, h.symm, rfl⟩
theorem ZrG {fn : Func} {e : Ex} {T : Tr Value} {s : St} {st : StopC} (h : ZvD P fn e T s = some st) : ∃ v, st = .fin v s ∧ (match e with | .exit _ => False | _ => True) ∧ (match ZbT P T s fn.results.toList with | some [v] => some v | some vs => some (.tuple vs.toArray) | none => none) = some v := by
 cases e with
 | exit i => cases h
 | normal => obtain ⟨v, h1, h2⟩ := ZrF h; exact ⟨v, h1, trivial, h2⟩
 | ret => obtain ⟨v, h1, h2⟩ := ZrF h; exact ⟨v, h1, trivial, h2⟩
theorem Zqi {o : Option (Value × Tr Value × St)} {st : StopC} (h : ZrE o = some st) : ∃ u T s, o = some (u, T, s) ∧ ZbL u = true ∧ st = .thr u s := by
 unfold ZrE at h
 split at h
 ·rename_i u T s
  obtain ⟨h1, h2⟩ := Zo h
  injection h2 with h2
  exact ⟨u, T, s, rfl, h1, h2.symm⟩
 ·cases h
theorem ZrH (F : Fit P ext) {fn : Func} {nt cd : Nat} : ∀ fu : Nat, (∀ cm c K T s st, ZdI P ext fn nt cd fu cm c K T s = some st → Up s st.s) ∧ (∀ cm K e T s st, Zco P ext fn nt cd fu cm K e T s = some st → Up s st.s) := by
 intro fu
 induction fu with
 | zero => exact ⟨fun _ _ _ _ _ _ h => by simp [ZdI] at h, fun _ _ _ _ _ _ h => by simp [Zco] at h⟩
 | succ fu ih =>
  obtain ⟨ihT, ihB⟩ := ih
  have other : ∀ cm c K T s st, (match ZaE P ext nt fu c T s with | some (e, T', s') => Zco P ext fn nt cd fu cm K e T' s' | none => ZrE (ZaP P ext nt (Zdy P ext fu) fu c T s)) = some st → Up s st.s := fun cm c K T s st h => by
   split at h
   ·exact ((Zc7 (P := P) (ext := ext) (fun f g hg => (F.hp f g hg).up) fu).1 _ _ _ _ _ _ _ (by assumption)).trans (ihB _ _ _ _ _ _ h)
   ·obtain ⟨u, T', s', hx, _, rfl⟩ := Zqi h
    exact Zhv F (ZkN F fu) fu _ _ _ _ _ _ hx
  refine ⟨fun cm c K T s st h => ?_, fun cm K e T s st h => ?_⟩
  ·cases c <;> simp only [ZdI] at h
   case seq a b => exact ihT _ _ _ _ _ _ h
   case scope a => exact ihT _ _ _ _ _ _ h
   case block id a => exact ihT _ _ _ _ _ _ h
   case cond x a b =>
    split at h
    ·split at h
     ·exact ihT _ _ _ _ _ _ h
     ·exact ihT _ _ _ _ _ _ h
    ·cases h
   case loop a => injection h with h; subst h; exact Up.refl _
   all_goals exact other _ _ _ _ _ _ h
  ·cases K with
   | nil => simp only [Zco] at h; obtain ⟨v, rfl, _⟩ := ZrG h; exact Up.refl _
   | cons k K =>
    cases k <;> simp only [Zco] at h
    ·cases e <;> simp only at h
     ·split at h
      ·exact ihT _ _ _ _ _ _ h
      ·split at h
       ·injection h with h; subst h; exact Up.refl _
       ·exact ihT _ _ _ _ _ _ h
     ·exact ihB _ _ _ _ _ _ h
     ·exact ihB _ _ _ _ _ _ h
    ·cases e <;> simp only at h
     ·exact ihB _ _ _ _ _ _ h
     ·rename_i id i
      cases hb : Nat.beq i id <;> rw [hb] at h <;> exact ihB _ _ _ _ _ _ h
     ·exact ihB _ _ _ _ _ _ h
    ·exact ihB _ _ _ _ _ _ h
    ·cases e <;> simp only at h
     ·injection h with h; subst h; exact Up.refl _
     ·exact ihB _ _ _ _ _ _ h
     ·exact ihB _ _ _ _ _ _ h
def ZlP (P : Program) (fn : Func) (R : Ending → World → Prop) (Nx : Nat → Act → World → Prop) (nt : Nat) (ι : Ren) (a : Act) (w : World) : StopC → Prop
 | .fin v _ => ∀ v', VR ι v v' → R (.returned v') w
 | .head b K T _ => TR ι nt [] T a → (Code.loop b).wp P (post P fn R Nx K) a w
 | .next i T _ => TR ι nt [] T a → Nx i a w
 | .cut b K T _ => TR ι nt [] T a → b.wp P (post P fn R Nx K) a w
 | .thr u _ => ZbL u = true → R (.panicked (Zej u)) w
theorem ZgM {fn : Func} {R : Ending → World → Prop} {Nx : Nat → Act → World → Prop} {ch : List PanicEntry} {a : Act} {w : World} (ha : a.defers = []) (h : R (.panicked ch) w) : ∀ K : List Zbk, post P fn R Nx K (.panic ch) a w
 | [] => ⟨ha, h⟩
 | .seq b :: K => ZgM ha h K
 | .blk id :: K => ZgM ha h K
 | .scp :: K => ZgM ha h K
 | .rnd i :: K => ZgM ha h K
theorem Zqj (F : Fit P ext) {fn : Func} {nt cd : Nat} {R : Ending → World → Prop} {Nx : Nat → Act → World → Prop} : ∀ fu : Nat,
  (∀ cm c K T s st, ZdI P ext fn nt cd fu cm c K T s = some st → (∀ p ∈ st.s.ob, p.1 = p.2) → ∀ ι a w, TR ι nt [] T a → Emb P ι s.h.get w → Fresh ι s.n st.s.n →
   (∀ ι' a' w', Step P ι s.h.get w ι' st.s.h.get w' → Dom ι ι' s.n st.s.n → ZlP P fn R Nx nt ι' a' w' st) → c.wp P (post P fn R Nx K) a w) ∧
  (∀ cm K e T s st, Zco P ext fn nt cd fu cm K e T s = some st → (∀ p ∈ st.s.ob, p.1 = p.2) → ∀ ι a w, TR ι nt [] T a → Emb P ι s.h.get w → Fresh ι s.n st.s.n →
   (∀ ι' a' w', Step P ι s.h.get w ι' st.s.h.get w' → Dom ι ι' s.n st.s.n → ZlP P fn R Nx nt ι' a' w' st) → post P fn R Nx K e.out a w) := by
 intro fu
 induction fu with
 | zero => exact ⟨fun _ _ _ _ _ _ h => by simp [ZdI] at h, fun _ _ _ _ _ _ h => by simp [Zco] at h⟩
 | succ fu ih =>
  obtain ⟨ihT, ihB⟩ := ih
  have other : ∀ cm c K T s st, (match ZaE P ext nt fu c T s with | some (e, T', s') => Zco P ext fn nt cd fu cm K e T' s' | none => ZrE (ZaP P ext nt (Zdy P ext fu) fu c T s)) = some st → (∀ p ∈ st.s.ob, p.1 = p.2) → ∀ ι a w, TR ι nt [] T a → Emb P ι s.h.get w → Fresh ι s.n st.s.n →
   (∀ ι' a' w', Step P ι s.h.get w ι' st.s.h.get w' → Dom ι ι' s.n st.s.n → ZlP P fn R Nx nt ι' a' w' st) → c.wp P (post P fn R Nx K) a w := fun cm c K T s st h ho ι a w hT he hf hQ => by
   split at h
   ·rename_i e T1 s1 h1
    have u1 := (Zc7 (P := P) (ext := ext) (fun f g hg => (F.hp f g hg).up) fu).1 _ _ _ _ _ _ _ h1
    have u2 := (ZrH F (fn := fn) (nt := nt) fu).2 _ _ _ _ _ _ h
    refine wp_mono (Zxj F h1 (ZaG u2.ob ho) hT he (hf.mono (Nat.le_refl _) u2.n)) ?_
    rintro ex a1 w1 ⟨rfl, ι1, g1, g2, g3⟩
    exact ihB _ K e T1 s1 st h ho ι1 a1 w1 g3 g1.emb (hf.after g2 u1.n) fun ι' a' w' k1 k2 => hQ ι' a' w' (g1.trans k1) (g2.trans k2 u1.n u2.n)
   ·obtain ⟨u, T', s', hx, ht, rfl⟩ := Zqi h
    refine wp_mono ((Zob F (ZkN F fu) fu).1 c T s u T' s' hx ho ι [] a w hT he hf) ?_
    rintro ex a1 w1 ⟨ι1, rfl, g1, g2, g3⟩
    exact ZgM g3.2.1 (hQ ι1 a1 w1 g1 g2 ht) K
  refine ⟨fun cm c K T s st h ho ι a w hT he hf hQ => ?_, fun cm K e T s st h ho ι a w hT he hf hQ => ?_⟩
  ·have h0 := h
   cases c <;> simp only [ZdI] at h
   case seq x y => exact wp_seq (ihT _ x (.seq y :: K) T s st h ho ι a w hT he hf hQ)
   case scope x => exact wp_scope_straight (ihT _ x (.scp :: K) T s st h ho ι a w hT he hf hQ)
   case block id x => exact wp_block (ihT _ x (.blk id :: K) T s st h ho ι a w hT he hf hQ)
   case cond x y z =>
    split at h
    ·rename_i t ht
     have hx : a.eval x = .bool t := ZfH ((ht ▸ hT.opnd x : VR ι (.bool t) (Zc2 a x)).bool_inv)
     split at h
     ·exact wp_cond_true hx (ihT _ y K T s st h ho ι a w hT he hf hQ)
     ·exact wp_cond_false hx (ihT _ z K T s st h ho ι a w hT he hf hQ)
    ·cases h
   case loop x =>
    injection h with h
    subst h
    exact hQ ι a w (Step.refl he) Dom.refl hT
   all_goals exact other _ _ K T s st h ho ι a w hT he hf hQ
  ·cases K with
   | nil =>
    simp only [Zco] at h
    obtain ⟨v, rfl, hne, hr⟩ := ZrG h
    obtain ⟨v', hrun, hv⟩ := Zga hT he hr
    have := hQ ι a w (Step.refl he) Dom.refl v' hv
    cases e with
    | normal => exact ⟨hT.2.1, v', hrun, this⟩
    | ret => exact ⟨hT.2.1, v', hrun, this⟩
    | exit i => exact hne.elim
   | cons k K =>
    cases k with
    | seq b =>
     simp only [Zco] at h
     cases e with
     | normal =>
      simp only at h
      split at h
      ·exact ihT _ b K T s st h ho ι a w hT he hf hQ
      ·split at h
       ·injection h with h
        subst h
        exact hQ ι a w (Step.refl he) Dom.refl hT
       ·exact ihT _ b K T s st h ho ι a w hT he hf hQ
     | exit i => exact ihB _ K (.exit i) T s st h ho ι a w hT he hf hQ
     | ret => exact ihB _ K .ret T s st h ho ι a w hT he hf hQ
    | blk id =>
     simp only [Zco] at h
     cases e with
     | normal => exact ihB _ K .normal T s st h ho ι a w hT he hf hQ
     | ret => exact ihB _ K .ret T s st h ho ι a w hT he hf hQ
     | exit i =>
      simp only at h
      show if i = id then _ else _
      cases hb : Nat.beq i id with
      | true =>
       rw [hb] at h
       rw [if_pos (Nat.eq_of_beq_eq_true hb)]
       exact ihB _ K .normal T s st h ho ι a w hT he hf hQ
      | false =>
       rw [hb] at h
       rw [if_neg (fun e => by rw [ZiS e] at hb; cases hb)]
       exact ihB _ K (.exit i) T s st h ho ι a w hT he hf hQ
    | scp =>
     simp only [Zco] at h
     have := ihB _ K e T s st h ho ι a w hT he hf hQ
     cases e <;> exact this
    | rnd i =>
     simp only [Zco] at h
     cases e with
     | normal =>
      injection h with h
      subst h
      exact hQ ι a w (Step.refl he) Dom.refl hT
     | exit j => exact ihB _ K (.exit j) T s st h ho ι a w hT he hf hQ
     | ret => exact ihB _ K .ret T s st h ho ι a w hT he hf hQ
end
noncomputable section
def Zkt (live : List Nat) (r : Option StopC) : Option (Value × List (Option AObj) × List (Bool × Bool)) :=
 match r with
 | some (.fin u s) => bif Nat.ble s.n 500000000 then some (u, live.map s.h.get, s.ob) else none
 | _ => none
def ZrI (r : Option StopC) : Option (Value × List (Bool × Bool)) :=
 match r with
 | some (.thr u s) => bif Nat.ble s.n 500000000 then some (u, s.ob) else none
 | _ => none
def Zhx (i : Nat) (live temps : List Nat) (r : Option StopC) : Option (List (Option Value) × List (Option AObj) × List (Bool × Bool)) :=
 match r with
 | some (.next j T s) => bif Nat.beq j i && Nat.ble s.n 500000000 then some (temps.map T.get, live.map s.h.get, s.ob) else none
 | _ => none
def Zjc (live temps : List Nat) (r : Option StopC) : Option ((Code × List Zbk) × List (Option Value) × List (Option AObj) × List (Bool × Bool)) :=
 match r with
 | some (.head b K T s) => bif Nat.ble s.n 500000000 then some ((b, K), temps.map T.get, live.map s.h.get, s.ob) else none
 | _ => none
def ZrJ (live temps : List Nat) (r : Option StopC) : Option ((Code × List Zbk) × List (Option Value) × List (Option AObj) × List (Bool × Bool)) :=
 match r with
 | some (.cut b K T s) => bif Nat.ble s.n 500000000 then some ((b, K), temps.map T.get, live.map s.h.get, s.ob) else none
 | _ => none
end
theorem ZlQ {live : List Nat} {r : Option StopC} {u : Value} {bl : List (Option AObj)} {ob : List (Bool × Bool)} (h : Zkt live r = some (u, bl, ob)) : ∃ s, r = some (.fin u s) ∧ live.map s.h.get = bl ∧ s.ob = ob ∧ s.n ≤ 500000000 := by
 unfold Zkt at h
 split at h
 ·rename_i u' s
  obtain ⟨hn, h⟩ := Zo h
  injection h with h
  simp only [Prod.mk.injEq] at h
  obtain ⟨rfl, rfl, rfl⟩ := h
  exact ⟨s, rfl, rfl, rfl, Nat.le_of_ble_eq_true hn⟩
 ·cases h
theorem ZsW {r : Option StopC} {u : Value} {ob : List (Bool × Bool)} (h : ZrI r = some (u, ob)) : ∃ s, r = some (.thr u s) ∧ s.ob = ob ∧ s.n ≤ 500000000 := by
 unfold ZrI at h
 split at h
 ·rename_i u' s
  obtain ⟨hn, h⟩ := Zo h
  injection h with h
  simp only [Prod.mk.injEq] at h
  obtain ⟨rfl, rfl⟩ := h
  exact ⟨s, rfl, rfl, Nat.le_of_ble_eq_true hn⟩
 ·cases h
theorem Zll {i : Nat} {live temps : List Nat} {r : Option StopC} {tv : List (Option Value)} {bl : List (Option AObj)} {ob : List (Bool × Bool)} (h : Zhx i live temps r = some (tv, bl, ob)) : ∃ T s, r = some (.next i T s) ∧ temps.map T.get = tv ∧ live.map s.h.get = bl ∧ s.ob = ob ∧ s.n ≤ 500000000 := by
 unfold Zhx at h
 split at h
 ·rename_i j T s
  obtain ⟨hn, h⟩ := Zo h
  simp only [Bool.and_eq_true] at hn
  injection h with h
  simp only [Prod.mk.injEq] at h
  obtain ⟨rfl, rfl, rfl⟩ := h
  exact ⟨T, s, by rw [Nat.eq_of_beq_eq_true hn.1], rfl, rfl, rfl, Nat.le_of_ble_eq_true hn.2⟩
 ·cases h
theorem Zii {live temps : List Nat} {r : Option StopC} {bK : Code × List Zbk} {tv : List (Option Value)} {bl : List (Option AObj)} {ob : List (Bool × Bool)} (h : Zjc live temps r = some (bK, tv, bl, ob)) : ∃ T s, r = some (.head bK.1 bK.2 T s) ∧ temps.map T.get = tv ∧ live.map s.h.get = bl ∧ s.ob = ob ∧ s.n ≤ 500000000 := by
 unfold Zjc at h
 split at h
 ·rename_i b K T s
  obtain ⟨hn, h⟩ := Zo h
  injection h with h
  simp only [Prod.mk.injEq] at h
  obtain ⟨rfl, rfl, rfl, rfl⟩ := h
  exact ⟨T, s, rfl, rfl, rfl, rfl, Nat.le_of_ble_eq_true hn⟩
 ·cases h
theorem ZsX {live temps : List Nat} {r : Option StopC} {bK : Code × List Zbk} {tv : List (Option Value)} {bl : List (Option AObj)} {ob : List (Bool × Bool)} (h : ZrJ live temps r = some (bK, tv, bl, ob)) : ∃ T s, r = some (.cut bK.1 bK.2 T s) ∧ temps.map T.get = tv ∧ live.map s.h.get = bl ∧ s.ob = ob ∧ s.n ≤ 500000000 := by
 unfold ZrJ at h
 split at h
 ·rename_i b K T s
  obtain ⟨hn, h⟩ := Zo h
  injection h with h
  simp only [Prod.mk.injEq] at h
  obtain ⟨rfl, rfl, rfl, rfl⟩ := h
  exact ⟨T, s, rfl, rfl, rfl, rfl, Nat.le_of_ble_eq_true hn⟩
 ·cases h
section
variable {P : Program} {ext : FuncId → Option Ext}
theorem ZvE (F : Fit P ext) {f : FuncId} {fn : Func} {c : Code} (hfn : P.funcs[f]? = some fn) (hb : fn.body = some c) {A : Array Value} {pre : List AObj} {v : Value} {post : List (Option AObj)} (hA : Nat.ble A.size fn.ntmps = true) {fu : Nat} {orc : Orc} {cd cm : Nat} {st : StopC}
  (hev : ZdI P ext fn fn.ntmps cd fu cm c [] (Zeb 0 A.toList .nil) ⟨ZdG 0 pre, pre.length, [], orc, []⟩ = some st) (ho : ∀ p ∈ st.s.ob, p.1 = p.2) (hn : st.s.n ≤ far)
  (hto : ∀ ι0 w0, (∀ k, ι0 k ≠ none → k < pre.length ∨ ZbF k) → ∀ ι' a' w', Step P ι0 (lk pre) w0 ι' st.s.h.get w' → Dom ι0 ι' pre.length st.s.n → ZlP P fn (Fin P ι0 pre w0 v post) (fun _ _ _ => False) fn.ntmps ι' a' w' st) : LSpec P f A pre v post := by
 intro ι w args' hd ha he
 refine calls_of_wp hfn hb ?_
 have := (Zqj F (R := Fin P ι pre w v post) (Nx := fun _ _ _ => False) fu).1 cm c [] _ _ st hev ho ι _ w (Zhs ha (Nat.le_of_ble_eq_true hA)) (by show Emb P ι (ZdG 0 pre).get w; rw [Zfm]; exact he)
  ⟨hn, fun k h1 h2 => by
   cases hk : ι k with
   | none => rfl
   | some b => exact absurd (hd k (by rw [hk]; simp)) (by have h3 : pre.length ≤ k := h1; have h4 : st.s.n ≤ 1000000000 := hn; have h5 : k < st.s.n := h2; unfold ZbF; omega)⟩
  (fun ι' a' w' g1 g2 => hto ι w hd ι' a' w' (by have := g1; simp only [Zfm] at this; exact this) g2)
 exact this
end
end Ev
end Go.Proofs.YtlbbiflodemagaaDoor
/- Functions of loops as machines: states at loops' heads, and a step from each to the next one. -/
namespace Go.Proofs.YtlbbiflodemagaaDoor
open Go.RowKit
namespace Ev
def Za9 : List Zbk → List Nat
  | [] => []
  | .rnd i :: K => i :: Za9 K
  | .seq _ :: K => Za9 K
  | .blk _ :: K => Za9 K
  | .scp :: K => Za9 K
def Zcx {X R : Type} (step : X → Option (X ⊕ R)) : Nat → X → Option R
  | 0, _ => none
  | n + 1, x => match step x with
    | none => none
    | some (.inl y) => Zcx step n y
    | some (.inr r) => some r
def goM {X R : Type} (step : X → Option (X ⊕ R)) (n : Nat) (o : Option (X ⊕ R)) : Option R :=
  match o with
  | none => none
  | some (.inl y) => Zcx step n y
  | some (.inr r) => some r
theorem ZaV (n : Nat) (h : Nat.ble n 1000000000 = true) : n ≤ far := Nat.le_of_ble_eq_true h
theorem Zqk {P : Program} {c : Code} {Q : Exit → Act → World → Prop} : ∀ (n m : Nat), n ≤ m → ∀ a w, Code.rounds P c Q n a w → Code.rounds P c Q m a w
  | 0, _, _, _, _, h => h.elim
  | n + 1, 0, hm, _, _, _ => by omega
  | n + 1, m + 1, hm, a, w, h => by
    rw [rounds_succ] at h ⊢
    refine wp_mono h ?_
    intro e a' w' h'
    cases e with
    | normal => exact Zqk n m (by omega) a' w' h'
    | exit i => exact h'
    | goto l => exact h'
    | ret => exact h'
    | panic ch => exact h'
    | outgrown => exact h'
theorem Zgd {P : Program} {fn : Func} {R : Ending → World → Prop} {Nx Nx' : Nat → Act → World → Prop} : ∀ {K : List Zbk}, (∀ j ∈ Za9 K, Nx' j = Nx j) → post P fn R Nx' K = post P fn R Nx K
  | [], _ => rfl
  | .seq b :: K, h => by simp only [post]; rw [Zgd (K := K) h]
  | .blk id :: K, h => by simp only [post]; rw [Zgd (K := K) h]
  | .scp :: K, h => by simp only [post]; rw [Zgd (K := K) h]
  | .rnd j :: K, h => by
    simp only [post]
    rw [Zgd (K := K) fun j hj => h j (List.mem_cons_of_mem _ hj), h j (List.mem_cons_self ..)]
noncomputable def ZgN : Nat → List (Option AObj) → Tr AObj
  | _, [] => .nil
  | i, none :: l => ZgN (i + 1) l
  | i, some o :: l => (ZgN (i + 1) l).set i (some o)
theorem ZlR : ∀ (l : List (Option AObj)) (i k : Nat), (ZgN i l).get k = if i ≤ k then (l[k - i]?).join else none
  | [], i, k => by
    show (Tr.nil : Tr AObj).get k = _
    rw [Tr.get_nil]
    split <;> simp
  | none :: l, i, k => by
    show (ZgN (i + 1) l).get k = _
    rw [ZlR l (i + 1) k]
    by_cases h : i + 1 ≤ k
    · rw [if_pos h, if_pos (by omega)]
      have : k - i = (k - (i + 1)) + 1 := by omega
      rw [this, List.getElem?_cons_succ]
    · rw [if_neg h]
      by_cases hk : i ≤ k
      · rw [if_pos hk, show k - i = 0 by omega]; rfl
      · rw [if_neg hk]
  | some o :: l, i, k => by
    show ((ZgN (i + 1) l).set i (some o)).get k = _
    rw [Tr.get_set]
    by_cases hk : k = i
    · subst hk; rw [Zr, if_pos (Nat.le_refl _)]; simp
    · rw [Zk hk, ZlR l (i + 1) k]
      by_cases h : i + 1 ≤ k
      · rw [if_pos h, if_pos (by omega)]
        have : k - i = (k - (i + 1)) + 1 := by omega
        rw [this, List.getElem?_cons_succ]
      · rw [if_neg h, if_neg (by omega)]
theorem Zn0 (l : List (Option AObj)) : (ZgN 0 l).get = lkO l := funext fun k => by rw [ZlR]; simp [lkO]
theorem Zhy {nt m : Nat} {lt : List (Nat × Value)} {H : List (Option AObj)} {T : Tr Value} {s : St} {live : List Nat} (hl : live.length = m) (hn : live.Nodup) (ht : Zen (rho live far) ((lt.map (·.1)).map T.get) lt) (hb : ZaQ (rho live far) (live.map s.h.get) H) : Into nt m (fun t => Zax t lt) (ZgN 0 H) T s live := by
  refine ⟨hl, hn, fun t v _ h => Zr9 ht t v h, fun j o ho => ?_⟩
  rw [Zn0] at ho
  exact Zfo hb j o ho
/-! ### A slice of no room may stand for a nil one -/
def WkV (x y : Value) : Prop := x = y ∨ (x = .slice none 0 0 ∧ ∃ A : Addr, y = .slice (some A) 0 0)
def WkC : List Value → List Value → Prop
  | [], [] => True
  | x :: l, y :: m => WkV x y ∧ WkC l m
  | _, _ => False
def WkO (a b : Option AObj) : Prop := a = b ∨ (∃ c c' t q, a = some (.cells c t q) ∧ b = some (.cells c' t q) ∧ WkC c c') ∨ ∃ c c' t, a = some (.cells c t) ∧ b = some (.cells c' t true) ∧ WkC c c' ∧ c' ≠ []
def WkL : List (Option AObj) → List (Option AObj) → Prop
  | [], [] => True
  | a :: l, b :: m => WkO a b ∧ WkL l m
  | _, _ => False
theorem WkL.refl : ∀ l, WkL l l
  | [] => trivial
  | _ :: l => ⟨.inl rfl, WkL.refl l⟩
theorem WkL.len : ∀ {l m}, WkL l m → l.length = m.length
  | [], [], _ => rfl
  | _ :: l, _ :: m, h => congrArg (· + 1) h.2.len
  | [], _ :: _, h => h.elim
  | _ :: _, [], h => h.elim
theorem WkL.at_ : ∀ {l m}, WkL l m → ∀ k, WkO (lkO l k) (lkO m k)
  | [], [], _, k => .inl rfl
  | a :: l, b :: m, h, 0 => by simpa [lkO] using h.1
  | a :: l, b :: m, h, k + 1 => by
    have := h.2.at_ k
    simpa [lkO] using this
  | [], _ :: _, h, _ => h.elim
  | _ :: _, [], h, _ => h.elim
theorem WkV.vr {ι : Ren} {x y r : Value} (h : WkV x y) (hv : VR ι x r) : VR ι y r := by
  rcases h with rfl | ⟨rfl, A, rfl⟩
  · exact hv
  · cases hv with
    | atom h => exact .slice0 fun _ => rfl
theorem WkC.cells : ∀ {c c' : List Value}, WkC c c' → c.length = c'.length ∧ ∀ (i : Nat) y, c'[i]? = some y → ∃ x, c[i]? = some x ∧ WkV x y
  | [], [], _ => ⟨rfl, fun i y h => by simp at h⟩
  | x :: l, y :: m, h => by
    obtain ⟨h1, h2⟩ := h.2.cells
    refine ⟨congrArg (· + 1) h1, fun i z hz => ?_⟩
    cases i with
    | zero => exact ⟨x, rfl, by have : y = z := by simpa using hz
                                exact this ▸ h.1⟩
    | succ i =>
      obtain ⟨x', q1, q2⟩ := h2 i z (by simpa using hz)
      exact ⟨x', by simpa using q1, q2⟩
  | [], _ :: _, h => h.elim
  | _ :: _, [], h => h.elim
theorem WkC.nil {c c' : List Value} (h : WkC c c') : c'.isEmpty = c.isEmpty := by
  cases c <;> cases c' <;> first | rfl | exact h.elim
theorem WkO.kind {a b : Option AObj} (h : WkO a b) : isC b = isC a ∧ sol b = sol a := by
  rcases h with rfl | ⟨c, c', t, q, rfl, rfl, hw⟩ | ⟨c, c', t, rfl, rfl, hw, hn⟩
  · exact ⟨rfl, rfl⟩
  · cases q with
    | false => exact ⟨rfl, rfl⟩
    | true => constructor <;> (show (!c'.isEmpty) = (!c.isEmpty); rw [hw.nil])
  · cases c' with
    | nil => exact absurd rfl hn
    | cons x c' => exact ⟨rfl, rfl⟩
theorem Emb.weaken {P : Program} {ι : Ren} {h h' : AH} {w : World} (e : Emb P ι h w) (hw : ∀ k, WkO (h k) (h' k)) : Emb P ι h' w where
  obj := fun k c t q hk => by
    rcases hw k with z | ⟨c1, c2, t1, q1, z1, z2, z3⟩ | ⟨c1, c2, t1, z1, z2, z3, z4⟩
    · exact e.obj k c t q (z.trans hk)
    · rw [z2] at hk
      injection hk with hk
      injection hk with hc ht hq
      subst hc ht hq
      obtain ⟨b, hb, ⟨y1, y2, y3⟩ | ⟨y1, C, r2, r3, r4⟩⟩ := e.obj k c1 t1 q1 z1
      · subst y2
        refine ⟨b, hb, .inl ⟨y1, ?_, y3⟩⟩
        cases c2 with
        | nil => rfl
        | cons x l => exact z3.elim
      · obtain ⟨l1, l2⟩ := z3.cells
        refine ⟨b, hb, .inr ⟨?_, C, r2, ⟨l1 ▸ r3.1, fun i x y hx hy => ?_⟩, r4⟩⟩
        · have := (WkO.kind (a := some (.cells c1 t1 q1)) (b := some (.cells c2 t1 q1)) (.inr (.inl ⟨_, _, _, _, rfl, rfl, z3⟩))).1
          rw [this]; exact y1
        · obtain ⟨x', w1, w2⟩ := l2 i x hx
          exact w2.vr (r3.2 i x' y w1 hy)
    · rw [z2] at hk
      injection hk with hk
      injection hk with hc ht hq
      subst hc ht hq
      obtain ⟨b, C, hb, r2, r3, r4⟩ := e.objF k c1 t1 z1
      obtain ⟨l1, l2⟩ := z3.cells
      refine ⟨b, hb, .inr ⟨?_, C, r2, ⟨l1 ▸ r3.1, fun i x y hx hy => ?_⟩, r4⟩⟩
      · cases c2 with
        | nil => exact absurd rfl z4
        | cons x l => rfl
      · obtain ⟨x', w1, w2⟩ := l2 i x hx
        exact w2.vr (r3.2 i x' y w1 hy)
  ro := fun {m} k O hk => by
    rcases hw k with q | ⟨c1, c2, t1, q1, z1, z2, z3⟩ | ⟨c1, c2, t1, z1, z2, z3, z4⟩
    · exact e.ro k O (q.trans hk)
    · rw [z2] at hk; injection hk with hk; cases hk
    · rw [z2] at hk; injection hk with hk; cases hk
  inj := fun k k' b b' h1 h2 h3 h4 h5 => e.inj k k' b b' ((hw k).kind.1 ▸ h1) ((hw k').kind.2 ▸ h2) h3 h4 h5
  lt := e.lt
  mks := fun b base id q hq => by
    obtain ⟨m1, m2, m3⟩ := e.mks b base id q hq
    exact ⟨m1, m2, fun k d hk hd => m3 k d ((hw k).kind.1 ▸ hk) hd⟩
  tb := e.tb
theorem Step.weaken {P : Program} {ι ι' : Ren} {h h1 h2 : AH} {w w' : World} (s : Step P ι h w ι' h1 w') (hw : ∀ k, WkO (h1 k) (h2 k)) : Step P ι h w ι' h2 w' where
  ext := s.ext
  emb := s.emb.weaken hw
  os := s.os
  tape := s.tape
  output := s.output
  size := s.size
  frame := s.frame
  new := s.new
  alive := fun k hk hi => s.alive k ((hw k).kind.2 ▸ hk) hi
  kind := fun k hk hi => s.kind k ((hw k).kind.1 ▸ hk) hi
theorem Step.ph {P : Program} {ι0 ι : Ren} {h0 h : AH} {w0 w : World} (S : Step P ι0 h0 w0 ι h w) {j i : Nat} (t : TypeId) (hjf : j < 1000000000) (hj : ι j = none) (hh : h j = none) (hi : isC (h i) = true) : ∃ b, Step P ι0 h0 w0 (upd ι j (some b)) (upd h j (some (.cells [] t true))) w := by
  obtain ⟨bi, hbi⟩ := S.emb.live (ZbU hi)
  have hx : ∀ k b, ι k = some b → upd ι j (some (bi.1, 0)) k = some b := fun k b hk => by
    rw [Zk]; · exact hk
    · intro e; subst e; rw [hj] at hk; cases hk
  have ne : ∀ k o, upd h j (some (AObj.cells [] t true)) k = some o → k ≠ j → h k = some o := fun k o hk hkj => by rwa [Zk hkj] at hk
  have neC : ∀ k, isC (upd h j (some (AObj.cells [] t true)) k) = true → k ≠ j ∧ isC (h k) = true := fun k hk => by
    by_cases hkj : k = j
    · subst hkj; rw [Zr] at hk; cases hk
    · exact ⟨hkj, by rwa [Zk hkj] at hk⟩
  have neS : ∀ k, sol (upd h j (some (AObj.cells [] t true)) k) = true → k ≠ j ∧ sol (h k) = true := fun k hk => by
    by_cases hkj : k = j
    · subst hkj; rw [Zr] at hk; cases hk
    · exact ⟨hkj, by rwa [Zk hkj] at hk⟩
  refine ⟨(bi.1, 0), fun k b hk => hx k b (S.ext k b hk), ⟨fun k c t' q hk => ?_, fun k O hk => ?_, fun k k' b b' h1 h2 h3 h4 h5 => ?_, fun k b hk => ?_, fun b base id q hq => ?_, fun x hx' => (S.emb.tb x hx').imp fun q hq => hx _ _ hq⟩, S.os, S.tape, S.output, S.size, S.frame, fun k b h1 h2 => ?_, fun k h1 h2 => S.alive k (neS k h1).2 h2, fun k h1 h2 => S.kind k (neC k h1).2 h2⟩
  · by_cases hkj : k = j
    · subst hkj
      rw [Zr] at hk
      injection hk with hk
      injection hk with q1 q2 q3
      subst q1 q2 q3
      exact ⟨_, Zr, .inl ⟨rfl, rfl, rfl⟩⟩
    · obtain ⟨b, hb, hz⟩ := S.emb.obj k c t' q (ne k _ hk hkj)
      exact ⟨b, hx k b hb, hz.imp id fun ⟨z1, C, z2, z3, z4⟩ => ⟨z1, C, z2, z3.ext hx, z4⟩⟩
  · by_cases hkj : k = j
    · subst hkj; rw [Zr] at hk; injection hk with hk; cases hk
    · obtain ⟨b, hb, hB⟩ := S.emb.ro k O (ne k _ hk hkj)
      exact ⟨b, hx k b hb, hB⟩
  · obtain ⟨g1, g2⟩ := neC k h1
    obtain ⟨g3, g4⟩ := neS k' h2
    rw [Zk g1] at h3
    rw [Zk g3] at h4
    exact S.emb.inj k k' b b' g2 g4 h3 h4 h5
  · by_cases hkj : k = j
    · subst hkj; rw [Zr] at hk; injection hk with hk; subst hk; exact S.emb.lt i bi hbi
    · rw [Zk hkj] at hk; exact S.emb.lt k b hk
  · obtain ⟨m1, m2, m3⟩ := S.emb.mks b base id q (ZiT hjf _ _ _ _ hq)
    refine ⟨m1, ⟨m2.1.ext hx rfl, fun o c hc => hx _ _ (m2.2 o c hc)⟩, fun k d hk hd => ?_⟩
    obtain ⟨g1, g2⟩ := neC k hk
    rw [Zk g1] at hd
    exact m3 k d g2 hd
  · by_cases hkj : k = j
    · subst hkj
      rw [Zr] at h2
      injection h2 with h2
      subst h2
      cases hi0 : ι0 i with
      | none => exact S.new i bi hi0 hbi
      | some c =>
        have := S.ext i c hi0
        rw [hbi] at this
        injection this with this
        subst this
        exact .inr ⟨i, _, S.kind i hi (by rw [hi0]; simp), hi0, rfl⟩
    · rw [Zk hkj] at h2
      exact S.new k b h1 h2
def ZjD : List (Nat × TypeId) → List (Option AObj) → List (Option AObj)
  | [], H => H
  | x :: js, H => ZjD js (H.set x.1 (some (.cells [] x.2 true)))
def ZrK (live : List Nat) (H : List (Option AObj)) (js : List (Nat × TypeId)) : Bool :=
  Zw (fun x => (match live[x.1]? with | some k => Nat.ble 500000000 k | none => false) && (match H[x.1]? with | some none => true | _ => false)) js && decide (js.map (·.1)).Nodup
theorem Zql : ∀ (js : List (Nat × TypeId)) (H : List (Option AObj)), (ZjD js H).length = H.length
  | [], _ => rfl
  | x :: js, H => by show (ZjD js _).length = _; rw [Zql js]; simp
theorem Zt6 {H : List (Option AObj)} {j : Nat} {o : Option AObj} (hj : j < H.length) : lkO (H.set j o) = upd (lkO H) j o := funext fun k => by
  unfold lkO
  by_cases hk : k = j
  · subst hk; rw [Zr]; simp [hj]
  · rw [Zk hk, List.getElem?_set_ne (fun e => hk e.symm)]
theorem ZrL {P : Program} {ι0 : Ren} {h0 : AH} {w0 w : World} {i : Nat} : ∀ (js : List (Nat × TypeId)) (H : List (Option AObj)) (ι : Ren), H.length ≤ far → (∀ x ∈ js, H[x.1]? = some none ∧ ι x.1 = none) → (js.map (·.1)).Nodup → (js = [] ∨ isC (lkO H i) = true) → Step P ι0 h0 w0 ι (lkO H) w →
    ∃ ι', (∀ k b, ι k = some b → ι' k = some b) ∧ Step P ι0 h0 w0 ι' (lkO (ZjD js H)) w ∧ ∀ k, H.length ≤ k → ι k = none → ι' k = none
  | [], H, ι, _, _, _, _, S => ⟨ι, fun _ _ h => h, S, fun _ _ h => h⟩
  | x :: js, H, ι, hl, hx, hn, hi, S => by
    obtain ⟨h1, h2⟩ := hx x (List.mem_cons_self ..)
    have hlt : x.1 < H.length := (List.getElem?_eq_some_iff.1 h1).1
    have hC : isC (lkO H i) = true := by rcases hi with h | h; cases h; exact h
    have hn1 : lkO H x.1 = none := by unfold lkO; rw [h1]; rfl
    obtain ⟨b, S1⟩ := S.ph x.2 (Nat.lt_of_lt_of_le hlt hl) h2 hn1 hC
    rw [← Zt6 hlt] at S1
    have hnd := List.nodup_cons.1 hn
    have hix : i ≠ x.1 := fun e => by subst e; rw [hn1] at hC; cases hC
    obtain ⟨ι', q1, q2, q3⟩ := ZrL (i := i) js (H.set x.1 (some (.cells [] x.2 true))) _ (by simpa using hl) (fun y hy => by
      have hne : y.1 ≠ x.1 := fun e => hnd.1 (List.mem_map.2 ⟨y, hy, e⟩)
      obtain ⟨g1, g2⟩ := hx y (List.mem_cons_of_mem _ hy)
      exact ⟨by rw [List.getElem?_set_ne (fun e => hne e.symm)]; exact g1, by rw [Zk hne]; exact g2⟩) hnd.2 (.inr (by rw [Zt6 hlt, Zk hix]; exact hC)) S1
    refine ⟨ι', fun k c hk => q1 k c (by rw [Zk (fun e => by subst e; rw [h2] at hk; cases hk)]; exact hk), q2, fun k hk hk2 => q3 k (by simpa using hk) (by rw [Zk (by omega)]; exact hk2)⟩
def ZlS : List Nat → Code → List Zbk → Code × List Zbk
  | [], c, K => (c, K)
  | 0 :: p, .seq a b, K => ZlS p a (.seq b :: K)
  | 1 :: p, .seq _ b, K => ZlS p b K
  | 2 :: p, .scope a, K => ZlS p a (.scp :: K)
  | 3 :: p, .block i a, K => ZlS p a (.blk i :: K)
  | 4 :: p, .cond _ a _, K => ZlS p a K
  | 5 :: p, .cond _ _ b, K => ZlS p b K
  | (n + 6) :: p, .loop a, K => ZlS p a (.rnd n :: K)
  | _, _, K => (.skip, K)
structure Mach where
  fn : Func
  pre : List AObj
  X : Type
  R : Type
  step : X → Option (X ⊕ R)
  hd : X → Nat
  code : Nat → Code × List Zbk
  isL : Nat → Bool
  L : X → List (Nat × Value)
  H : X → List (Option AObj)
  V : R → Value
  Po : R → List (Option AObj)
namespace Mach
def after (M : Mach) (n : Nat) : M.X ⊕ M.R → Option M.R
  | .inl y => Zcx M.step n y
  | .inr r => some r
def KK (M : Mach) (i : Nat) : List Zbk := match M.isL i with | true => .rnd i :: (M.code i).2 | false => (M.code i).2
def IntoM (M : Mach) (y : M.X) (T : Tr Value) (s : St) : Prop :=
  ∃ live H0 js, WkL (ZjD js H0) (M.H y) ∧ ZrK live H0 js = true ∧ (js = [] ∨ ∃ i, isC (lkO H0 i) = true) ∧ Zcn M.pre.length live = true ∧ Into M.fn.ntmps H0.length (fun t => Zax t (M.L y)) (ZgN 0 H0) T s live
def To (M : Mach) (K0 : List Zbk) : StopC → M.X ⊕ M.R → Prop
  | .fin u s, .inr r => ∃ live, Zoc M.pre.length (M.V r) (M.Po r) u s live
  | .next j T s, .inl y => j = M.hd y ∧ M.isL j = true ∧ j ∈ Za9 K0 ∧ M.IntoM y T s
  | .head b K T s, .inl y => M.isL (M.hd y) = true ∧ (b, K) = M.code (M.hd y) ∧ (∀ j ∈ Za9 K, j ∈ Za9 K0) ∧ M.IntoM y T s
  | .cut b K T s, .inl y => M.isL (M.hd y) = false ∧ (b, K) = M.code (M.hd y) ∧ (∀ j ∈ Za9 K, j ∈ Za9 K0) ∧ M.IntoM y T s
  | .thr u _, .inr r => M.V r = u ∧ ZbL u = true ∧ M.Po r = M.pre.map fun _ => none
  | _, _ => False
noncomputable def Start (M : Mach) (x : M.X) (gv : Nat → Value) (P : Program) (ext : FuncId → Option Ext) (cd cm fu : Nat) (orc : Orc) : Option StopC :=
  ZdI P ext M.fn M.fn.ntmps cd fu cm (M.code (M.hd x)).1 (M.KK (M.hd x)) (tmps M.fn.ntmps (fun t => Zax t (M.L x)) gv) ⟨ZgN 0 (M.H x), (M.H x).length, [], orc, []⟩
noncomputable def Ok (M : Mach) (P : Program) (ext : FuncId → Option Ext) (x : M.X) (o : Option (M.X ⊕ M.R)) : Prop :=
  ∀ y, o = some y → ∀ gv, ∃ cd cm fu orc st, M.Start x gv P ext cd cm fu orc = some st ∧ (∀ p ∈ st.s.ob, p.1 = p.2) ∧ st.s.n ≤ 500000000 ∧ M.To (M.KK (M.hd x)) st y
def AtM (M : Mach) (P : Program) (ι0 : Ren) (w0 : World) (y : M.X) (gv : Nat → Value) (a : Act) (w : World) : Prop :=
  At P M.fn.ntmps (tmps M.fn.ntmps (fun t => Zax t (M.L y)) gv) (ZgN 0 (M.H y)).get (M.H y).length far ι0 (lk M.pre) w0 a w
section
variable {P : Program} {ext : FuncId → Option Ext}
def Good (M : Mach) (P : Program) (r : M.R) (ι0 : Ren) (w0 : World) (n : Nat) (x : M.X) (Nx : Nat → Act → World → Prop) (a : Act) (w : World) : Prop :=
  match M.isL (M.hd x) with
  | true => Code.rounds P (M.code (M.hd x)).1 (post P M.fn (Fin P ι0 M.pre w0 (M.V r) (M.Po r)) Nx (M.code (M.hd x)).2) n a w
  | false => (M.code (M.hd x)).1.wp P (post P M.fn (Fin P ι0 M.pre w0 (M.V r) (M.Po r)) Nx (M.code (M.hd x)).2) a w
def Outer (M : Mach) (P : Program) (r : M.R) (ι0 : Ren) (w0 : World) (n : Nat) (js : List Nat) (Nx : Nat → Act → World → Prop) : Prop :=
  ∀ m z, m < n → Zcx M.step m z = some r → M.isL (M.hd z) = true → M.hd z ∈ js → ∀ gv a w, M.AtM P ι0 w0 z gv a w → Nx (M.hd z) a w
theorem keeps_range {n : Nat} (h : n ≤ far) : Zcn n (List.range n) = true := by
  unfold Zcn
  rw [Bool.and_eq_true]
  constructor
  · rw [List.take_of_length_le (by simp)]; exact beq_self_eq_true _
  · have : ∀ l : List Nat, (∀ k ∈ l, k < 1000000000) → Zw (fun k => Nat.blt k 1000000000) l = true := by
      intro l
      induction l with
      | nil => intro _; rfl
      | cons x l ih =>
        intro hl
        show (Nat.blt x 1000000000 && Zw _ l) = true
        rw [ih fun k hk => hl k (List.mem_cons_of_mem _ hk), Bool.and_true, Nat.blt_eq]
        exact hl x (List.mem_cons_self ..)
    exact this _ fun k hk => Nat.lt_of_lt_of_le (List.mem_range.1 hk) h
theorem into_atM (M : Mach) (hH : ∀ x, (M.H x).length ≤ far) {y : M.X} {T : Tr Value} {s : St} (h : M.IntoM y T s) {ι0 ι : Ren} {w0 w : World} {a : Act} (hd : ∀ k, ι0 k ≠ none → k < M.pre.length ∨ ZbF k) (hT : TR ι M.fn.ntmps [] T a) (hS : Step P ι0 (lk M.pre) w0 ι s.h.get w) (hF : ∀ k, 500000000 ≤ k → k < far → ι k = none) : ∃ gv, M.AtM P ι0 w0 y gv a w := by
  obtain ⟨live, H0, js, hwk, hph, hi, hk, h1, h2, h3, h4⟩ := h
  have hlen : H0.length = (M.H y).length := by rw [← hwk.len, Zql]
  obtain ⟨gv, ι', a1, a2, a3, _, a5⟩ := Zr0 hT hS live H0.length far rfl (Znt hk) h1 (hlen ▸ hH y) h2 (fun k hk2 => (hd k hk2).imp (Zoa hk) id) (fun t => Zax t (M.L y)) h3 (ZgN 0 H0).get h4
  rw [Zn0] at a2
  unfold ZrK at hph
  rw [Bool.and_eq_true] at hph
  obtain ⟨i, hi'⟩ : ∃ i, js = [] ∨ isC (lkO H0 i) = true := by
    rcases hi with h | ⟨i, h⟩
    · exact ⟨0, .inl h⟩
    · exact ⟨i, .inr h⟩
  obtain ⟨ι2, b1, b2, b3⟩ := ZrL (i := i) js H0 ι' (hlen ▸ hH y) (fun x hx => by
    have hq := Zao hph.1 x hx
    rw [Bool.and_eq_true] at hq
    obtain ⟨g1, g2⟩ := hq
    constructor
    · split at g2
      · assumption
      · cases g2
    · split at g1
      · rename_i k hlk
        rw [a5 x.1 k hlk]
        exact hF k (Nat.le_of_ble_eq_true g1) (Znt hk k (List.mem_of_getElem? hlk))
      · cases g1) (of_decide_eq_true hph.2) hi' a2
  refine ⟨gv, ι2, a1.on b1, ?_, fun k hk1 hk2 => b3 k (hlen ▸ hk1) (a3 k (hlen ▸ hk1) hk2)⟩
  rw [Zn0]
  exact b2.weaken hwk.at_
theorem run1 (M : Mach) (hH : ∀ x, (M.H x).length ≤ far) (hPo : ∀ r, (M.Po r).length ≤ far) (r : M.R) {ι0 : Ren} {w0 : World} (hd0 : ∀ k, ι0 k ≠ none → k < M.pre.length ∨ ZbF k) (n : Nat)
    (ih : ∀ m, m ≤ n → ∀ x, Zcx M.step m x = some r → ∀ Nx, M.Outer P r ι0 w0 m (Za9 (M.code (M.hd x)).2) Nx → ∀ gv a w, M.AtM P ι0 w0 x gv a w → M.Good P r ι0 w0 m x Nx a w)
    {K0 : List Zbk} {Nx : Nat → Act → World → Prop} (hNx : M.Outer P r ι0 w0 (n + 1) (Za9 K0) Nx) {st : StopC} {y : M.X ⊕ M.R} (hto : M.To K0 st y) (hy : M.after n y = some r)
    {ι : Ren} {a : Act} {w : World} (hS : Step P ι0 (lk M.pre) w0 ι st.s.h.get w) (hF : ∀ k, 500000000 ≤ k → k < far → ι k = none) : ZlP P M.fn (Fin P ι0 M.pre w0 (M.V r) (M.Po r)) Nx M.fn.ntmps ι a w st := by
  have sub : ∀ {K : List Zbk}, (∀ j ∈ Za9 K, j ∈ Za9 K0) → M.Outer P r ι0 w0 n (Za9 K) Nx := fun {K} hs m z hm hz hl hj gv a w hat => hNx m z (by omega) hz hl (hs _ hj) gv a w hat
  cases st with
  | fin u s =>
    cases y with
    | inl y => exact hto.elim
    | inr r' =>
      obtain ⟨live, hto⟩ := hto
      obtain rfl : r' = r := Option.some.inj hy
      exact fun v' hv => ZlI (hPo r') hd0 hto hS hv
  | next j T s =>
    cases y with
    | inr r' => exact hto.elim
    | inl y =>
      obtain ⟨rfl, hl, hj, hin⟩ := hto
      intro hT
      obtain ⟨gv, hat⟩ := M.into_atM hH hin hd0 hT hS hF
      exact hNx n y (by omega) hy hl hj gv a w hat
  | head b K T s =>
    cases y with
    | inr r' => exact hto.elim
    | inl y =>
      obtain ⟨hl, hc, hsub, hin⟩ := hto
      intro hT
      obtain ⟨gv, hat⟩ := M.into_atM hH hin hd0 hT hS hF
      have e1 : b = (M.code (M.hd y)).1 := congrArg Prod.fst hc
      have e2 : K = (M.code (M.hd y)).2 := congrArg Prod.snd hc
      subst e1 e2
      have := ih n (Nat.le_refl _) y hy Nx (sub hsub) gv a w hat
      unfold Good at this
      rw [hl] at this
      exact wp_loop_rounds n this
  | thr u s =>
    cases y with
    | inl y => exact hto.elim
    | inr r' =>
      obtain ⟨hv, ht, hpo⟩ := hto
      obtain rfl : r' = r := Option.some.inj hy
      intro _
      have hl : (M.Po r').length = M.pre.length := by rw [hpo, List.length_map]
      have hfar : M.pre.length ≤ far := hl ▸ hPo r'
      have hf := ZlI (v := .bool true) (u := .bool true) (v' := .bool true) (post := M.Po r') (s := s) (live := List.range M.pre.length) (hPo r') hd0 ⟨by rw [hl, List.length_range], List.nodup_range, keeps_range hfar, ⟨rfl, rfl⟩, fun j o hj => by
        rw [hpo] at hj
        exfalso
        unfold lkO at hj
        rw [List.getElem?_map] at hj
        cases hx : M.pre[j]? <;> rw [hx] at hj <;> cases hj⟩ hS (.atom rfl)
      rcases hf with ⟨v', ι', _, g2, g3, _⟩ | ⟨hz, _⟩
      · rw [← hv] at ht ⊢
        exact .inr ⟨ht, ι', rfl, g2, g3⟩
      · cases hz
  | cut b K T s =>
    cases y with
    | inr r' => exact hto.elim
    | inl y =>
      obtain ⟨hl, hc, hsub, hin⟩ := hto
      intro hT
      obtain ⟨gv, hat⟩ := M.into_atM hH hin hd0 hT hS hF
      have e1 : b = (M.code (M.hd y)).1 := congrArg Prod.fst hc
      have e2 : K = (M.code (M.hd y)).2 := congrArg Prod.snd hc
      subst e1 e2
      have := ih n (Nat.le_refl _) y hy Nx (sub hsub) gv a w hat
      unfold Good at this
      rw [hl] at this
      exact this
theorem rounds (F : Fit P ext) (M : Mach) (hH : ∀ x, (M.H x).length ≤ far) (hPo : ∀ r, (M.Po r).length ≤ far) (hK : ∀ x, M.isL (M.hd x) = true → M.hd x ∉ Za9 (M.code (M.hd x)).2) (ok : ∀ x, M.Ok P ext x (M.step x)) (r : M.R) {ι0 : Ren} {w0 : World} (hd0 : ∀ k, ι0 k ≠ none → k < M.pre.length ∨ ZbF k) :
    ∀ (n : Nat) (x : M.X), Zcx M.step n x = some r → ∀ Nx, M.Outer P r ι0 w0 n (Za9 (M.code (M.hd x)).2) Nx → ∀ gv a w, M.AtM P ι0 w0 x gv a w → M.Good P r ι0 w0 n x Nx a w := by
  intro n
  induction n using Nat.strongRecOn with
  | ind n ih =>
    intro x hx Nx hNx gv a w hat
    cases n with
    | zero => cases hx
    | succ n =>
      have hat0 := hat
      obtain ⟨ι, hT, hS, hfr⟩ := hat
      cases hy : M.step x with
      | none => simp only [Zcx, hy] at hx; cases hx
      | some y =>
        obtain ⟨cd, cm, fu, orc, st, hev, ho, hn, hto⟩ := ok x y hy gv
        have hyr : M.after n y = some r := by
          cases y <;> (simp only [Zcx, hy] at hx; exact hx)
        have hn' : st.s.n ≤ far := Nat.le_trans hn (by decide)
        have fresh : Fresh ι (M.H x).length st.s.n := ⟨hn', fun k h1 h2 => hfr k h1 (Nat.lt_of_lt_of_le h2 hn')⟩
        have ih' : ∀ m, m ≤ n → ∀ x, Zcx M.step m x = some r → ∀ Nx, M.Outer P r ι0 w0 m (Za9 (M.code (M.hd x)).2) Nx → ∀ gv a w, M.AtM P ι0 w0 x gv a w → M.Good P r ι0 w0 m x Nx a w := fun m hm => ih m (by omega)
        have go : ∀ Nx', M.Outer P r ι0 w0 (n + 1) (Za9 (M.KK (M.hd x))) Nx' → (M.code (M.hd x)).1.wp P (post P M.fn (Fin P ι0 M.pre w0 (M.V r) (M.Po r)) Nx' (M.KK (M.hd x))) a w := fun Nx' hNx' =>
          (Zqj F (R := Fin P ι0 M.pre w0 (M.V r) (M.Po r)) (Nx := Nx') fu).1 cm _ _ _ _ st hev ho ι a w hT hS.emb fresh fun ι' a' w' g1 g2 => run1 M hH hPo r hd0 n ih' hNx' hto hyr (hS.trans g1) (fun k h1 h2 => by
            cases hik : ι' k with
            | none => rfl
            | some c =>
              rcases g2 k (by rw [hik]; simp) with h | ⟨_, h⟩ | h
              · exact absurd (hfr k (by have : (M.H x).length ≤ st.s.n := ((ZrH F (fn := M.fn) (nt := M.fn.ntmps) (cd := cd) fu).1 _ _ _ _ _ _ hev).n; omega) h2) h
              · omega
              · omega)
        unfold Good
        cases hl : M.isL (M.hd x) with
        | false =>
          have e : M.KK (M.hd x) = (M.code (M.hd x)).2 := by unfold KK; rw [hl]
          rw [e] at go
          exact go Nx hNx
        | true =>
          have e : M.KK (M.hd x) = .rnd (M.hd x) :: (M.code (M.hd x)).2 := by unfold KK; rw [hl]
          rw [e] at go
          show Code.rounds P _ _ (n + 1) a w
          rw [rounds_succ]
          let Nx' : Nat → Act → World → Prop := fun j => if j = M.hd x then Code.rounds P (M.code (M.hd x)).1 (post P M.fn (Fin P ι0 M.pre w0 (M.V r) (M.Po r)) Nx (M.code (M.hd x)).2) n else Nx j
          have n1 : Nx' (M.hd x) = Code.rounds P (M.code (M.hd x)).1 (post P M.fn (Fin P ι0 M.pre w0 (M.V r) (M.Po r)) Nx (M.code (M.hd x)).2) n := if_pos rfl
          have n2 : ∀ j, j ≠ M.hd x → Nx' j = Nx j := fun j hj => if_neg hj
          have hp : post P M.fn (Fin P ι0 M.pre w0 (M.V r) (M.Po r)) Nx' (M.code (M.hd x)).2 = post P M.fn (Fin P ι0 M.pre w0 (M.V r) (M.Po r)) Nx (M.code (M.hd x)).2 := Zgd fun j hj => n2 j fun e => by subst e; exact hK x hl hj
          have := go Nx' fun m z hm hz hlz hj gv a w hat => by
            by_cases hzx : M.hd z = M.hd x
            · rw [hzx, n1]
              have := ih m (by omega) z hz Nx (fun m' z' h1 h2 h3 h4 => hNx m' z' (by omega) h2 h3 (by rw [hzx] at h4; exact h4)) gv a w hat
              unfold Good at this
              rw [hlz] at this
              rw [hzx] at this
              exact Zqk m n (by omega) a w this
            · rw [n2 _ hzx]
              rcases List.mem_cons.1 hj with h | h
              · exact absurd h hzx
              · exact hNx m z (by omega) hz hlz h gv a w hat
          simp only [post, hp, n1] at this
          exact this
noncomputable def Enter (M : Mach) (P : Program) (ext : FuncId → Option Ext) (A : Array Value) (o : Option (M.X ⊕ M.R)) : Prop :=
  ∀ y, o = some y → ∃ cd cm fu orc st, ZdI P ext M.fn M.fn.ntmps cd fu cm (Zgn M.fn) [] (Zeb 0 A.toList .nil) ⟨ZdG 0 M.pre, M.pre.length, [], orc, []⟩ = some st ∧ (∀ p ∈ st.s.ob, p.1 = p.2) ∧ st.s.n ≤ 500000000 ∧ M.To [] st y
theorem spec (F : Fit P ext) (M : Mach) {f : FuncId} (hfn : P.funcs[f]? = some M.fn) (hb : M.fn.body = some (Zgn M.fn)) {A : Array Value} (hA : Nat.ble A.size M.fn.ntmps = true) (hH : ∀ x, (M.H x).length ≤ far) (hPo : ∀ r, (M.Po r).length ≤ far) (hK : ∀ x, M.isL (M.hd x) = true → M.hd x ∉ Za9 (M.code (M.hd x)).2)
    (ok : ∀ x, M.Ok P ext x (M.step x)) {o : Option (M.X ⊕ M.R)} (en : M.Enter P ext A o) {n : Nat} {r : M.R} (h : goM M.step n o = some r) : LSpec P f A M.pre (M.V r) (M.Po r) := by
  cases o with
  | none => cases h
  | some y =>
    obtain ⟨cd, cm, fu, orc, st, hev, ho, hn, hto⟩ := en y rfl
    refine ZvE F hfn hb hA hev ho (Nat.le_trans hn (by decide)) fun ι0 w0 hd ι' a' w' hS hD => ?_
    exact run1 M hH hPo r hd n (fun m _ => rounds F M hH hPo hK ok r hd m) (K0 := []) (fun m z _ _ _ hj => by cases hj) hto (by cases y <;> exact h) hS (fun k h1 h2 => by
      cases hik : ι' k with
      | none => rfl
      | some c =>
        rcases hD k (by rw [hik]; simp) with h | ⟨_, h⟩ | h
        · rcases hd k h with h | h
          · have : M.pre.length ≤ st.s.n := ((ZrH F (fn := M.fn) (nt := M.fn.ntmps) (cd := cd) fu).1 _ _ _ _ _ _ hev).n; omega
          · unfold ZbF at h; unfold far at h2; omega
        · omega
        · omega)
end
/-! ### How leaves are written -/
section
variable {P : Program} {ext : FuncId → Option Ext} {M : Mach} {x : M.X} {cd cm fu : Nat} {orc : Orc} {live : List Nat} {bl : List (Option AObj)} {ob : List (Bool × Bool)}
theorem ok_none : M.Ok P ext x none := fun _ h => by cases h
theorem ok_ite {c : Prop} [Decidable c] {A B : Option (M.X ⊕ M.R)} (h1 : c → M.Ok P ext x A) (h2 : ¬ c → M.Ok P ext x B) : M.Ok P ext x (if c then A else B) := by
  by_cases h : c
  · rw [if_pos h]; exact h1 h
  · rw [if_neg h]; exact h2 h
theorem ok_bind {α : Type} {o : Option α} {k : α → Option (M.X ⊕ M.R)} (h : ∀ r, o = some r → M.Ok P ext x (k r)) : M.Ok P ext x (o.bind k) := by
  cases o with
  | none => exact ok_none
  | some r => exact h r rfl
theorem Zyo {r : M.R} {u : Value} (hev : ∀ gv, Zkt live (M.Start x gv P ext cd cm fu orc) = some (u, bl, ob)) (ho : ∀ p ∈ ob, p.1 = p.2) (hl : live.length = (M.Po r).length) (hn : live.Nodup) (hk : Zcn M.pre.length live = true) (hv : M.V r = Zam (rho live far) 3 u ∧ ZY 3 u = true) (hbl : ZaQ (rho live far) bl (M.Po r)) : M.Ok P ext x (some (.inr r)) := by
  intro y hy gv
  obtain rfl := Option.some.inj hy
  obtain ⟨s, h1, rfl, rfl, h4⟩ := ZlQ (hev gv)
  exact ⟨cd, cm, fu, orc, _, h1, ho, h4, live, hl, hn, hk, hv, Zfo hbl⟩
theorem ZxI {y : M.X} {tv : (Nat → Value) → List (Option Value)} (hL : M.isL (M.hd y) = true) (hr : M.hd y ∈ Za9 (M.KK (M.hd x))) (hev : ∀ gv, Zhx (M.hd y) live ((M.L y).map (·.1)) (M.Start x gv P ext cd cm fu orc) = some (tv gv, bl, ob)) (ho : ∀ p ∈ ob, p.1 = p.2) (hl : live.length = (M.H y).length) (hn : live.Nodup) (hk : Zcn M.pre.length live = true) (ht : ∀ gv, Zen (rho live far) (tv gv) (M.L y)) (hbl : ZaQ (rho live far) bl (M.H y)) : M.Ok P ext x (some (.inl y)) := by
  intro y' hy gv
  obtain rfl := Option.some.inj hy
  obtain ⟨T, s, h1, h2, rfl, rfl, h4⟩ := Zll (hev gv)
  exact ⟨cd, cm, fu, orc, _, h1, ho, h4, rfl, hL, hr, live, M.H y, [], WkL.refl _, rfl, .inl rfl, hk, Zhy hl hn (h2 ▸ ht gv) hbl⟩
theorem ok_head {y : M.X} {tv : (Nat → Value) → List (Option Value)} {bK : Code × List Zbk} (hL : M.isL (M.hd y) = true) (hr : bK = M.code (M.hd y)) (hsub : ∀ j ∈ Za9 (M.code (M.hd y)).2, j ∈ Za9 (M.KK (M.hd x))) (hev : ∀ gv, Zjc live ((M.L y).map (·.1)) (M.Start x gv P ext cd cm fu orc) = some (bK, tv gv, bl, ob)) (ho : ∀ p ∈ ob, p.1 = p.2) (hl : live.length = (M.H y).length) (hn : live.Nodup) (hk : Zcn M.pre.length live = true) (ht : ∀ gv, Zen (rho live far) (tv gv) (M.L y)) (hbl : ZaQ (rho live far) bl (M.H y)) : M.Ok P ext x (some (.inl y)) := by
  intro y' hy gv
  obtain rfl := Option.some.inj hy
  obtain ⟨T, s, h1, h2, rfl, rfl, h4⟩ := Zii (hev gv)
  exact ⟨cd, cm, fu, orc, _, h1, ho, h4, hL, hr, by rw [hr]; exact hsub, live, M.H y, [], WkL.refl _, rfl, .inl rfl, hk, Zhy hl hn (h2 ▸ ht gv) hbl⟩
theorem ok_thr {r : M.R} {u : Value} (hev : ∀ gv, ZrI (M.Start x gv P ext cd cm fu orc) = some (u, ob)) (ho : ∀ p ∈ ob, p.1 = p.2) (hv : M.V r = u) (ht : ZbL u = true) (hp : M.Po r = M.pre.map fun _ => none) : M.Ok P ext x (some (.inr r)) := by
  intro y hy gv
  obtain rfl := Option.some.inj hy
  obtain ⟨s, h1, rfl, h4⟩ := ZsW (hev gv)
  exact ⟨cd, cm, fu, orc, _, h1, ho, h4, hv, ht, hp⟩
theorem ZwD {y : M.X} (H0 : List (Option AObj)) (js : List (Nat × TypeId)) (i : Nat) (hw : WkL (ZjD js H0) (M.H y)) (hp : ZrK live H0 js = true) (hi : isC (lkO H0 i) = true) {tv : (Nat → Value) → List (Option Value)} (hL : M.isL (M.hd y) = true) (hr : M.hd y ∈ Za9 (M.KK (M.hd x))) (hev : ∀ gv, Zhx (M.hd y) live ((M.L y).map (·.1)) (M.Start x gv P ext cd cm fu orc) = some (tv gv, bl, ob)) (ho : ∀ p ∈ ob, p.1 = p.2) (hl : live.length = H0.length) (hn : live.Nodup) (hk : Zcn M.pre.length live = true) (ht : ∀ gv, Zen (rho live far) (tv gv) (M.L y)) (hbl : ZaQ (rho live far) bl H0) : M.Ok P ext x (some (.inl y)) := by
  intro y' hy gv
  obtain rfl := Option.some.inj hy
  obtain ⟨T, s, h1, h2, rfl, rfl, h4⟩ := Zll (hev gv)
  exact ⟨cd, cm, fu, orc, _, h1, ho, h4, rfl, hL, hr, live, H0, js, hw, hp, .inr ⟨i, hi⟩, hk, Zhy hl hn (h2 ▸ ht gv) hbl⟩
variable {A : Array Value}
noncomputable def startE (M : Mach) (P : Program) (ext : FuncId → Option Ext) (A : Array Value) (cd cm fu : Nat) (orc : Orc) : Option StopC :=
  ZdI P ext M.fn M.fn.ntmps cd fu cm (Zgn M.fn) [] (Zeb 0 A.toList .nil) ⟨ZdG 0 M.pre, M.pre.length, [], orc, []⟩
theorem en_none : M.Enter P ext A none := fun _ h => by cases h
theorem en_ite {c : Prop} [Decidable c] {B C : Option (M.X ⊕ M.R)} (h1 : c → M.Enter P ext A B) (h2 : ¬ c → M.Enter P ext A C) : M.Enter P ext A (if c then B else C) := by
  by_cases h : c
  · rw [if_pos h]; exact h1 h
  · rw [if_neg h]; exact h2 h
theorem en_bind {α : Type} {o : Option α} {k : α → Option (M.X ⊕ M.R)} (h : ∀ r, o = some r → M.Enter P ext A (k r)) : M.Enter P ext A (o.bind k) := by
  cases o with
  | none => exact en_none
  | some r => exact h r rfl
theorem en_fin {r : M.R} {u : Value} (hev : Zkt live (M.startE P ext A cd cm fu orc) = some (u, bl, ob)) (ho : ∀ p ∈ ob, p.1 = p.2) (hl : live.length = (M.Po r).length) (hn : live.Nodup) (hk : Zcn M.pre.length live = true) (hv : M.V r = Zam (rho live far) 3 u ∧ ZY 3 u = true) (hbl : ZaQ (rho live far) bl (M.Po r)) : M.Enter P ext A (some (.inr r)) := by
  intro y hy
  obtain rfl := Option.some.inj hy
  obtain ⟨s, h1, rfl, rfl, h4⟩ := ZlQ hev
  exact ⟨cd, cm, fu, orc, _, h1, ho, h4, live, hl, hn, hk, hv, Zfo hbl⟩
theorem en_head {y : M.X} {tv : List (Option Value)} {bK : Code × List Zbk} (hL : M.isL (M.hd y) = true) (hr : bK = M.code (M.hd y)) (hsub : Za9 (M.code (M.hd y)).2 = []) (hev : Zjc live ((M.L y).map (·.1)) (M.startE P ext A cd cm fu orc) = some (bK, tv, bl, ob)) (ho : ∀ p ∈ ob, p.1 = p.2) (hl : live.length = (M.H y).length) (hn : live.Nodup) (hk : Zcn M.pre.length live = true) (ht : Zen (rho live far) tv (M.L y)) (hbl : ZaQ (rho live far) bl (M.H y)) : M.Enter P ext A (some (.inl y)) := by
  intro y' hy
  obtain rfl := Option.some.inj hy
  obtain ⟨T, s, h1, rfl, rfl, rfl, h4⟩ := Zii hev
  exact ⟨cd, cm, fu, orc, _, h1, ho, h4, hL, hr, (fun j hj => by rw [show bK.2 = (M.code (M.hd y)).2 from congrArg Prod.snd hr, hsub] at hj; cases hj), live, M.H y, [], WkL.refl _, rfl, .inl rfl, hk, Zhy hl hn ht hbl⟩
theorem en_cut {y : M.X} {tv : List (Option Value)} {bK : Code × List Zbk} (hL : M.isL (M.hd y) = false) (hr : bK = M.code (M.hd y)) (hsub : Za9 (M.code (M.hd y)).2 = []) (hev : ZrJ live ((M.L y).map (·.1)) (M.startE P ext A cd cm fu orc) = some (bK, tv, bl, ob)) (ho : ∀ p ∈ ob, p.1 = p.2) (hl : live.length = (M.H y).length) (hn : live.Nodup) (hk : Zcn M.pre.length live = true) (ht : Zen (rho live far) tv (M.L y)) (hbl : ZaQ (rho live far) bl (M.H y)) : M.Enter P ext A (some (.inl y)) := by
  intro y' hy
  obtain rfl := Option.some.inj hy
  obtain ⟨T, s, h1, rfl, rfl, rfl, h4⟩ := ZsX hev
  exact ⟨cd, cm, fu, orc, _, h1, ho, h4, hL, hr, (fun j hj => by rw [show bK.2 = (M.code (M.hd y)).2 from congrArg Prod.snd hr, hsub] at hj; cases hj), live, M.H y, [], WkL.refl _, rfl, .inl rfl, hk, Zhy hl hn ht hbl⟩
theorem en_headW {y : M.X} (H0 : List (Option AObj)) (js : List (Nat × TypeId)) (i : Nat) (hw : WkL (ZjD js H0) (M.H y)) (hp : ZrK live H0 js = true) (hi : isC (lkO H0 i) = true) {tv : List (Option Value)} {bK : Code × List Zbk} (hL : M.isL (M.hd y) = true) (hr : bK = M.code (M.hd y)) (hsub : Za9 (M.code (M.hd y)).2 = []) (hev : Zjc live ((M.L y).map (·.1)) (M.startE P ext A cd cm fu orc) = some (bK, tv, bl, ob)) (ho : ∀ p ∈ ob, p.1 = p.2) (hl : live.length = H0.length) (hn : live.Nodup) (hk : Zcn M.pre.length live = true) (ht : Zen (rho live far) tv (M.L y)) (hbl : ZaQ (rho live far) bl H0) : M.Enter P ext A (some (.inl y)) := by
  intro y' hy
  obtain rfl := Option.some.inj hy
  obtain ⟨T, s, h1, rfl, rfl, rfl, h4⟩ := Zii hev
  exact ⟨cd, cm, fu, orc, _, h1, ho, h4, hL, hr, (fun j hj => by rw [show bK.2 = (M.code (M.hd y)).2 from congrArg Prod.snd hr, hsub] at hj; cases hj), live, H0, js, hw, hp, .inr ⟨i, hi⟩, hk, Zhy hl hn ht hbl⟩
end
end Mach
/-! ### Functions without loops -/
section
variable {P : Program} {ext : FuncId → Option Ext} {fn : Func} {pre : List AObj} {A : Array Value} {R : Type} {V : R → Value} {Po : R → List (Option AObj)} {live : List Nat} {bl : List (Option AObj)} {ob : List (Bool × Bool)} {fu : Nat} {orc : Orc}
noncomputable def ZrM (P : Program) (ext : FuncId → Option Ext) (fn : Func) (pre : List AObj) (A : Array Value) (fu : Nat) (orc : Orc) : Option Stop :=
  Zgt P ext fn fn.ntmps fu (Zgn fn) [] (Zeb 0 A.toList .nil) ⟨ZdG 0 pre, pre.length, [], orc, []⟩
noncomputable def Fx (P : Program) (ext : FuncId → Option Ext) (fn : Func) (pre : List AObj) (A : Array Value) {R : Type} (V : R → Value) (Po : R → List (Option AObj)) (o : Option R) : Prop :=
  ∀ r, o = some r → ∃ fu orc u s, ZrM P ext fn pre A fu orc = some (.fin u s) ∧ (∀ p ∈ s.ob, p.1 = p.2) ∧ s.n ≤ far ∧ ∃ live, Zoc pre.length (V r) (Po r) u s live
theorem ZxJ : Fx P ext fn pre A V Po none := fun _ h => by cases h
theorem Zbm {c : Prop} [Decidable c] {B C : Option R} (h1 : c → Fx P ext fn pre A V Po B) (h2 : ¬ c → Fx P ext fn pre A V Po C) : Fx P ext fn pre A V Po (if c then B else C) := by
  by_cases h : c
  · rw [if_pos h]; exact h1 h
  · rw [if_neg h]; exact h2 h
theorem ZxK {α : Type} {o : Option α} {k : α → Option R} (h : ∀ r, o = some r → Fx P ext fn pre A V Po (k r)) : Fx P ext fn pre A V Po (o.bind k) := by
  cases o with
  | none => exact ZxJ
  | some r => exact h r rfl
theorem ZvF {r : R} {u : Value} (hev : Zan live (ZrM P ext fn pre A fu orc) = some (u, bl, ob)) (ho : ∀ p ∈ ob, p.1 = p.2) (hl : live.length = (Po r).length) (hn : live.Nodup) (hk : Zcn pre.length live = true) (hv : V r = Zam (rho live far) 3 u ∧ ZY 3 u = true) (hbl : ZaQ (rho live far) bl (Po r)) : Fx P ext fn pre A V Po (some r) := by
  intro r' hr
  obtain rfl := Option.some.inj hr
  obtain ⟨s, h1, rfl, rfl, h4⟩ := Zna hev
  exact ⟨fu, orc, u, s, h1, ho, h4, live, hl, hn, hk, hv, Zfo hbl⟩
theorem Zm1 (F : Fit P ext) {f : FuncId} (hfn : P.funcs[f]? = some fn) (hb : fn.body = some (Zgn fn)) (hA : Nat.ble A.size fn.ntmps = true) (hPo : ∀ r, (Po r).length ≤ far) {o : Option R} (h : Fx P ext fn pre A V Po o) {r : R} (hr : o = some r) : LSpec P f A pre (V r) (Po r) := by
  obtain ⟨fu, orc, u, s, h1, h2, h3, live, h4⟩ := h r hr
  exact Zv0 F hfn hb hA h1 h2 h3 (hPo r) live h4
end
theorem Zae {P : Program} {f : FuncId} {A A' : Array Value} {pre : List (Nat × AObj)} {v : Value} {post : List (Nat × Option AObj)} {n dn : Nat} (e : A = A') (h : Z3 P f A' pre v post n dn) : Z3 P f A pre v post n dn := e ▸ h
def Zaa (a b : List Int) : Bool := Zb a == Zb b
end Ev
end Go.Proofs.YtlbbiflodemagaaDoor
/- Rows of elements of any kind: each element so many cells. -/
namespace Go.Proofs.YtlbbiflodemagaaDoor
open Go.RowKit
namespace Ev
def Zi3 : List Cell → Bool
 | [] => true
 | .any :: _ => false
 | .i _ :: l => Zi3 l
 | .b _ :: l => Zi3 l
 | .k _ _ :: l => Zi3 l
 | .s _ :: l => Zi3 l
 | .m _ _ _ _ :: l => Zi3 l
structure Enc (α : Type) where
 cel : α → List Cell
 w : Nat
 dflt : α
 clen : ∀ a, (cel a).length = w
 sure : ∀ a, Zi3 (cel a) = true
def Enc.enc {α : Type} (E : Enc α) (a : α) : List Value := Zu (E.cel a)
theorem Enc.len {α : Type} (E : Enc α) (a : α) : (E.enc a).length = E.w := by unfold Enc.enc Zu; rw [List.length_map, E.clen]
def Zed : Value → Bool
 | .pointer (some ⟨_, _, some _⟩) => true
 | .slice (some ⟨_, _, some _⟩) _ _ => true
 | v => atom v
theorem Zop : ∀ l : List Cell, Zi3 l = true → Zw Zed (Zu l) = true
 | [], _ => rfl
 | c :: l, h => by
  show (Zed (Zdl c) && Zw Zed (Zu l)) = true
  cases c with
  | any => cases h
  | _ => rw [Zop l h]; rfl
theorem Enc.atoms {α : Type} (E : Enc α) (a : α) : Zw Zed (E.enc a) = true := Zop _ (E.sure a)
def Zg {α : Type} (E : Enc α) (L : List α) : List Value := L.flatMap E.enc
def ZaA {α : Type} (E : Enc α) (L : List α) : List Cell := L.flatMap E.cel
section
variable {α : Type} {E : Enc α}
theorem ZkV : Zg E [] = [] := rfl
theorem ZdJ (x : α) (L : List α) : Zg E (x :: L) = E.enc x ++ Zg E L := rfl
theorem Zn1 (L M : List α) : Zg E (L ++ M) = Zg E L ++ Zg E M := by simp [Zg]
theorem Zhz : ∀ L : List α, (Zg E L).length = L.length * E.w
 | [] => by simp [ZkV]
 | x :: L => by rw [ZdJ, List.length_append, Zhz L, E.len, List.length_cons, Nat.add_mul, Nat.one_mul, Nat.add_comm]
theorem ZlT : ∀ (i : Nat) (L : List α), (Zg E L).drop (i * E.w) = Zg E (L.drop i)
 | 0, L => by simp
 | i + 1, [] => by simp [ZkV]
 | i + 1, x :: L => by
  rw [ZdJ, List.drop_succ_cons, ← ZlT i L, Nat.add_mul, Nat.one_mul, Nat.add_comm, ← List.drop_drop, ← E.len x, List.drop_left]
theorem ZlU : ∀ (i : Nat) (L : List α), (Zg E L).take (i * E.w) = Zg E (L.take i)
 | 0, L => by simp [ZkV]
 | i + 1, [] => by simp [ZkV]
 | i + 1, x :: L => by
  rw [ZdJ, List.take_succ_cons, ZdJ, ← ZlU i L, Nat.add_mul, Nat.one_mul, Nat.add_comm, List.take_append, E.len]
  rw [List.take_of_length_le (by rw [E.len]; omega), Nat.add_sub_cancel_left]
theorem ZlV {L : List α} {i : Nat} (h : i < L.length) (d : α) : L.drop i = L.getD i d :: L.drop (i + 1) := by
 rw [List.getD_eq_getElem?_getD, List.getElem?_eq_getElem h, Option.getD_some]
 exact List.drop_eq_getElem_cons h
theorem Zpb {L : List α} {o i q : Nat} (hi : i < L.length) (ho : o = i * E.w + q) (hq : q ≤ E.w) : (Zg E L).drop o = (E.enc (L.getD i E.dflt)).drop q ++ Zg E (L.drop (i + 1)) := by
 subst ho
 rw [← List.drop_drop, ZlT, ZlV hi E.dflt, ZdJ, List.drop_append, E.len, Nat.sub_eq_zero_of_le hq, List.drop_zero]
theorem Zh0 {β : Type} : ∀ (m : Nat) (l : List β), m ≤ l.length → Z8 m l = some (l.take m)
 | 0, l, _ => by simp [Z8]
 | m + 1, [], h => by simp at h
 | m + 1, x :: l, h => by
  simp only [Z8]
  rw [Zh0 m l (by simpa using h)]
  rfl
theorem ZwE {L : List α} {o i q m : Nat} (hi : i < L.length) (ho : o = i * E.w + q) (hq : q + m ≤ E.w) : Z8 m ((Zg E L).drop o) = some (((E.enc (L.getD i E.dflt)).drop q).take m) := by
 have hl := E.len (L.getD i E.dflt)
 rw [Zpb hi ho (by omega), Zh0 _ _ (by simp only [List.length_append, List.length_drop, hl]; omega), List.take_append]
 have : m - ((E.enc (L.getD i E.dflt)).drop q).length = 0 := by simp only [List.length_drop, hl]; omega
 rw [this, List.take_zero, List.append_nil]
theorem ZdU : ∀ {cs : List Cell}, Zi3 cs = true → ZcG (Zu cs) cs = true
 | [], _ => rfl
 | c :: l, h => by
  cases c with
  | any => cases h
  | i n => show ((n == n) && ZcG (Zu l) l) = true; rw [ZdU (cs := l) h]; simp
  | b q => show ((q == q) && ZcG (Zu l) l) = true; rw [ZdU (cs := l) h]; simp
  | s x => show (dP (x = x) && ZcG (Zu l) l) = true; rw [ZdU (cs := l) h]; simp [dP]
  | m id o n c =>
   show (dP (Zdl (.m id o n c) = Zdl (.m id o n c)) && ZcG (Zu l) l) = true
   rw [ZdU (cs := l) h, Zj rfl]; rfl
  | k kk n =>
   by_cases hk : kk = .i64
   ·subst hk; show ((decide (IntKind.i64 = IntKind.i64) && (n == n)) && ZcG (Zu l) l) = true; rw [ZdU (cs := l) h]; simp
   ·have e : ZcG (.int kk n :: Zu l) (.k kk n :: l) = ((decide (kk = kk) && (n == n)) && ZcG (Zu l) l) := by cases kk <;> rfl
    show ZcG (.int kk n :: Zu l) (.k kk n :: l) = true
    rw [e, ZdU (cs := l) h]; simp
theorem Zb1 {L : List α} {o i q m : Nat} {cs : List Cell} (hi : i < L.length) (ho : o = i * E.w + q) (hq : q + m ≤ E.w) (hs : Zi3 cs = true) (hc : ((E.enc (L.getD i E.dflt)).drop q).take m = Zu cs) : ZbK (Z8 m ((Zg E L).drop o)) cs = true := by
 rw [ZwE hi ho hq, hc]
 exact ZdU hs
theorem Zfp {L : List α} {o i q : Nat} {l : List Value} (x : α) (hi : i < L.length) (ho : o = i * E.w + q) (hq : q + l.length ≤ E.w) (hx : Zd6 (E.enc (L.getD i E.dflt)) q l = E.enc x) : o + l.length ≤ (Zg E L).length ∧ Zd6 (Zg E L) o l = Zg E (L.set i x) := by
 have hl := E.len (L.getD i E.dflt)
 have hle : o + l.length ≤ (Zg E L).length := by
  have : (i + 1) * E.w ≤ L.length * E.w := Nat.mul_le_mul_right _ hi
  rw [Nat.add_mul, Nat.one_mul] at this
  rw [Zhz]; omega
 refine ⟨hle, ?_⟩
 have e1 : L.set i x = L.take i ++ x :: L.drop (i + 1) := by rw [List.set_eq_take_append_cons_drop, if_pos hi]
 rw [e1, Zn1, ZdJ, ← hx]
 unfold Zd6
 have h1 : (Zg E L).take o = Zg E (L.take i) ++ (E.enc (L.getD i E.dflt)).take q := by
  have hd : Zg E L = Zg E (L.take i) ++ (E.enc (L.getD i E.dflt) ++ Zg E (L.drop (i + 1))) := by
   rw [← ZdJ, ← ZlV hi, ← Zn1, List.take_append_drop]
  rw [hd, List.take_append]
  have hlen : (Zg E (L.take i)).length = i * E.w := by rw [Zhz, List.length_take]; rw [Nat.min_eq_left (by omega)]
  rw [List.take_of_length_le (by omega), hlen, show o - i * E.w = q by omega, List.take_append]
  rw [show q - (E.enc (L.getD i E.dflt)).length = 0 by omega, List.take_zero, List.append_nil]
 have h2 : (Zg E L).drop (o + l.length) = (E.enc (L.getD i E.dflt)).drop (q + l.length) ++ Zg E (L.drop (i + 1)) := Zpb hi (by omega) hq
 rw [h1, h2]
 simp
theorem ZwF {L R : List α} {o a n m : Nat} (ha : a + n ≤ L.length) (ho : o = a * E.w) (hm : m = n * E.w) (hR : (L.drop a).take n = R) : Z8 m ((Zg E L).drop o) = some (Zg E R) := by
 subst ho hm hR
 rw [ZlT, Zh0, ZlU]
 rw [Zhz, List.length_drop]
 exact Nat.mul_le_mul_right _ (by omega)
theorem Zat {L M R : List α} {n m : Nat} (hm : m = n * E.w) (hn : n ≤ L.length) (hR : L.take n ++ M = R) : m ≤ (Zg E L).length ∧ (Zg E L).take m ++ Zg E M = Zg E R := by
 subst hm hR
 refine ⟨by rw [Zhz]; exact Nat.mul_le_mul_right _ hn, ?_⟩
 rw [ZlU, Zn1]
theorem ZvG {L : List α} (j : Nat) (hw : 0 < E.w) : (Zg E L)[j]? = if h : j / E.w < L.length then (E.enc (L[j / E.w]'h))[j % E.w]? else none := by
 by_cases h : j / E.w < L.length
 ·rw [dif_pos h]
  have hj : j = (j / E.w) * E.w + j % E.w := by rw [Nat.mul_comm]; exact (Nat.div_add_mod j E.w).symm
  have hr : j % E.w < E.w := Nat.mod_lt _ hw
  have := Zpb (E := E) h hj (Nat.le_of_lt hr)
  have h0 : ((Zg E L).drop j)[0]? = (Zg E L)[j]? := by rw [List.getElem?_drop]; rfl
  rw [← h0, this, List.getElem?_append_left (by rw [List.length_drop, E.len]; omega), List.getElem?_drop, Nat.add_zero]
  rw [List.getD_eq_getElem?_getD, List.getElem?_eq_getElem h, Option.getD_some]
 ·rw [dif_neg h, List.getElem?_eq_none]
  rw [Zhz]
  have : L.length ≤ j / E.w := by omega
  exact (Nat.le_div_iff_mul_le hw).1 this
theorem ZwG {z : List Value} (x : α) (n : Nat) (hw : 0 < E.w) (hz : E.enc x = z) {m : Nat} (hm : m = n * E.w) : rep z m = Zg E (List.replicate n x) := by
 subst hz hm
 apply List.ext_getElem?
 intro j
 rw [ZvG j hw]
 have hl := E.len x
 by_cases h : j < n * E.w
 ·have h' : j / E.w < n := (Nat.div_lt_iff_lt_mul hw).2 h
  rw [dif_pos (by simpa using h')]
  have : (rep (E.enc x) (n * E.w))[j]? = some ((E.enc x).getD (j % (E.enc x).length) undef) := by simp [rep, h]
  rw [this, List.getElem_replicate, hl, List.getD_eq_getElem?_getD]
  have hr : j % E.w < (E.enc x).length := by rw [hl]; exact Nat.mod_lt _ hw
  rw [List.getElem?_eq_getElem hr, Option.getD_some]
 ·rw [dif_neg (by simp; exact (Nat.le_div_iff_mul_le hw).2 (by omega)), List.getElem?_eq_none]
  simp [rep]; omega
/-! ### The same, as told cells -/
theorem ZkW : ZaA E [] = [] := rfl
theorem ZhR (x : α) (L : List α) : ZaA E (x :: L) = E.cel x ++ ZaA E L := rfl
theorem Zjd : ∀ L : List α, (ZaA E L).length = L.length * E.w
 | [] => by simp [ZkW]
 | x :: L => by rw [ZhR, List.length_append, Zjd L, E.clen, List.length_cons, Nat.add_mul, Nat.one_mul, Nat.add_comm]
theorem ZlW : ∀ (i : Nat) (L : List α), (ZaA E L).drop (i * E.w) = ZaA E (L.drop i)
 | 0, L => by simp
 | i + 1, [] => by simp [ZkW]
 | i + 1, x :: L => by
  rw [ZhR, List.drop_succ_cons, ← ZlW i L, Nat.add_mul, Nat.one_mul, Nat.add_comm, ← List.drop_drop, ← E.clen x, List.drop_left]
theorem Zqm : ∀ (i : Nat) (L : List α), (ZaA E L).take (i * E.w) = ZaA E (L.take i)
 | 0, L => by simp [ZkW]
 | i + 1, [] => by simp [ZkW]
 | i + 1, x :: L => by
  rw [ZhR, List.take_succ_cons, ZhR, ← Zqm i L, Nat.add_mul, Nat.one_mul, Nat.add_comm, List.take_append, E.clen]
  rw [List.take_of_length_le (by rw [E.clen]; omega), Nat.add_sub_cancel_left]
theorem Zt7 {L : List α} {o i q : Nat} (hi : i < L.length) (ho : o = i * E.w + q) (hq : q ≤ E.w) : (ZaA E L).drop o = (E.cel (L.getD i E.dflt)).drop q ++ ZaA E (L.drop (i + 1)) := by
 subst ho
 rw [← List.drop_drop, ZlW, ZlV hi E.dflt, ZhR, List.drop_append, E.clen, Nat.sub_eq_zero_of_le hq, List.drop_zero]
theorem ZwH {L : List α} {o i q m : Nat} (hi : i < L.length) (ho : o = i * E.w + q) (hq : q + m ≤ E.w) : Z8 m ((ZaA E L).drop o) = some (((E.cel (L.getD i E.dflt)).drop q).take m) := by
 have hl := E.clen (L.getD i E.dflt)
 rw [Zt7 hi ho (by omega), Zh0 _ _ (by simp only [List.length_append, List.length_drop, hl]; omega), List.take_append]
 have : m - ((E.cel (L.getD i E.dflt)).drop q).length = 0 := by simp only [List.length_drop, hl]; omega
 rw [this, List.take_zero, List.append_nil]
theorem ZwI {L R : List α} {o a n m : Nat} (ha : a + n ≤ L.length) (ho : o = a * E.w) (hm : m = n * E.w) (hR : (L.drop a).take n = R) : Z8 m ((ZaA E L).drop o) = some (ZaA E R) := by
 subst ho hm hR
 rw [ZlW, Zh0, Zqm]
 rw [Zjd, List.length_drop]
 exact Nat.mul_le_mul_right _ (by omega)
theorem ZvH {L : List α} (j : Nat) (hw : 0 < E.w) : (ZaA E L)[j]? = if h : j / E.w < L.length then (E.cel (L[j / E.w]'h))[j % E.w]? else none := by
 by_cases h : j / E.w < L.length
 ·rw [dif_pos h]
  have hj : j = (j / E.w) * E.w + j % E.w := by rw [Nat.mul_comm]; exact (Nat.div_add_mod j E.w).symm
  have hr : j % E.w < E.w := Nat.mod_lt _ hw
  have := Zt7 (E := E) h hj (Nat.le_of_lt hr)
  have h0 : ((ZaA E L).drop j)[0]? = (ZaA E L)[j]? := by rw [List.getElem?_drop]; rfl
  rw [← h0, this, List.getElem?_append_left (by rw [List.length_drop, E.clen]; omega), List.getElem?_drop, Nat.add_zero]
  rw [List.getD_eq_getElem?_getD, List.getElem?_eq_getElem h, Option.getD_some]
 ·rw [dif_neg h, List.getElem?_eq_none]
  rw [Zjd]
  have : L.length ≤ j / E.w := by omega
  exact (Nat.le_div_iff_mul_le hw).1 this
/-! ### Such a row is a row of atoms -/
theorem ZjE : ∀ L : List α, Zw Zed (Zg E L) = true
 | [] => rfl
 | x :: L => by
  have app : ∀ (a b : List Value), Zw Zed a = true → Zw Zed b = true → Zw Zed (a ++ b) = true := by
   intro a b ha hb
   induction a with
   | nil => exact hb
   | cons y a ih =>
    simp only [Zw, Bool.and_eq_true] at ha
    show (Zed y && Zw Zed (a ++ b)) = true
    rw [ha.1, ih ha.2]; rfl
  rw [ZdJ]
  exact app _ _ (E.atoms x) (ZjE L)
theorem Zn2 {p q : Value → Bool} (h : ∀ v, p v = true → q v = true) : ∀ {l : List Value}, Zw p l = true → Zw q l = true
 | [], _ => rfl
 | x :: l, hl => by
  simp only [Zw, Bool.and_eq_true] at hl ⊢
  exact ⟨h x hl.1, Zn2 h hl.2⟩
theorem ZjP {v : Value} (h : Zed v = true) : (∃ k o z, v = .pointer (some ⟨k, o, some z⟩)) ∨ (∃ k o z n c, v = .slice (some ⟨k, o, some z⟩) n c) ∨ atom v = true := by
 unfold Zed at h
 split at h
 ·exact .inl ⟨_, _, _, rfl⟩
 ·exact .inr (.inl ⟨_, _, _, _, _, rfl⟩)
 ·exact .inr (.inr h)
theorem ZrN (d : Nat) {v : Value} (h : Zed v = true) : ZY d v = true := by
 rcases ZjP h with ⟨k, o, z, rfl⟩ | ⟨k, o, z, n, c, rfl⟩ | h
 ·cases d <;> rfl
 ·cases d <;> rfl
 ·cases v with
  | agg => simp [atom] at h
  | tuple => simp [atom] at h
  | func f a b =>
   cases f with
   | func f =>
    simp only [atom, Bool.and_eq_true, Array.isEmpty_iff] at h
    obtain ⟨rfl, rfl⟩ := h
    cases d <;> rfl
   | _ => simp [atom] at h
  | _ => cases d <;> rfl
theorem Zu8 (m d : Nat) {v : Value} (h : Zed v = true) : ZaM m d v = true := by
 rcases ZjP h with ⟨k, o, z, rfl⟩ | ⟨k, o, z, n, c, rfl⟩ | h
 ·cases d <;> rfl
 ·cases d <;> rfl
 ·cases v with
  | agg => simp [atom] at h
  | tuple => simp [atom] at h
  | pointer a => cases a with
   | none => cases d <;> exact h
   | some a => simp [atom] at h
  | slice a n c => cases a with
   | none => cases d <;> exact h
   | some a => simp [atom] at h
  | map a => cases a with
   | none => cases d <;> exact h
   | some a => simp [atom] at h
  | _ => cases d <;> exact h
theorem Zu9 {ρ : Nat → Nat} (d : Nat) {v : Value} (h : Zed v = true) : Zam ρ d v = v := by
 rcases ZjP h with ⟨k, o, z, rfl⟩ | ⟨k, o, z, n, c, rfl⟩ | h
 ·cases d <;> rfl
 ·cases d <;> rfl
 ·exact ZhK d h
theorem Zm2 (ρ : Nat → Nat) (d : Nat) (L : List α) : (Zg E L).map (Zam ρ d) = Zg E L := by
 have : ∀ l : List Value, Zw Zed l = true → l.map (Zam ρ d) = l := fun l => by
  induction l with
  | nil => intro _; rfl
  | cons y l ih =>
   intro h
   simp only [Zw, Bool.and_eq_true] at h
   rw [List.map_cons, ih h.2, Zu9 d h.1]
 exact this _ (ZjE L)
theorem Znb (d : Nat) (L : List α) : Zw (ZY d) (Zg E L) = true := Zn2 (fun _ => ZrN d) (ZjE L)
theorem Zqn (m d : Nat) (L : List α) : Zw (ZaM m d) (Zg E L) = true := Zn2 (fun _ => Zu8 m d) (ZjE L)
theorem Zx (ρ : Nat → Nat) (L : List α) (t : TypeId) : Zhw ρ (.cells (Zg E L) t) (.cells (Zg E L) t) := ⟨rfl, ⟨[], by rw [Zm2, List.append_nil]⟩, Znb 1 L⟩
theorem ZrO (ρ : Nat → Nat) (L : List α) (t : TypeId) : AObj.cells (Zg E L) t = Zih ρ (.cells (Zg E L) t) := by
 show _ = AObj.cells ((Zg E L).map (Zam ρ 1)) t
 rw [Zm2]
end
theorem Zyp {b : Bool} (h : ¬ (b = true)) : (!b) = true := by cases b <;> simp_all
theorem Zyq {b : Bool} (h : b = true) : (!b) = false := by subst h; rfl
def Zau (k : IntKind) : Enc Int := ⟨fun n => match k with | .i64 => [.i n] | k => [.k k n], 1, 0, fun _ => by cases k <;> rfl, fun _ => by cases k <;> rfl⟩
abbrev eI : Enc Int := Zau .i64
abbrev vi (x : Int) : Value := .int .i64 x
abbrev vs (k o n c : Nat) : Value := .slice (some ⟨k, o, none⟩) n c
abbrev vp (k o : Nat) : Value := .pointer (some ⟨k, o, none⟩)
theorem bT {a b : Int} (h : a = b) : (a == b) = true := beq_iff_eq.2 h
theorem bF {a b : Int} (h : ¬ a = b) : (a == b) = false := beq_eq_false_iff_ne.2 h
/-! ### Rows that never change -/
noncomputable def mc {α : Type} (E : Enc α) (L : List α) : Cell := .m (code (ZaA E L)) 0 L.length L.length
noncomputable abbrev ms {α : Type} (E : Enc α) (L : List α) : Value := .slice (some ⟨code (ZaA E L), 0, some 0⟩) L.length L.length
noncomputable abbrev mp {α : Type} (E : Enc α) (L : List α) (o : Nat) : Value := .pointer (some ⟨code (ZaA E L), o, some 0⟩)
theorem Zgu {α : Type} {E : Enc α} {L : List α} {o i q m : Nat} {cs : List Cell} (hi : i < L.length) (ho : o = i * E.w + q) (hq : q + m ≤ E.w) (hc : ((E.cel (L.getD i E.dflt)).drop q).take m = cs) : ZaO (code (ZaA E L)) o m = some cs := by
 unfold ZaO
 rw [Zc1]
 show Z8 m ((ZaA E L).drop o) = some cs
 rw [ZwH hi ho hq, hc]
theorem ZwJ {α : Type} {E : Enc α} {L R : List α} {o a n m : Nat} (ha : a + n ≤ L.length) (ho : o = a * E.w) (hm : m = n * E.w) (hR : (L.drop a).take n = R) : ZaO (code (ZaA E L)) o m = some (ZaA E R) := by
 unfold ZaO
 rw [Zc1]
 exact ZwI ha ho hm hR
theorem ZuA {α : Type} {E : Enc α} (L : List α) : Zg E L = Zu (ZaA E L) := by
 unfold Zg ZaA Zu Enc.enc Zu
 rw [List.map_flatMap]
theorem ms_ob {α : Type} {E : Enc α} {L R : List α} {l h size : Nat} (h1 : l ≤ h) (h2 : h ≤ L.length) (hs : size = E.w) (hR : R = (L.drop l).take (h - l)) :
  l ≤ h ∧ h ≤ L.length ∧ ZaO (code (ZaA E L)) (0 + l * size) (ZaA E R).length = some (ZaA E R) ∧ (h - l) * size = (ZaA E R).length ∧ R.length = h - l := by
 have hl : R.length = h - l := by rw [hR, List.length_take, List.length_drop]; omega
 have hc : (ZaA E R).length = (h - l) * size := by rw [Zjd, hl, hs]
 refine ⟨h1, h2, ?_, hc.symm, hl⟩
 rw [hc]
 exact ZwJ (a := l) (n := h - l) (by omega) (by rw [hs]; omega) (by rw [hs]) hR.symm
/-! ### Bytes as strings -/
theorem Zt8 : ∀ L : List Int, Zg (Zau .u8) L = L.map (Value.int .u8)
 | [] => rfl
 | x :: L => by rw [ZdJ, Zt8 L]; rfl
theorem Zyr {L R : List Int} {o a n : Nat} (ha : a + n ≤ L.length) (ho : o = a * 1) (hR : (L.drop a).take n = R) : Z8 n ((Zg (Zau .u8) L).drop o) = some (R.map (Value.int .u8)) := by
 rw [← Zt8]
 exact ZwF (E := Zau .u8) ha ho (show n = n * 1 from (Nat.mul_one n).symm) hR
end Ev
end Go.Proofs.YtlbbiflodemagaaDoor
/- Arguments that are slices, opened: the block they lie in, and each element as what is read of it. -/
namespace Go.Proofs.YtlbbiflodemagaaDoor
open Go.ChangeShapes Go.WideShapes Go.ChangeAt Go.RowKit Go.Deep
namespace Ev
section
variable {H : Type} {enc : TypeId × Value → H} {P : Program} {w : World}
def Trd (enc : TypeId × Value → H) (P : Program) (w : World) (t : TypeId) (cs : List Value) : Prop := ∃ n y, DataW.trod enc P w 0 (fun _ => true) true n t cs = some y
def Elems (enc : TypeId × Value → H) (P : Program) (w : World) (e : TypeId) (O : Obj) (o cap : Nat) : Prop :=
 ∀ i, i < cap → ∃ C t fr cs, O = .cells C t fr ∧ cs.length = P.cellsOf e ∧ (∀ j, j < P.cellsOf e → C[o + (i * P.cellsOf e + j)]? = cs[j]?) ∧ Trd enc P w e cs
theorem ZvI {t : TypeId} {fs : Array Field} {cs : List Value} (ht : P.underlying t = some (.struct fs)) (h : Trd enc P w t cs) (i : Nat) {f : Field} (hf : fs[i]? = some f) : Trd enc P w f.type ((cs.drop f.offset).take (P.cellsOf f.type)) := by
 obtain ⟨n, y, h⟩ := h
 obtain ⟨xs, n', _, _, _, hxl, hfl⟩ := DataW.trod_struct ht h
 have hi : i < fs.size := (Array.getElem?_eq_some_iff.1 hf).1
 have := hfl i f hf
 rw [List.getElem?_eq_getElem (show i < xs.length by omega)] at this
 exact ⟨n', _, this⟩
theorem ZxL {t : TypeId} {k : IntKind} {cs : List Value} (ht : P.underlying t = some (.int k)) (h : Trd enc P w t cs) : ∃ z, cs = [.int k z] ∧ k.min ≤ z ∧ z ≤ k.max := by
 obtain ⟨n, y, h⟩ := h
 obtain ⟨z, e0, _, wx⟩ := DataW.trod_int ht h
 simp only [Lit.wf, Bool.and_eq_true, decide_eq_true_eq] at wx
 exact ⟨z, e0, wx.1, wx.2⟩
theorem ZvJ {t e : TypeId} {cs : List Value} (ht : P.underlying t = some (.slice e)) (hpos : 0 < P.cellsOf e) (h : Trd enc P w t cs) :
  (∃ a, cs = [.slice a 0 0]) ∨ ∃ (b o len cap : Nat) (O : Obj), cs = [.slice (some ⟨b, o, none⟩) len cap] ∧ 0 < cap ∧ len ≤ cap ∧ cap ≤ 9223372036854775807 ∧ w.heap[b]? = some O ∧ Elems enc P w e O o cap := by
 obtain ⟨n0, y, h⟩ := h
 rcases open_slice ht h with ⟨hcs, _⟩ | ⟨a, len, cap, m, n, D, Pl, hcs, hb, hl, hm, hmm, hx, hi⟩
 ·exact .inl ⟨_, hcs⟩
 ·simp only [if_true] at hmm
  subst hmm
  rcases Nat.eq_zero_or_pos m with h0 | h0
  ·subst h0
   obtain rfl : len = 0 := by omega
   exact .inl ⟨_, hcs⟩
  ·right
   obtain ⟨cs0, hc0, _⟩ := hi 0 h0
   obtain ⟨_, hcl0, hat0⟩ := World.cells?_some hc0
   have h1 := hat0 0 hpos
   rw [Nat.zero_mul] at h1
   have ha0 : (a.add 0).add 0 = a := by simp [Addr.add]
   rw [ha0] at h1
   have h2 : w.cell? a = some (cs0[0]'(by omega)) := h1.trans (List.getElem?_eq_getElem (by omega))
   obtain ⟨b, o, spot⟩ := a
   have hspot : spot = none := by
    unfold World.cell? at h2
    split at h2
    ·cases spot with
     | none => rfl
     | some z => simp at h2
    ·cases h2
   subst hspot
   obtain ⟨C, el, fr, hB, _⟩ := Zlk h2
   refine ⟨b, o, len, m, _, hcs, h0, hl, by unfold maxLen at hm; omega, hB, fun i hi' => ?_⟩
   obtain ⟨cs', hc, ht'⟩ := hi i hi'
   obtain ⟨_, hcl, hat⟩ := World.cells?_some hc
   refine ⟨C, el, fr, cs', rfl, hcl, fun j hj => ?_, n, _, ht'⟩
   have h1 := hat j hj
   rw [Go.Deep.add_add] at h1
   have h2 : w.cell? ⟨b, o + (i * P.cellsOf e + j), none⟩ = some (cs'[j]'(by omega)) := by
    have : (⟨b, o, none⟩ : Addr).add (i * P.cellsOf e + j) = ⟨b, o + (i * P.cellsOf e + j), none⟩ := Go.WideShapes.add_plain b o _
    rw [← this, h1]
    exact List.getElem?_eq_getElem (by omega)
   obtain ⟨C', t', fr', hB', hv'⟩ := Zlk h2
   rw [hB] at hB'
   injection hB' with hB'
   injection hB' with e1 e2 e3
   subst e1
   rw [hv']
   exact (List.getElem?_eq_getElem (by omega)).symm
def DecL (w : World) (cs : List Value) (l : List Cell) : Prop := cs.length = l.length ∧ ∀ (i : Nat) x y, l[i]? = some x → cs[i]? = some y → DecC w x y
theorem ZxM {w : World} {cs : List Value} {l : List Cell} (hl : cs.length = l.length) (h : ∀ (i : Nat) x, l[i]? = some x → ∃ y, cs[i]? = some y ∧ DecC w x y) : DecL w cs l :=
 ⟨hl, fun i x y hx hy => by
  obtain ⟨y', h1, h2⟩ := h i x hx
  rw [hy] at h1
  injection h1 with h1
  subst h1
  exact h2⟩
theorem Zys {w : World} {cs : List Value} {k : Nat} : ∀ (j : Nat) x, ([] : List Cell)[j]? = some x → ∃ y, cs[k + j]? = some y ∧ DecC w x y := fun j x h => by simp at h
theorem Zm3 {w : World} {cs : List Value} {b : Cell} {l : List Cell} {k : Nat} {y : Value} (hx : cs[k]? = some y) (hd : DecC w b y) (t : ∀ (j : Nat) x, l[j]? = some x → ∃ y, cs[k + 1 + j]? = some y ∧ DecC w x y) :
  ∀ (j : Nat) x, (b :: l)[j]? = some x → ∃ y, cs[k + j]? = some y ∧ DecC w x y := fun j x h => by
 cases j with
 | zero => injection h with h; subst h; exact ⟨y, hx, hd⟩
 | succ j =>
  obtain ⟨y', h1, h2⟩ := t j x (by simpa using h)
  exact ⟨y', by rw [show k + (j + 1) = k + 1 + j by omega]; exact h1, h2⟩
theorem DecL.vr {w : World} {cs : List Value} {l : List Cell} (h : DecL w cs l) : VRs (ιMk w) (Zu l).toArray cs.toArray :=
 ⟨by simp [Zu, h.1], fun i x y hx hy => by
  have hx' : (Zu l)[i]? = some x := by simpa using hx
  have hy' : cs[i]? = some y := by simpa using hy
  unfold Zu at hx'
  rw [List.getElem?_map] at hx'
  cases hb : l[i]? with
  | none => rw [hb] at hx'; cases hx'
  | some z =>
   rw [hb] at hx'
   injection hx' with hx'
   subst hx'
   exact (h.2 i z y hb hy').vr⟩
theorem pick1 {α : Type} {n : Nat} (d : α) {R : Nat → α → Prop} (h : ∀ i, i < n → ∃ x, R i x) : ∃ f : Nat → α, ∀ i, i < n → R i (f i) := by
 classical
 refine ⟨fun i => if hi : i < n then (h i hi).choose else d, fun i hi => ?_⟩
 simp only [hi, dite_true]
 exact (h i hi).choose_spec
theorem ZvK {α : Type} {E : Enc α} {Q : α → Prop} {t e : TypeId} {cs : List Value} (ht : P.underlying t = some (.slice e)) (hw : P.cellsOf e = E.w) (hpos : 0 < E.w)
  (hel : ∀ cs, cs.length = E.w → Trd enc P w e cs → ∃ x : α, DecL w cs (E.cel x) ∧ Q x) (h : Trd enc P w t cs) : ∃ (L : List α) (v : Value), cs = [v] ∧ DecC w (mc E L) v ∧ L.length ≤ 9223372036854775807 ∧ ∀ x ∈ L, Q x := by
 rcases ZvJ ht (by omega) h with ⟨a, rfl⟩ | ⟨b, o, len, cap, O, rfl, h0, hl, hm, hB, hE⟩
 ·exact ⟨[], _, rfl, .m0, by simp, fun x hx => by cases hx⟩
 ·have each : ∀ i, i < len → ∃ x : α, (∃ C t fr, O = .cells C t fr ∧ ∀ j y, (E.cel x)[j]? = some y → ∃ v, C[o + (i * E.w + j)]? = some v ∧ DecC w y v) ∧ Q x := fun i hi => by
   obtain ⟨C, t, fr, cs, hO, hcl, hc, htr⟩ := hE i (by omega)
   obtain ⟨x, hd, hq⟩ := hel cs (by omega) htr
   refine ⟨x, ⟨C, t, fr, hO, fun j y hy => ?_⟩, hq⟩
   have hj : j < cs.length := by rw [hd.1]; exact (List.getElem?_eq_some_iff.1 hy).1
   rw [← hw]
   refine ⟨cs[j], ?_, hd.2 j y _ hy (List.getElem?_eq_getElem hj)⟩
   rw [hc j (by omega)]
   exact List.getElem?_eq_getElem hj
  obtain ⟨G, hG⟩ := pick1 E.dflt each
  obtain ⟨C, t, fr, cs0, hO, _⟩ := hE 0 h0
  subst hO
  refine ⟨(List.range len).map G, _, rfl, ?_, by simp; omega, fun x hx => ?_⟩
  ·have hlen : ((List.range len).map G).length = len := by simp
   unfold mc
   rw [hlen]
   refine .m (base := o) (.mk (Zc1 _) hB (fun hp => ?_) fun i x y hx hy => ?_) (Nat.le_refl _) hl
   ·rw [Zjd, hlen] at hp ⊢
    have hlen0 : 0 < len := by
     rcases Nat.eq_zero_or_pos len with e0 | e0
     ·subst e0; simp at hp
     ·exact e0
    obtain ⟨⟨C', t', fr', hO', hx'⟩, _⟩ := hG (len - 1) (by omega)
    injection hO' with e1 e2 e3
    subst e1
    have hw1 : (E.cel (G (len - 1))).length = E.w := E.clen _
    obtain ⟨v, hv, _⟩ := hx' (E.w - 1) _ (List.getElem?_eq_getElem (by omega))
    have := (Array.getElem?_eq_some_iff.1 hv).1
    have e2 : (len - 1) * E.w + E.w = len * E.w := by rw [← Nat.succ_mul]; congr 1; omega
    omega
   ·rw [ZvH i hpos] at hx
    split at hx
    ·rename_i hlt
     rw [List.getElem_map, List.getElem_range] at hx
     obtain ⟨⟨C', t', fr', hO', hx'⟩, _⟩ := hG (i / E.w) (by rw [hlen] at hlt; exact hlt)
     injection hO' with e1 e2 e3
     subst e1
     obtain ⟨v, hv, hd⟩ := hx' (i % E.w) x hx
     have e : i / E.w * E.w + i % E.w = i := by rw [Nat.mul_comm]; exact Nat.div_add_mod i E.w
     rw [e, hy] at hv
     injection hv with hv
     subst hv
     exact hd
    ·cases hx
  ·obtain ⟨i, hi, rfl⟩ := List.mem_map.1 hx
   exact (hG i (List.mem_range.1 hi)).2
theorem ZsY {cs : List Value} {j m : Nat} {v : Value} (h : (cs.drop j).take m = [v]) (hm : m = 1) : cs[j]? = some v := by
 subst hm
 have : ((cs.drop j).take 1)[0]? = some v := by rw [h]; rfl
 rwa [List.getElem?_take_of_lt (by decide), List.getElem?_drop, Nat.add_zero] at this
/-! ### Parts of a value, by where they lie among its cells -/
def Zm4 (enc : TypeId × Value → H) (P : Program) (w : World) (t : TypeId) (cs : List Value) (o : Nat) : Prop := Trd enc P w t ((cs.drop o).take (P.cellsOf t))
theorem Zyt {t : TypeId} {cs : List Value} {c : Nat} (hc : P.cellsOf t = c) (hl : cs.length = c) (h : Trd enc P w t cs) : Zm4 enc P w t cs 0 := by
 unfold Zm4
 rw [List.drop_zero, List.take_of_length_le (by omega)]
 exact h
theorem ZwK {cs : List Value} {o m a k : Nat} (h : a + k ≤ m) : (((cs.drop o).take m).drop a).take k = (cs.drop (o + a)).take k := by
 rw [List.drop_take, List.take_take, List.drop_drop, Nat.min_eq_left (by omega)]
theorem ZkX {t te : TypeId} {fs : Array Field} {cs : List Value} {o o' : Nat} (fo c ct : Nat) (ht : P.underlying t = some (.struct fs)) (h : Zm4 enc P w t cs o) (i : Nat) (hf : (fs[i]?).map (fun f => (f.type, f.offset)) = some (te, fo)) (ho : o' = o + fo) (hc : P.cellsOf te = c) (hct : P.cellsOf t = ct) (hle : fo + c ≤ ct) : Zm4 enc P w te cs o' := by
 cases hx : fs[i]? with
 | none => rw [hx] at hf; cases hf
 | some f =>
  rw [hx] at hf
  injection hf with hf
  injection hf with h1 h2
  subst h1 h2 ho
  have := ZvI ht h i hx
  rw [ZwK (by omega)] at this
  exact this
theorem ZwL {cs : List Value} {o : Nat} {v : Value} (h : (cs.drop o).take 1 = [v]) : cs[o]? = some v := ZsY h rfl
theorem Zoq {t : TypeId} {k : IntKind} {cs : List Value} {o : Nat} (ht : P.underlying t = some (.int k)) (hc : P.cellsOf t = 1) (h : Zm4 enc P w t cs o) : ∃ z, cs[o]? = some (.int k z) ∧ k.min ≤ z ∧ z ≤ k.max := by
 unfold Zm4 at h
 rw [hc] at h
 obtain ⟨z, h1, h2⟩ := ZxL ht h
 exact ⟨z, ZwL h1, h2⟩
theorem ZxN {t : TypeId} {v : Value} {d : DataW H} {p : List MemPlace} (h : DataW.Trod enc P w 0 (fun _ => true) true t v d p) : Trd enc P w t v.cells.toList := by
 obtain ⟨fuel, hf⟩ := h
 exact ⟨fuel, _, hf⟩
end
end Ev
end Go.Proofs.YtlbbiflodemagaaDoor
/- Strings, as lists of their bytes. -/
namespace Go.Proofs.YtlbbiflodemagaaDoor
open Go.RowKit
namespace Ev
set_option linter.unusedVariables false
theorem oK {l : List (Bool × Bool)} {a : Int} {k : Nat} (hl : ∀ q ∈ l, q.1 = q.2) (h : a = (k : Int) := by omega) : ∀ q ∈ ((a == Int.ofNat k), true) :: l, q.1 = q.2 := Za (beq_iff_eq.2 h) hl
abbrev bl (l : List Int) : List Int := l
theorem Zai {n : Int} (h0 : (-9223372036854775808 : Int) ≤ n) (h1 : n ≤ (9223372036854775807 : Int)) : (decide ((-9223372036854775808 : Int) ≤ n) && decide (n ≤ (9223372036854775807 : Int))) = true := by
 rw [decide_eq_true h0, decide_eq_true h1]; rfl
theorem ZH (l : List Int) : (Zb l).size = l.length := by
 show (Zb l).data.size = l.length
 rw [Zcw]; simp [u8s]
theorem ZbW {x : ByteArray} {M : List Int} (h : x = Zb M) (hM : M.length ≤ 1000000) : Nat.ble x.size 140737488355328 = true := by
 rw [h, ZH]
 rw [Nat.ble_eq]; omega
theorem ZvL {M : List Int} (h : Z1 M = true) : Zg (Zau .u8) M = ZbE (Zb M) := by
 unfold Zg ZbE
 rw [Zcw]
 simp only [u8s, List.map_map]
 have : ∀ n ∈ M, (Zau .u8).enc n = [Value.int .u8 ((UInt8.ofNat n.toNat).toNat : Nat)] := fun n hn => by
  obtain ⟨h0, h1⟩ := Zfn h hn
  show [Value.int .u8 n] = _
  have : (UInt8.ofNat n.toNat).toNat = n.toNat := by
   rw [UInt8.toNat_ofNat']; omega
  rw [this, Int.toNat_of_nonneg h0]
 clear h
 induction M with
 | nil => rfl
 | cons n M ih =>
  rw [List.flatMap_cons, this n (List.mem_cons_self ..), ih fun m hm => this m (List.mem_cons_of_mem _ hm)]
  rfl
theorem ZjF {x : ByteArray} {M : List Int} {m : Nat} (h : x = Zb M) (hb : Z1 M = true) (hm : m = M.length) : m = x.size ∧ Zg (Zau .u8) M = ZbE x := by
 subst h hm
 exact ⟨(ZH M).symm, ZvL hb⟩
theorem catS (a b : List Int) : Zb a ++ Zb b = Zb (a ++ b) := by
 apply ByteArray.ext
 rw [ByteArray.data_append, Zcw, Zcw, Zcw]; simp [u8s]
theorem sE {a b : ByteArray} (h : a = b := by first | (simp only [catS]; done) | (simp only [catS, bl, List.append_assoc, List.cons_append, List.nil_append, List.append_nil]; done) | rfl) : a = b := h
theorem ZA {a b : ByteArray} {x y : List Int} (h1 : a = Zb x) (h2 : b = Zb y) (h : x.length + y.length ≤ 1000000) : ((a.size + b.size : Nat) : Int) ≤ IntKind.i64.max := by
 rw [h1, h2, ZH, ZH]
 have : IntKind.i64.max = 9223372036854775807 := by decide
 omega
end Ev
end Go.Proofs.YtlbbiflodemagaaDoor
/- Rows that may lack, at a head; strings within rows; parts of strings. -/
namespace Go.Proofs.YtlbbiflodemagaaDoor
open Go.RowKit
namespace Ev
set_option linter.unusedVariables false
section
variable {α : Type} {E : Enc α}
theorem Zl (ρ : Nat → Nat) (L : List α) (t : TypeId) : Zhw ρ (.cells (Zg E L) t true) (.cells (Zg E L) t true) := ⟨rfl, by rw [Zm2], Znb 1 L⟩
theorem Zqo (ρ : Nat → Nat) (L : List α) (t : TypeId) : AObj.cells (Zg E L) t true = Zih ρ (.cells (Zg E L) t true) := by
 show _ = AObj.cells ((Zg E L).map (Zam ρ 1)) t true
 rw [Zm2]
theorem Zyu {L : List α} (h : 0 < L.length) (hw : 0 < E.w) : Zg E L ≠ [] := fun e => by
 have h1 : (Zg E L).length = 0 := by rw [e]; rfl
 cases L with
 | nil => cases h
 | cons x L =>
  unfold Zg at h1
  rw [List.flatMap_cons, List.length_append, E.len] at h1
  omega
theorem ZrP : ∀ c, WkC c c
 | [] => trivial
 | _ :: c => ⟨.inl rfl, ZrP c⟩
theorem Zpc {L : List α} {t : TypeId} (h : 0 < L.length) (hw : 0 < E.w) : WkO (some (.cells (Zg E L) t)) (some (.cells (Zg E L) t true)) := .inr (.inr ⟨_, _, _, rfl, rfl, ZrP _, Zyu h hw⟩)
theorem wk_c {c c' : List Value} {t : TypeId} (h : WkC c c') : WkO (some (.cells c t)) (some (.cells c' t)) := .inr (.inl ⟨_, _, _, _, rfl, rfl, h⟩)
end
theorem bEq {a b : ByteArray} : (a == b) = true ↔ a = b := by
 constructor
 ·intro h
  cases a; cases b
  congr 1
  exact eq_of_beq (show (_ == _) = true from h)
 ·intro h
  subst h
  show (a.data == a.data) = true
  simp
theorem Zt9 {P : Program} {e : FuncId → Option Ext} {f : FuncId} {g : Array Value → St → Out} (F : Fit P e) (D : Zfj P f g) : Fit P (fun x => bif Nat.beq x f then some (.hp g) else e x) :=
 have cs : ∀ {x : Nat} {y : Ext}, (bif Nat.beq x f then some (.hp g) else e x) = some y → (x = f ∧ y = .hp g) ∨ e x = some y := fun {x y} h => by
  cases hb : Nat.beq x f with
  | true => rw [hb] at h; injection h with h; exact .inl ⟨Nat.eq_of_beq_eq_true hb, h.symm⟩
  | false => rw [hb] at h; exact .inr h
 ⟨F.mixed, F.go, fun x g' h => (cs h).elim (fun q => by cases q.2) (F.fn x g'), fun x g' h => (cs h).elim (fun q => by obtain ⟨rfl, q2⟩ := q; injection q2 with q2; subst q2; exact D) (F.hp x g'), fun x S h => (cs h).elim (fun q => by cases q.2) (F.tc x S), fun x n h => (cs h).elim (fun q => by cases q.2) (F.mark x n), fun x k y h => (cs h).elim (fun q => by cases q.2) (F.ext x k y)⟩
def Zag : Enc (List Int) := ⟨fun l => [.s (Zb l)], 1, [], fun _ => rfl, fun _ => rfl⟩
def bAt (M : List Int) (i : Nat) : Int := (((UInt8.ofNat (M.getD i 0).toNat).toNat : Nat) : Int)
theorem Zyv {M : List Int} (h : Z1 M = true) {i : Nat} (hi : i < M.length) : bAt M i = M.getD i 0 := by
 have hm : M.getD i 0 ∈ M := by
  rw [show M.getD i 0 = M[i] by simp [List.getD, hi]]
  exact List.getElem_mem hi
 obtain ⟨h0, h1⟩ := Zfn h hm
 unfold bAt
 rw [UInt8.toNat_ofNat']
 omega
theorem ZlX {x : ByteArray} {M : List Int} {z : Int} {i : Nat} (hx : x = Zb M) (hz : z = (i : Int)) (hi : i < M.length) : ∃ y, 0 ≤ z ∧ x[z.toNat]? = some y ∧ bAt M i = (y.toNat : Int) := by
 subst hx hz
 refine ⟨UInt8.ofNat (M.getD i 0).toNat, by omega, ?_, rfl⟩
 have hs : i < (Zb M).size := by rw [ZH]; exact hi
 rw [show ((i : Int)).toNat = i by omega, getElem?_pos (Zb M) i hs]
 congr 1
 have : ∀ (b : ByteArray) (l : List UInt8) (hb : b = ⟨l.toArray⟩) (h : i < b.size), b[i] = l[i]'(by subst hb; exact h) := fun b l hb h => by subst hb; rfl
 rw [this _ _ (Zcw M) hs]
 simp [u8s, List.getD, hi]
theorem sSl {x : ByteArray} {M R : List Int} {l h : Int} (hx : x = Zb M) (h0 : 0 ≤ l) (h1 : l ≤ h) (h2 : h ≤ (M.length : Int)) (hR : R = (M.drop l.toNat).take (h.toNat - l.toNat)) :
  0 ≤ l ∧ l ≤ h ∧ h ≤ (x.size : Int) ∧ x.extract l.toNat h.toNat = Zb R := by
 subst hx hR
 refine ⟨h0, h1, by rw [ZH]; exact h2, ?_⟩
 apply ByteArray.ext
 rw [ByteArray.data_extract, Zcw, Zcw]
 simp [u8s, List.map_take, List.map_drop, List.take_drop]
 first | done | omega | (congr 1; omega)
theorem ZwM {x : ByteArray} {M R : List Int} {l : Int} (hx : x = Zb M) (h0 : 0 ≤ l) (h1 : l ≤ (M.length : Int)) (hR : R = M.drop l.toNat) :
  0 ≤ l ∧ l ≤ (x.size : Int) ∧ (x.size : Int) ≤ (x.size : Int) ∧ x.extract l.toNat (x.size : Int).toNat = Zb R := by
 have e : (x.size : Int) = (M.length : Int) := by rw [hx, ZH]
 rw [e]
 obtain ⟨q1, q2, q3, q4⟩ := sSl (R := R) (h := (M.length : Int)) hx h0 h1 (Int.le_refl _) (by rw [hR, List.take_of_length_le]; rw [List.length_drop]; omega)
 exact ⟨q1, q2, by omega, q4⟩
theorem ZwN (b : ByteArray) : ∃ L : List Int, b = Zb L ∧ Z1 L = true := ⟨ZkR b, Zqd b, Zoj b⟩
abbrev OkL (l : List (Bool × Bool)) : Prop := ∀ q ∈ l, q.1 = q.2
end Ev
end Go.Proofs.YtlbbiflodemagaaDoor
/- Functions told of whole runs: their own loops run on. -/
namespace Go.Proofs.YtlbbiflodemagaaDoor
open Go.RowKit
namespace Ev
section
variable {P : Program} {ext : FuncId → Option Ext} {pre : List AObj} {A : Array Value} {R : Type} {V : R → Value} {Po : R → List (Option AObj)} {live : List Nat} {bl : List (Option AObj)} {ob : List (Bool × Bool)} {fu : Nat} {orc : Orc}
noncomputable def Zar (P : Program) (ext : FuncId → Option Ext) (f : FuncId) (pre : List AObj) (A : Array Value) (fu : Nat) (orc : Orc) : Option Stop :=
 match Zfg P ext fu f A ⟨ZdG 0 pre, pre.length, [], orc, []⟩ with
 | some (v, s) => some (.fin v s)
 | none => none
theorem ZsZ (F : Fit P ext) {f : FuncId} {v u : Value} {post : List (Option AObj)} {s : St} (hev : Zar P ext f pre A fu orc = some (.fin u s)) (ho : ∀ p ∈ s.ob, p.1 = p.2) (hn : s.n ≤ far) (hle : post.length ≤ far) (live : List Nat) (h : Zoc pre.length v post u s live) : LSpec P f A pre v post := by
 intro ι w args' hd ha he
 have hc : Zfg P ext fu f A ⟨ZdG 0 pre, pre.length, [], orc, []⟩ = some (u, s) := by
  unfold Zar at hev
  split at hev
  ·rename_i v1 s1 h1
   injection hev with hev
   injection hev with q1 q2
   rw [h1, q1, q2]
  ·cases hev
 have hF := (Zfl (P := P) F fu).2.2.2.1 f A _ u s hc ho ι w args' ha (by show Emb P ι (ZdG 0 pre).get w; rw [Zfm]; exact he)
  ⟨hn, fun k h1 h2 => by
   cases hk : ι k with
   | none => rfl
   | some b => exact absurd (hd k (by rw [hk]; simp)) (by have h3 : pre.length ≤ k := h1; have h4 : s.n ≤ 1000000000 := hn; have h5 : k < s.n := h2; unfold ZbF; omega)⟩
 refine hF.mono ?_
 rintro e w' ⟨v', ι', rfl, g1, g2, g3⟩
 exact ZlI hle hd h (by have := g1; simp only [Zfm] at this; exact this) g3
def Gx (P : Program) (f : FuncId) (pre : List AObj) (A : Array Value) {R : Type} (V : R → Value) (Po : R → List (Option AObj)) (o : Option R) : Prop :=
 ∀ r, o = some r → LSpec P f A pre (V r) (Po r)
variable {f : FuncId}
theorem Zq : Gx P f pre A V Po none := fun _ h => by cases h
theorem Zc {c : Prop} [Decidable c] {B C : Option R} (h1 : c → Gx P f pre A V Po B) (h2 : ¬ c → Gx P f pre A V Po C) : Gx P f pre A V Po (if c then B else C) := by
 by_cases h : c
 ·rw [if_pos h]; exact h1 h
 ·rw [if_neg h]; exact h2 h
theorem ZaF {α : Type} {o : Option α} {k : α → Option R} (h : ∀ r, o = some r → Gx P f pre A V Po (k r)) : Gx P f pre A V Po (o.bind k) := by
 cases o with
 | none => exact Zq
 | some r => exact h r rfl
theorem Zku (F : Fit P ext) {r : R} {u : Value} (hev : Zan live (Zar P ext f pre A fu orc) = some (u, bl, ob)) (ho : ∀ p ∈ ob, p.1 = p.2) (hl : live.length = (Po r).length) (hn : live.Nodup) (hk : Zcn pre.length live = true) (hv : V r = Zam (rho live far) 3 u ∧ ZY 3 u = true) (hbl : ZaQ (rho live far) bl (Po r)) (hle : (Po r).length ≤ far) : Gx P f pre A V Po (some r) := by
 intro r' hr
 obtain rfl := Option.some.inj hr
 obtain ⟨s, h1, rfl, rfl, h4⟩ := Zna hev
 exact ZsZ F h1 ho h4 hle live ⟨hl, hn, hk, hv, Zfo hbl⟩
noncomputable def Zje (P : Program) (ext : FuncId → Option Ext) (f : FuncId) (pre : List AObj) (A : Array Value) (fu : Nat) (orc : Orc) : Option (Value × List (Bool × Bool)) :=
 match Zdy P ext fu f A ⟨ZdG 0 pre, pre.length, [], orc, []⟩ with
 | some (v, s) => bif Nat.ble s.n 500000000 then some (v, s.ob) else none
 | none => none
theorem ZlY (F : Fit P ext) {r : R} {u : Value} (hev : Zje P ext f pre A fu orc = some (u, ob)) (ho : ∀ p ∈ ob, p.1 = p.2) (hv : V r = u) (ht : ZbL u = true) (hp : Po r = pre.map fun _ => none) (hle : (Po r).length ≤ far) : Gx P f pre A V Po (some r) := by
 intro r' hr
 obtain rfl := Option.some.inj hr
 unfold Zje at hev
 split at hev
 ·rename_i v s hc
  obtain ⟨hn, hev⟩ := Zo hev
  injection hev with hev
  simp only [Prod.mk.injEq] at hev
  obtain ⟨rfl, rfl⟩ := hev
  have hn : s.n ≤ 500000000 := Nat.le_of_ble_eq_true hn
  intro ι w args' hd ha he
  have hF := (ZkN F fu).does f A _ v s hc ho ι w args' ha (by show Emb P ι (ZdG 0 pre).get w; rw [Zfm]; exact he)
   ⟨by show s.n ≤ 1000000000; omega, fun k h1 h2 => by
    cases hk : ι k with
    | none => rfl
    | some b => exact absurd (hd k (by rw [hk]; simp)) (by have h3 : pre.length ≤ k := h1; have h5 : k < s.n := h2; unfold ZbF; omega)⟩
  refine hF.mono ?_
  rintro e w' ⟨ι', rfl, g1, g2⟩
  have hl : (Po r).length = pre.length := by rw [hp, List.length_map]
  have hfar : pre.length ≤ far := hl ▸ hle
  have hf := ZlI (v := .bool true) (u := .bool true) (v' := .bool true) (post := Po r) (s := s) (live := List.range pre.length) hle hd ⟨by rw [hl, List.length_range], List.nodup_range, Mach.keeps_range hfar, ⟨rfl, rfl⟩, fun j o hj => by
   rw [hp] at hj
   exfalso
   unfold lkO at hj
   rw [List.getElem?_map] at hj
   cases hx : pre[j]? <;> rw [hx] at hj <;> cases hj⟩ (by have := g1; simp only [Zfm] at this; exact this) (.atom rfl)
  rcases hf with ⟨v', ι', _, g2, g3, _⟩ | ⟨hz, _⟩
  ·rw [← hv] at ht ⊢
   exact .inr ⟨ht, ι', rfl, g2, g3⟩
  ·cases hz
 ·cases hev
end
end Ev
end Go.Proofs.YtlbbiflodemagaaDoor
/- How leaves are written, shorter. -/
namespace Go.Proofs.YtlbbiflodemagaaDoor
open Go.RowKit
namespace Ev
abbrev OB := List (Bool × Bool)
set_option linter.unusedVariables false
section
variable {P : Program} {ext : FuncId → Option Ext} {M : Mach} {x : M.X} {orc : Orc} {live : List Nat} {bl : List (Option AObj)} {ob : List (Bool × Bool)}
theorem Mach.oN {y : M.X} {tv : (Nat → Value) → List (Option Value)} (ho : ∀ p ∈ ob, p.1 = p.2) (ht : ∀ gv, Zen (rho live far) (tv gv) (M.L y)) (hbl : ZaQ (rho live far) bl (M.H y)) (hev : ∀ gv, Zhx (M.hd y) live ((M.L y).map (·.1)) (M.Start x gv P ext 1000000 0 4000 orc) = some (tv gv, bl, ob) := by intro gv; as_aux_lemma => kernel_rfl) (hL : M.isL (M.hd y) = true := by rfl) (hr : (Za9 (M.KK (M.hd x))).elem (M.hd y) = true := by kernel_rfl) (hl : live.length = (M.H y).length := by rfl) (hn : live.Nodup := by decide) (hk : Zcn M.pre.length live = true := by rfl) : M.Ok P ext x (some (.inl y)) :=
 ZxI hL (List.elem_iff.1 hr) hev ho hl hn hk ht hbl
theorem Mach.oF {r : M.R} {u : Value} (ho : ∀ p ∈ ob, p.1 = p.2) (hv : M.V r = Zam (rho live far) 3 u ∧ ZY 3 u = true) (hbl : ZaQ (rho live far) bl (M.Po r)) (hev : ∀ gv, Zkt live (M.Start x gv P ext 1000000 0 4000 orc) = some (u, bl, ob) := by intro gv; as_aux_lemma => kernel_rfl) (hl : live.length = (M.Po r).length := by rfl) (hn : live.Nodup := by decide) (hk : Zcn M.pre.length live = true := by rfl) : M.Ok P ext x (some (.inr r)) :=
 Zyo hev ho hl hn hk hv hbl
theorem Mach.oW {y : M.X} (H0 : List (Option AObj)) (js : List (Nat × TypeId)) (i : Nat) (hw : WkL (ZjD js H0) (M.H y)) {tv : (Nat → Value) → List (Option Value)} (ho : ∀ p ∈ ob, p.1 = p.2) (ht : ∀ gv, Zen (rho live far) (tv gv) (M.L y)) (hbl : ZaQ (rho live far) bl H0) (hp : ZrK live H0 js = true := by rfl) (hi : isC (lkO H0 i) = true := by rfl) (hev : ∀ gv, Zhx (M.hd y) live ((M.L y).map (·.1)) (M.Start x gv P ext 1000000 0 4000 orc) = some (tv gv, bl, ob) := by intro gv; as_aux_lemma => kernel_rfl) (hL : M.isL (M.hd y) = true := by rfl) (hr : (Za9 (M.KK (M.hd x))).elem (M.hd y) = true := by kernel_rfl) (hl : live.length = H0.length := by rfl) (hn : live.Nodup := by decide) (hk : Zcn M.pre.length live = true := by rfl) : M.Ok P ext x (some (.inl y)) :=
 ZwD H0 js i hw hp hi hL (List.elem_iff.1 hr) hev ho hl hn hk ht hbl
end
section
variable {P : Program} {ext : FuncId → Option Ext} {f : FuncId} {fn : Func} {pre : List AObj} {A : Array Value} {R : Type} {V : R → Value} {Po : R → List (Option AObj)} {live : List Nat} {bl : List (Option AObj)} {ob : List (Bool × Bool)} {orc : Orc}
theorem gxF (F : Fit P ext) {r : R} {u : Value} (ho : ∀ p ∈ ob, p.1 = p.2) (hv : V r = Zam (rho live far) 3 u ∧ ZY 3 u = true) (hbl : ZaQ (rho live far) bl (Po r)) (hev : Zan live (Zar P ext f pre A 4000 orc) = some (u, bl, ob) := by as_aux_lemma => kernel_rfl) (hl : live.length = (Po r).length := by rfl) (hn : live.Nodup := by decide) (hk : Zcn pre.length live = true := by rfl) (hle : (Po r).length ≤ far := by exact ZaV _ rfl) : Gx P f pre A V Po (some r) :=
 Zku F hev ho hl hn hk hv hbl hle
theorem fxF {r : R} {u : Value} (ho : ∀ p ∈ ob, p.1 = p.2) (hv : V r = Zam (rho live far) 3 u ∧ ZY 3 u = true) (hbl : ZaQ (rho live far) bl (Po r)) (hev : Zan live (ZrM P ext fn pre A 4000 orc) = some (u, bl, ob) := by as_aux_lemma => kernel_rfl) (hl : live.length = (Po r).length := by rfl) (hn : live.Nodup := by decide) (hk : Zcn pre.length live = true := by rfl) : Fx P ext fn pre A V Po (some r) :=
 ZvF hev ho hl hn hk hv hbl
theorem vE {live : List Nat} {v u : Value} (h : v = u) (h2 : u = Zam (rho live far) 3 u := by rfl) (h3 : ZY 3 u = true := by rfl) : v = Zam (rho live far) 3 u ∧ ZY 3 u = true := ⟨h.trans h2, h3⟩
theorem cX0 {v : Value} {post : List (Option AObj)} (h : LSpec P f A pre v post) (κ : List Nat) (n : Nat) (ch : List Nat) (hnd : κ.Nodup) (hlt : ∀ k ∈ κ, k < n)
  {A' : Array Value} {pre' : List (Nat × AObj)} {v' : Value} {post' : List (Nat × Option AObj)} {dn : Nat} (hκ : κ.length = pre.length := by rfl) (hle : Nat.ble pre.length post.length = true := by rfl) (hch : Zw (fun j => Nat.blt j post.length) ch = true := by rfl)
  (hA : Zw (ZaM pre.length 3) A.toList = true := by rfl) (hpre : ZkT pre.length pre := by repeat' (first | exact trivial | refine And.intro ?_ ?_ | exact Zqn _ _ _ | rfl)) (hv : (ZaM post.length 3 v || ZbL v) = true := by rfl) (hpost : ZhQ post.length post := by repeat' (first | exact trivial | refine And.intro ?_ ?_ | exact Zqn _ _ _ | rfl)) (hk : ZrA ch 0 pre post := by repeat' (first | exact trivial | refine And.intro ?_ ?_ | exact .inl (by decide) | exact .inr rfl | decide))
  (eA : A' = Zgs (Zam (kap κ n) 3) A := by rfl) (ev : v' = Zam (kap κ n) 3 v := by rfl) (edn : pre.length + dn = post.length := by rfl) (ep : pre' = preL κ n pre := by repeat' (first | refine Zh ?_ ?_ | refine Zt5 rfl ?_ | exact Zqo _ _ _ | exact ZrO _ _ _ | rfl)) (eq : post' = Zu7 κ n ch post := by repeat' (first | refine Zh ?_ ?_ | refine Zt5 rfl ?_ | refine ZxH ?_ | exact Zqo _ _ _ | exact ZrO _ _ _ | rfl)) : Z3 P f A' pre' v' post' n dn :=
 LSpec.callL h κ n ch hκ hnd hlt (Nat.le_of_ble_eq_true hle) (fun j hj => Nat.le_of_ble_eq_true (Zao hch j hj)) hA hpre hv hpost hk eA ev edn ep eq
end
end Ev
end Go.Proofs.YtlbbiflodemagaaDoor
/- What a function hands back first, in a block of its own, which nobody writes any more: a plain value (also where the row may lack). -/
namespace Go.Proofs.YtlbbiflodemagaaDoor
open Go.RowKit
namespace Ev
set_option linter.unusedVariables false
section
variable {P : Program}
theorem VR.cutT {ι ι2 : Ren} {m : Nat} (hι : ∀ k b, k < m ∨ ZbF k → ι k = some b → ι2 k = some b) : ∀ (d : Nat) (v v' : Value), VR ι v v' → ZaM m d v = true → VR ι2 v v'
 | d, v, v', h, hd => by
  cases h with
  | atom h => exact .atom h
  | glob h => exact .glob h
  | ptr h => cases d <;> exact .ptr (hι _ _ (.inl (Nat.le_of_ble_eq_true hd)) h)
  | map h => cases d <;> exact .map (hι _ _ (.inl (Nat.le_of_ble_eq_true hd)) h)
  | slice h hn hc hq => cases d <;> exact .slice (hι _ _ (.inl (Nat.le_of_ble_eq_true hd)) h) hn hc hq
  | slice0 h => exact .slice0 h
  | mptr h => exact .mptr (hι _ _ (.inr (Zg7 _ _ _)) h)
  | mslice h hn hc => exact .mslice (hι _ _ (.inr (Zg7 _ _ _)) h) hn hc
  | func hs ht h1 h2 =>
   rename_i fn a a' b b'
   have ha : Ev.atom (.func fn a b) = true := by cases d <;> exact hd
   have e := VR.eq_of_atom ha (.func hs ht h1 h2)
   rw [e]
   exact .atom ha
  | agg hs h1 =>
   cases d with
   | zero => simp [ZaM, Ev.atom] at hd
   | succ d =>
    simp only [ZaM] at hd
    exact .agg hs fun i x y hx hy => VR.cutT hι d x y (h1 i x y hx hy) (Zay hd i x hx)
  | tuple hs h1 =>
   cases d with
   | zero => simp [ZaM, Ev.atom] at hd
   | succ d =>
    simp only [ZaM] at hd
    exact .tuple hs fun i x y hx hy => VR.cutT hι d x y (h1 i x y hx hy) (Zay hd i x hx)
def ZjG (m : Nat) : List (Option AObj) → Prop
 | [] => True
 | o :: l => (match o with | some x => ZhL m x = true | none => True) ∧ ZjG m l
theorem ZkY {m : Nat} : ∀ {H : List (Option AObj)}, ZjG m H → ∀ k o, lkO H k = some o → ZhL m o = true
 | [], _, k, o, hk => by simp [lkO] at hk
 | x :: H, h, 0, o, hk => by
  have e : x = some o := by simpa [lkO] using hk
  subst e
  exact h.1
 | x :: H, h, k + 1, o, hk => ZkY h.2 k o (by simpa [lkO] using hk)
theorem ZkZ {c c' : List Cell} {o : Nat} (h : ZaO (code c) o c'.length = some c') : c' = (c.drop o).take c'.length ∧ c'.length ≤ (c.drop o).length := by
 unfold ZaO at h
 rw [Zc1] at h
 exact Zdm h
theorem ZrQ {c c' : List Cell} {o : Nat} (h : c' = (c.drop o).take c'.length) (hl : c'.length ≤ (c.drop o).length) : ZaO (code c) o c'.length = some c' := by
 unfold ZaO
 rw [Zc1]
 show Z8 c'.length (c.drop o) = some c'
 rw [Zh0 _ _ hl, ← h]
theorem ZwO {c c1 c2 : List Cell} {o o2 : Nat} (h : ZaO (code c) o c1.length = some c1) (h2 : ZaO (code c1) o2 c2.length = some c2) : ZaO (code c) (o + o2) c2.length = some c2 := by
 obtain ⟨a1, a2⟩ := ZkZ h
 obtain ⟨b1, b2⟩ := ZkZ h2
 rw [List.length_drop] at a2 b2
 have e2 : c1.drop o2 = ((c.drop o).drop o2).take (c1.length - o2) := by rw [← List.drop_take, ← a1]
 refine ZrQ ?_ (by rw [List.length_drop]; omega)
 rw [← List.drop_drop]
 conv => lhs; rw [b1, e2, List.take_take, Nat.min_eq_left b2]
noncomputable def ιFt (ι : Ren) (j b0 : Nat) (c : List Cell) : Ren := fun k => @ite _ (k < j ∨ (ZbF k ∧ ι k ≠ none)) (Classical.propDecidable _) (ι k) (@dite _ (∃ o c', k = ZX b0 o (code c') ∧ ZaO (code c) o c'.length = some c') (Classical.propDecidable _) (fun _ => some (b0, 0)) (fun _ => none))
theorem ιFt_old {ι : Ren} {j b0 k : Nat} {c : List Cell} (h : k < j ∨ (ZbF k ∧ ι k ≠ none)) : ιFt ι j b0 c k = ι k := by unfold ιFt; rw [if_pos h]
theorem ιFt_new {ι : Ren} {j b0 o : Nat} {c c' : List Cell} (hj : j ≤ 1000000000) (hn : ι (ZX b0 o (code c')) = none) (h : ZaO (code c) o c'.length = some c') : ιFt ι j b0 c (ZX b0 o (code c')) = some (b0, 0) := by
 unfold ιFt
 rw [if_neg (fun q => q.elim (fun q => by have := Zfb b0 o (code c'); omega) (fun q => q.2 hn)), dif_pos ⟨o, c', rfl, h⟩]
theorem ιFt_inv {ι : Ren} {j b0 k : Nat} {c : List Cell} {q : Nat × Nat} (h : ιFt ι j b0 c k = some q) : ((k < j ∨ (ZbF k ∧ ι k ≠ none)) ∧ ι k = some q) ∨ (q = (b0, 0) ∧ ∃ o c', k = ZX b0 o (code c') ∧ ZaO (code c) o c'.length = some c') := by
 by_cases hk : k < j ∨ (ZbF k ∧ ι k ≠ none)
 ·rw [ιFt_old hk] at h; exact .inl ⟨hk, h⟩
 ·unfold ιFt at h
  rw [if_neg hk] at h
  by_cases hd : ∃ o c', k = ZX b0 o (code c') ∧ ZaO (code c) o c'.length = some c'
  ·rw [dif_pos hd] at h; injection h with h; exact .inr ⟨h.symm, hd⟩
  ·rw [dif_neg hd] at h; cases h
theorem ZrR {post : List (Option AObj)} {o : AObj} : lkO (post ++ [some o]) post.length = some o := by simp [lkO]
theorem ZdK {post : List (Option AObj)} {x : Option AObj} {k : Nat} {o : AObj} (h : lkO post k = some o) : k < post.length ∧ lkO (post ++ [x]) k = some o := by
 unfold lkO at h ⊢
 cases hx : post[k]? with
 | none => rw [hx] at h; cases h
 | some y =>
  have hk := (List.getElem?_eq_some_iff.1 hx).1
  exact ⟨hk, by rw [List.getElem?_append_left hk]; exact h⟩
theorem Zh1 {post : List (Option AObj)} {x : Option AObj} {k : Nat} (h : isC (lkO post k) = true) : k < post.length ∧ isC (lkO (post ++ [x]) k) = true := by
 cases ho : lkO post k with
 | none => rw [ho] at h; cases h
 | some o => obtain ⟨h1, h2⟩ := ZdK (x := x) ho; rw [ho] at h; exact ⟨h1, by rw [h2]; exact h⟩
noncomputable def ιTr (ι : Ren) (m : Nat) : Ren := fun k => @ite _ (k < m ∨ ZbF k) (Classical.propDecidable _) (ι k) none
theorem ιTr_yes {ι : Ren} {m k : Nat} (h : k < m ∨ ZbF k) : ιTr ι m k = ι k := by unfold ιTr; rw [if_pos h]
theorem ιTr_inv {ι : Ren} {m k : Nat} {q : Nat × Nat} (h : ιTr ι m k = some q) : (k < m ∨ ZbF k) ∧ ι k = some q := by
 by_cases hk : k < m ∨ ZbF k
 ·rw [ιTr_yes hk] at h; exact ⟨hk, h⟩
 ·unfold ιTr at h
  rw [if_neg hk] at h; cases h
theorem ZxO {ι : Ren} {w w' : World} {e : Ending} {pre : List AObj} {v v2 : Value} {post : List (Option AObj)} {c : List Cell} {t : TypeId} {q0 : Bool} (hd : ∀ k, ι k ≠ none → k < pre.length ∨ ZbF k) (hfin : Fin P ι pre w v (post ++ [some (.cells (Zu c) t q0)]) e w') (hpre : pre.length ≤ post.length) (hle : post.length < 1000000000) (hUA : ZjG post.length post) (hz : ZbL v = false)
  (hv : ∀ (ι ι2 : Ren) v', (∀ k b, k < post.length ∨ ZbF k → ι k = some b → ι2 k = some b) → (∀ b, ι post.length = some b → (∃ q, ι2 (ZX b.1 0 (code c)) = some q) ∨ c = [] ∧ b.2 = 0) → VR ι v v' → VR ι2 v2 v') : Fin P ι pre w v2 post e w' := by
 rcases hfin with ⟨v', ι', rfl, hS, hdm, hvr⟩ | ⟨hz', _⟩
 rotate_left
 ·rw [hz] at hz'; cases hz'
 obtain ⟨b0, q1, hz0⟩ := hS.emb.obj post.length (Zu c) t q0 ZrR
 rcases hz0 with ⟨_, hc0, hb0⟩ | ⟨hC0, C, q2, q3, q4⟩
 ·have hb : ∀ k b, (ιTr ι' post.length) k = some b → (k < post.length ∨ ZbF k) ∧ ι' k = some b := fun k b h => ιTr_inv h
  have hι : ∀ k b, k < post.length ∨ ZbF k → ι' k = some b → (ιTr ι' post.length) k = some b := fun k b hk h => (ιTr_yes hk).trans h
  have hce : c = [] := by
   unfold Zu at hc0
   exact List.map_eq_nil_iff.1 hc0
  have hmk : ∀ b base id q, ι' (ZX b base id) = some q → (ιTr ι' post.length) (ZX b base id) = some q := fun b base id q h => hι _ _ (.inr (Zg7 _ _ _)) h
  refine .inl ⟨v', (ιTr ι' post.length), rfl, ⟨fun k b hb' => hι k b ((hd k (by rw [hb']; simp)).imp (fun q => by omega) id) (hS.ext k b hb'), ⟨fun k c' t' q' hk => ?_, fun k O hk => ?_, fun k k' b b' h1 h2 h3 h4 h5 => ?_, fun k b h => hS.emb.lt k b (hb k b h).2, fun b base id q hq => ?_, fun x hx => (hS.emb.tb x hx).imp fun q hq => hmk _ _ _ _ hq⟩, hS.os, hS.tape, hS.output, hS.size, hS.frame, fun k b h1 h2 => hS.new k b h1 (hb k b h2).2, fun k h1 h2 => ?_, fun k h1 h2 => hS.kind k (Zh1 h1).2 h2⟩, fun k hk => ?_, hv ι' _ v' hι (fun b h => ?_) hvr⟩
  ·obtain ⟨hk1, hk2⟩ := ZdK (x := some (.cells (Zu c) t q0)) hk
   obtain ⟨b, r1, hz⟩ := hS.emb.obj k c' t' q' hk2
   have hcs : Zw (ZaM post.length 1) c' = true := ZkY hUA k (.cells c' t' q') hk
   exact ⟨b, hι k b (.inl hk1) r1, hz.imp id fun ⟨q0, D, r2, r3, r4⟩ => ⟨q0, D, r2, ⟨r3.1, fun i x y hx hy => VR.cutT hι 1 x y (r3.2 i x y hx hy) (Zao hcs x (List.mem_of_getElem? hx))⟩, r4⟩⟩
  ·obtain ⟨hk1, hk2⟩ := ZdK (x := some (.cells (Zu c) t q0)) hk
   obtain ⟨b, r1, r2⟩ := hS.emb.ro k O hk2
   exact ⟨b, hι k b (.inl hk1) r1, r2⟩
  ·obtain ⟨g1, g2⟩ := Zh1 (x := some (.cells (Zu c) t q0)) h1
   cases ho : lkO post k' with
   | none => rw [ho] at h2; cases h2
   | some o =>
    obtain ⟨g3, g4⟩ := ZdK (x := some (.cells (Zu c) t q0)) ho
    exact hS.emb.inj k k' b b' g2 (by rw [g4]; rw [ho] at h2; exact h2) (hb k b h3).2 (hb k' b' h4).2 h5
  ·obtain ⟨m1, m2, m3⟩ := hS.emb.mks b base id q (hb _ _ hq).2
   exact ⟨m1, ⟨m2.1.on hmk, fun o c' hc => hmk _ _ _ _ (m2.2 o c' hc)⟩, fun k d hk hd2 => m3 k d (Zh1 hk).2 (hb k d hd2).2⟩
  ·cases ho : lkO post k with
   | none => rw [ho] at h1; cases h1
   | some o => exact hS.alive k (by rw [(ZdK (x := some (.cells (Zu c) t q0)) ho).2]; rw [ho] at h1; exact h1) h2
  ·cases hq : (ιTr ι' post.length) k with
   | none => exact absurd hq hk
   | some q => exact (hb k q hq).1.imp id fun h => h.1
  ·rw [q1] at h
   injection h with h
   subst h
   exact .inr ⟨hce, hb0⟩
 obtain ⟨fr0, q20, _⟩ := q2
 have hC0 : isC (lkO (post ++ [some (.cells (Zu c) t q0)]) post.length) = true := by rw [ZrR]; exact hC0
 have hno : ∀ base id, ι' (ZX b0.1 base id) = none := fun base id => by
  cases hm : ι' (ZX b0.1 base id) with
  | none => rfl
  | some q => exact absurd rfl ((hS.emb.mks _ _ _ _ hm).2.2 _ _ hC0 q1)
 have hι : ∀ k b, k < post.length ∨ ZbF k → ι' k = some b → ιFt ι' post.length b0.1 c k = some b := fun k b hk hb => by
  rw [ιFt_old (hk.imp id fun q => ⟨q, by rw [hb]; simp⟩)]; exact hb
 have hself : ZaO (code c) 0 c.length = some c := ZrQ (by simp) (by simp)
 have hj : ι post.length = none := by
  cases hk : ι post.length with
  | none => rfl
  | some b => exact absurd (hd post.length (by rw [hk]; simp)) (by unfold ZbF; omega)
 have hnew : w.heap.size ≤ b0.1 ∨ ∃ i d, isC (lk pre i) = true ∧ ι i = some d ∧ d.1 = b0.1 := hS.new _ _ hj q1
 have hlow : ∀ k b, k < post.length → ιFt ι' post.length b0.1 c k = some b → ι' k = some b := fun k b hk hb => by
  rwa [ιFt_old (.inl hk)] at hb
 refine .inl ⟨v', ιFt ι' post.length b0.1 c, rfl, ⟨fun k b hb => hι k b ((hd k (by rw [hb]; simp)).imp (fun q => by omega) id) (hS.ext k b hb), ⟨fun k c' t' q' hk => ?_, fun k O hk => ?_, fun k k' b b' h1 h2 h3 h4 h5 => ?_, fun k b hb => ?_, fun b base id q hq => ?_, fun x hx => (hS.emb.tb x hx).imp fun q hq => hι _ _ (.inr (Zg7 x.1 0 (code x.2))) hq⟩, hS.os, hS.tape, hS.output, hS.size, hS.frame, fun k b h1 h2 => ?_, fun k h1 h2 => ?_, fun k h1 h2 => ?_⟩, fun k hk => ?_, hv ι' _ v' hι (fun b hb => ?_) hvr⟩
 ·obtain ⟨hk1, hk2⟩ := ZdK (x := some (.cells (Zu c) t q0)) hk
  obtain ⟨b, r1, hz⟩ := hS.emb.obj k c' t' q' hk2
  have hcs : Zw (ZaM post.length 1) c' = true := ZkY hUA k (.cells c' t' q') hk
  exact ⟨b, hι k b (.inl hk1) r1, hz.imp id fun ⟨q0, D, r2, r3, r4⟩ => ⟨q0, D, r2, ⟨r3.1, fun i x y hx hy => VR.cutT hι 1 x y (r3.2 i x y hx hy) (Zao hcs x (List.mem_of_getElem? hx))⟩, r4⟩⟩
 ·obtain ⟨hk1, hk2⟩ := ZdK (x := some (.cells (Zu c) t q0)) hk
  obtain ⟨b, r1, r2⟩ := hS.emb.ro k O hk2
  exact ⟨b, hι k b (.inl hk1) r1, r2⟩
 ·obtain ⟨g1, g2⟩ := Zh1 (x := some (.cells (Zu c) t q0)) h1
  cases ho : lkO post k' with
  | none => rw [ho] at h2; cases h2
  | some o =>
   obtain ⟨g3, g4⟩ := ZdK (x := some (.cells (Zu c) t q0)) ho
   exact hS.emb.inj k k' b b' g2 (by rw [g4]; rw [ho] at h2; exact h2) (hlow k b g1 h3) (hlow k' b' g3 h4) h5
 ·rcases ιFt_inv hb with ⟨_, h2⟩ | ⟨rfl, _⟩
  ·exact hS.emb.lt k b h2
  ·exact (show b0.1 < _ from hS.emb.lt _ _ q1)
 ·have hmk : ∀ b base id q, ι' (ZX b base id) = some q → ιFt ι' post.length b0.1 c (ZX b base id) = some q := fun b base id q h => hι _ _ (.inr (Zg7 _ _ _)) h
  have hiso : ∀ k d, isC (lkO post k) = true → ιFt ι' post.length b0.1 c k = some d → d.1 ≠ b0.1 := fun k d hk hd2 hb => by
   obtain ⟨g1, g2⟩ := Zh1 (x := some (.cells (Zu c) t q0)) hk
   have := hS.emb.inj k post.length d b0 g2 (ZeI hC0) (hlow k d g1 hd2) q1 hb
   omega
  rcases ιFt_inv hq with ⟨_, h2⟩ | ⟨rfl, o, c', hk, hg⟩
  ·obtain ⟨m1, m2, m3⟩ := hS.emb.mks b base id q h2
   refine ⟨m1, ⟨m2.1.on hmk, fun o c' hc => hmk _ _ _ _ (m2.2 o c' hc)⟩, fun k d hk hd2 => ?_⟩
   obtain ⟨g1, g2⟩ := Zh1 (x := some (.cells (Zu c) t q0)) hk
   exact m3 k d g2 (hlow k d g1 hd2)
  ·obtain ⟨rfl, rfl, rfl⟩ := Znn hk
   obtain ⟨a1, a2⟩ := ZkZ hg
   rw [List.length_drop] at a2
   have hsz : (Zu c).length = c.length := by simp [Zu]
   refine ⟨rfl, ⟨⟨c', C, t, fr0, Zc1 c', q20, fun hp => by have := q3.1; omega, fun i x y hx hy => ?_, fun x hx hb => by
    obtain ⟨q, hq⟩ := hS.emb.tb x hx
    exact absurd hb.symm ((hS.emb.mks _ _ _ _ hq).2.2 _ _ hC0 q1)⟩, fun o2 c2 hc2 => ιFt_new (by omega) (hno _ _) (ZwO hg hc2)⟩, hiso⟩
   have hi : i < c'.length := by
    have := (List.getElem?_eq_some_iff.1 hx).1
    simpa [Zu] using this
   have hx2 : (Zu c)[base + i]? = some x := by
    unfold Zu at hx ⊢
    rw [List.getElem?_map] at hx ⊢
    rw [a1, List.getElem?_take_of_lt hi, List.getElem?_drop] at hx
    exact hx
   have hv2 := q3.2 (base + i) x y hx2 hy
   unfold Zu at hx2
   rw [List.getElem?_map] at hx2
   cases hz : c[base + i]? with
   | none => rw [hz] at hx2; cases hx2
   | some z =>
    rw [hz] at hx2
    injection hx2 with hx2
    subst hx2
    exact ZqW hmk hv2
 ·rcases ιFt_inv h2 with ⟨_, h3⟩ | ⟨rfl, _⟩
  ·exact hS.new k b h1 h3
  ·exact hnew
 ·cases ho : lkO post k with
  | none => rw [ho] at h1; cases h1
  | some o => exact hS.alive k (by rw [(ZdK (x := some (.cells (Zu c) t q0)) ho).2]; rw [ho] at h1; exact h1) h2
 ·exact hS.kind k (Zh1 h1).2 h2
 ·cases hq : ιFt ι' post.length b0.1 c k with
  | none => exact absurd hq hk
  | some q =>
   rcases ιFt_inv hq with ⟨h1 | ⟨h1, _⟩, _⟩ | ⟨_, o, c', rfl, _⟩
   ·exact .inl h1
   ·exact .inr h1.1
   ·exact .inr (Zfb _ _ _).1
 ·obtain rfl : b = b0 := by rw [q1] at hb; injection hb with hb; exact hb.symm
  exact .inl ⟨_, ιFt_new (by omega) (hno _ _) hself⟩
theorem ZxP {α : Type} {E : Enc α} {L : List α} {j : Nat} {ι ι2 : Ren} {v' : Value} (hw : 0 < E.w) (hb : ∀ b, ι j = some b → (∃ q, ι2 (ZX b.1 0 (code (ZaA E L))) = some q) ∨ ZaA E L = [] ∧ b.2 = 0) (hv : VR ι (.slice (some ⟨j, 0, none⟩) L.length L.length) v') : VR ι2 (ms E L) v' := by
 generalize hn : L.length = n at hv
 cases hv with
 | atom h => cases h
 | slice h1 h2 h3 h4 =>
  subst hn
  rcases hb _ h1 with ⟨q, hq⟩ | ⟨h0, h5⟩
  ·have := VR.mslice (ι := ι2) (base := 0) (o := 0) (z := 0) hq h2 h3
   exact this
  ·have hL : L = [] := by
    cases L with
    | nil => rfl
    | cons x l =>
     have h6 := congrArg List.length h0
     have h7 := E.clen x
     simp [ZaA] at h6
     rw [h6.1] at h7
     simp at h7
     omega
   subst hL
   rename_i c'
   have h8 := h4 rfl
   rw [h5] at h8
   have h9 : c' = 0 := by
    rcases h8 with h8 | h8
    ·simp at h8; exact h8
    ·omega
   subst h9
   exact .slice0 fun h => by cases h
 | slice0 h =>
  have hL : L = [] := List.length_eq_zero_iff.1 hn
  subst hL
  exact .slice0 h
theorem LSpec.frqt {α : Type} {E : Enc α} {L : List α} {f : FuncId} {A : Array Value} {pre : List AObj} {post : List (Option AObj)} {t : TypeId} {q0 : Bool} {n m : Nat} {l : List Value} (h : LSpec P f A pre (.tuple (Value.slice (some ⟨post.length, 0, none⟩) n m :: l).toArray) (post ++ [some (.cells (Zg E L) t q0)])) (hpre : pre.length ≤ post.length) (hle : post.length < 1000000000) (hUA : ZjG post.length post) (hw : 0 < E.w) (hl : Zw atom l = true) (hn : n = L.length) (hm : m = L.length) : LSpec P f A pre (.tuple (ms E L :: l).toArray) post := by
 subst hn hm
 intro ι w args' hd ha he
 refine (h ι w args' hd ha he).mono fun e w' hf => ?_
 rw [ZuA] at hf
 refine ZxO hd hf hpre hle hUA rfl fun ι ι2 v' hk hb hv => ?_
 cases hv with
 | atom h => cases h
 | tuple hs h1 =>
  rename_i a'
  refine .tuple (by simpa using hs) fun i x y hx hy => ?_
  cases i with
  | zero =>
   have e : x = ms E L := by simpa using hx.symm
   subst e
   exact ZxP hw hb (h1 0 _ y (by simp) hy)
  | succ i =>
   have hx' : l[i]? = some x := by simpa using hx
   have h2 := h1 (i + 1) x y (by simpa using hx') hy
   have ha := Zao hl x (List.mem_of_getElem? hx')
   rw [VR.eq_of_atom ha h2]
   exact .atom ha
end
end Ev
end Go.Proofs.YtlbbiflodemagaaDoor
/- awake's parts. -/
namespace Go.Proofs.YtlbbiflodemagaaDoor
open Go.RowKit
namespace Ev
set_option linter.unusedVariables false
def Zor : List Value := [.int .i64 9, .int .i64 1, .int .i64 0, .int .i64 0, .int .i64 20, .int .i64 0, .int .i64 0, .int .i64 0]
theorem ZuB : LSpec Tryd.prog 9 #[Value.string ⟨#[58, 97, 103, 97, 105, 110, 10, 106, 117, 109, 112, 122, 32, 114, 49, 32, 64, 97, 103, 97, 105, 110, 10, 104, 97, 108, 116, 10]⟩] [] (.tuple #[.slice (some ⟨0, 0, none⟩) 2 2, .int .i64 0, .int .i64 0]) [some (.cells Zor 24)] := by
 refine (Zku fit (R := Unit) (r := ()) (V := fun _ => .tuple #[.slice (some ⟨0, 0, none⟩) 2 2, .int .i64 0, .int .i64 0]) (Po := fun _ => [some (.cells Zor 24)]) (fu := 3000) (orc := ⟨[], [], [], [], []⟩) (live := [82]) (u := .tuple #[.slice (some ⟨82, 0, none⟩) 2 2, .int .i64 0, .int .i64 0]) (bl := [some (.cells Zor 24)]) (ob := []) (by kernel_rfl) (by intro p hp; cases hp) rfl (by decide) (by rfl) ⟨by rfl, by rfl⟩ ?_ (by decide)) () rfl
 exact ⟨⟨rfl, ⟨[], rfl⟩, rfl⟩, trivial⟩
end Ev
end Go.Proofs.YtlbbiflodemagaaDoor
/- awake's parts. -/
namespace Go.Proofs.YtlbbiflodemagaaDoor
open Go.RowKit
namespace Ev
set_option linter.unusedVariables false
theorem ZuC : LSpec Tryd.prog 9 #[Value.string ⟨#[10, 104, 97, 108, 116, 32, 114, 49, 10]⟩] [] (.tuple #[.slice none 0 0, .int .i64 2, .int .i64 130]) [] := by
 exact (Zku fit (R := Unit) (r := ()) (V := fun _ => .tuple #[.slice none 0 0, .int .i64 2, .int .i64 130]) (Po := fun _ => []) (fu := 3000) (orc := ⟨[], [], [], [], []⟩) (live := []) (u := .tuple #[.slice none 0 0, .int .i64 2, .int .i64 130]) (bl := []) (ob := []) (by kernel_rfl) (by intro p hp; cases hp) rfl (by decide) (by rfl) ⟨by rfl, by rfl⟩ trivial (by decide)) () rfl
end Ev
end Go.Proofs.YtlbbiflodemagaaDoor
/- awake's parts. -/
namespace Go.Proofs.YtlbbiflodemagaaDoor
open Go.RowKit
namespace Ev
set_option linter.unusedVariables false
noncomputable def Zta (n : Nat) : Za5 := .call [] (.tuple #[.slice (some ⟨n, 0, none⟩) 2 2, .int .i64 0, .int .i64 0]) [(n, some (.cells Zor 24))] 1
def ZrS (n : Nat) : Prop := Z3 Tryd.prog 9 #[Value.string ⟨#[58, 97, 103, 97, 105, 110, 10, 106, 117, 109, 112, 122, 32, 114, 49, 32, 64, 97, 103, 97, 105, 110, 10, 104, 97, 108, 116, 10]⟩] [] (.tuple #[.slice (some ⟨n, 0, none⟩) 2 2, .int .i64 0, .int .i64 0]) [(n, some (.cells Zor 24))] n 1
theorem ZvM (n : Nat) : ZrS n :=
 LSpec.callL ZuB [] n [0] rfl (by decide) (fun k hk => by cases hk) (by decide) (by decide) (by rfl) trivial (by rfl) ⟨by rfl, trivial⟩ ⟨by decide, trivial⟩ rfl rfl rfl rfl rfl
noncomputable def Ztb : Za5 := .call [] (.tuple #[.slice none 0 0, .int .i64 2, .int .i64 130]) [] 0
def ZrT (n : Nat) : Prop := Z3 Tryd.prog 9 #[Value.string ⟨#[10, 104, 97, 108, 116, 32, 114, 49, 10]⟩] [] (.tuple #[.slice none 0 0, .int .i64 2, .int .i64 130]) [] n 0
theorem ZvN (n : Nat) : ZrT n :=
 LSpec.callL ZuC [] n [] rfl (by decide) (fun k hk => by cases hk) (by decide) (by decide) (by rfl) trivial (by rfl) trivial trivial rfl rfl rfl rfl rfl
end Ev
end Go.Proofs.YtlbbiflodemagaaDoor
/- Records, and the program's functions as plain ones. -/
namespace Go.Proofs.YtlbbiflodemagaaDoor
open Go.RowKit
namespace Ev
set_option linter.unusedVariables false
inductive Zeo where
 | r0

def ZjQ  (N : Nat) : Option Zeo :=
 some (.r0 : Zeo)
end Ev
end Go.Proofs.YtlbbiflodemagaaDoor
/- How records are written, and which functions are told. -/
namespace Go.Proofs.YtlbbiflodemagaaDoor
open Go.RowKit
namespace Ev
set_option linter.unusedVariables false
theorem Zh2 {P : Program} {ext : FuncId → Option Ext} (F : Fit P ext) (p : FuncId → Bool) : Fit P (fun f => bif p f then none else ext f) :=
 have h : ∀ f e, (bif p f then none else ext f) = some e → ext f = some e := fun f e h => by cases hp : p f <;> rw [hp] at h <;> first | cases h; done | exact h
 ⟨F.mixed, F.go, fun f g e => F.fn f g (h _ _ e), fun f g e => F.hp f g (h _ _ e), fun f S e => F.tc f S (h _ _ e), fun f n e => F.mark f n (h _ _ e), fun f k e' he => F.ext f k e' (h _ _ he)⟩
theorem toL_inj {a b : ByteArray} : (a.toList == b.toList) = (a == b) := (beq_toListBytes a b).symm
theorem ZvO (ns : List Int) : ∀ acc : ByteArray, (ns.foldl (fun r n => r.push (UInt8.ofNat n.toNat)) acc).data = acc.data ++ (ns.map fun n => UInt8.ofNat n.toNat).toArray := by
 induction ns with
 | nil => intro acc; simp
 | cons n ns ih => intro acc; rw [List.foldl_cons, ih]; simp [ByteArray.push]
theorem Zi4 (ns : List Int) : (Zb ns).data = (ns.map fun n => UInt8.ofNat n.toNat).toArray := by
 unfold Zb; rw [ZvO]; simp
theorem ZhS (a b : List Int) : Zb a ++ Zb b = Zb (a ++ b) := by
 apply ByteArray.ext
 rw [ByteArray.data_append, Zi4, Zi4, Zi4]; simp
theorem Zbx {x y : List Int} (h : x.length + y.length ≤ 1000000) : (((Zb x).size + (Zb y).size : Nat) : Int) ≤ IntKind.i64.max := by
 have e : ∀ l : List Int, (Zb l).size = l.length := fun l => by
  show (Zb l).data.size = l.length
  rw [Zi4]; simp
 rw [e, e]
 have : IntKind.i64.max = 9223372036854775807 := by decide
 omega
theorem Zbw {x y : List Int} (h : Zaa x y = true) : ((Zb x).toList == (Zb y).toList) = true := toL_inj.trans h
theorem ZaW {x y : List Int} (h : ¬ (Zaa x y = true)) : ((Zb x).toList == (Zb y).toList) = false := toL_inj.trans (Bool.eq_false_iff.2 h)
theorem Zyw {x y : List Int} (h : ¬ (Zaa x y = true)) : (!((Zb x).toList == (Zb y).toList)) = true := by rw [ZaW h]; rfl
theorem ZrU {x y : List Int} (h : Zaa x y = true) : (!((Zb x).toList == (Zb y).toList)) = false := by rw [Zbw h]; rfl
theorem sm {ρ : Nat → Nat} {o p : AObj} (h : Zhw ρ o p := by exact ⟨rfl, ⟨[], by rfl⟩, by rfl⟩) : Zhw ρ o p := h
abbrev vq : Value := .int .i64 0
abbrev vf : Value := .bool false
abbrev vT : Value := .bool true
abbrev vn : Value := .slice none 0 0
abbrev vtt : Value := .tuple #[]
noncomputable abbrev dS {α : Type} (a : α) : Bool := dP (a = a)
theorem ltA {p : Prop} (h : p := by first | omega | (simp only [List.length_set, List.length_append, List.length_cons, List.length_nil, List.length_replicate, List.length_take, List.length_drop] at * <;> omega)) : p := h
theorem eqA {p : Prop} (h : p := by first | rfl | omega | (simp only [List.length_set, List.length_append, List.length_cons, List.length_nil, List.length_replicate, List.length_take, List.length_drop] at * <;> omega)) : p := h
theorem rr {p q : Prop} (h : p := by rfl) (h2 : q := by rfl) : p ∧ q := ⟨h, h2⟩
section
variable {l : List (Bool × Bool)}
theorem oT {a b : Int} (hl : ∀ q ∈ l, q.1 = q.2) (h : a = b := by omega) : ∀ q ∈ ((a == b), true) :: l, q.1 = q.2 := Za (bT h) hl
theorem oF {a b : Int} (hl : ∀ q ∈ l, q.1 = q.2) (h : ¬ a = b := by omega) : ∀ q ∈ ((a == b), false) :: l, q.1 = q.2 := Za (bF h) hl
theorem oD {a b : Int} (hl : ∀ q ∈ l, q.1 = q.2) (h : a ≠ b := by omega) : ∀ q ∈ ((a != b), true) :: l, q.1 = q.2 := Za (bne_iff_ne.2 h) hl
theorem oE {a b : Int} (hl : ∀ q ∈ l, q.1 = q.2) (h : a = b := by omega) : ∀ q ∈ ((a != b), false) :: l, q.1 = q.2 := Za (bne_eq_false_iff_eq.2 h) hl
theorem oY {p : Prop} [Decidable p] (hl : ∀ q ∈ l, q.1 = q.2) (h : p := by omega) : ∀ q ∈ (decide p, true) :: l, q.1 = q.2 := Za (decide_eq_true h) hl
theorem oN {p : Prop} [Decidable p] (hl : ∀ q ∈ l, q.1 = q.2) (h : ¬ p := by omega) : ∀ q ∈ (decide p, false) :: l, q.1 = q.2 := Za (decide_eq_false h) hl
theorem oR {α : Type} {a b : α} (hl : ∀ q ∈ l, q.1 = q.2) (h : a = b := by rfl) : ∀ q ∈ (dP (a = b), true) :: l, q.1 = q.2 := Za (Zj h) hl
theorem oB {a b : Nat} (hl : ∀ q ∈ l, q.1 = q.2) (h : a < b := by omega) : ∀ q ∈ (Nat.blt a b, true) :: l, q.1 = q.2 := Za (ZvB h) hl
theorem oL {a b : Nat} (hl : ∀ q ∈ l, q.1 = q.2) (h : a < b := by first | omega | (simp only [List.length_set, List.length_append, List.length_cons, List.length_nil, List.length_replicate, List.length_take, List.length_drop] at * <;> omega)) : ∀ q ∈ (Nat.blt a b, true) :: l, q.1 = q.2 := Za (ZvB h) hl
theorem oI {a b : Int} (hl : ∀ q ∈ l, q.1 = q.2) (h : a = b := by first | rfl | exact Zgc (by omega)) : ∀ q ∈ ((a == b), true) :: l, q.1 = q.2 := Za (bT h) hl
end
def Zxo : FuncId → Bool := fun f => Nat.beq f 9 || Nat.beq f 8
noncomputable def ZvP : FuncId → Option Ext := ZlO (Zr7 Zu2) Zxo
theorem Zyx : Fit Tryd.prog ZvP := Zr8 (Zu4 ZoZ) (fun f h => by
 simp only [Zxo, Bool.or_eq_true] at h
 simp only [Nat.beq_eq] at h
 rcases h with rfl | rfl
 ·exact ⟨_, _, Tryd.func9, rfl⟩
 ·exact ⟨_, _, Tryd.func8, rfl⟩
 )
end Ev
end Go.Proofs.YtlbbiflodemagaaDoor
/- Calls do what the plain functions say. -/
namespace Go.Proofs.YtlbbiflodemagaaDoor
open Go.RowKit
namespace Ev
set_option linter.unusedVariables false
set_option maxRecDepth 100000
noncomputable def ZlZ  : Zeo → Value
 | .r0 => vT
noncomputable def Zlm  : Zeo → List (Option AObj)
 | .r0 => []

theorem Zpd  (N : Nat) : Fx Tryd.prog ZvP Tryd.f8 [] #[] (ZlZ ) (Zlm ) (ZjQ  N) := by
 unfold ZjQ
 exact ZvF (r := (.r0 : Zeo)) (fu := 4000) (orc := (Zp [] [] [] [] [(0, (Zta 0)), (40, Ztb)])) (live := []) (u := vT) (bl := []) (ob := [(dP (ZrT 50), true), (dP (((((Zb ([(104 : Int), (97 : Int), (108 : Int), (116 : Int)] : List Int))).size + ((Zb ([(10 : Int)] : List Int))).size : Nat) : Int) ≤ IntKind.i64.max), true), (dP (((((Zb ([(106 : Int), (117 : Int), (109 : Int), (112 : Int), (122 : Int), (32 : Int), (114 : Int), (49 : Int), (32 : Int), (64 : Int), (76 : Int), (48 : Int)] : List Int))).size + ((Zb ([(10 : Int)] : List Int))).size : Nat) : Int) ≤ IntKind.i64.max), true), (dP (((((Zb ([(64 : Int)] : List Int))).size + ((Zb ([(76 : Int), (48 : Int)] : List Int))).size : Nat) : Int) ≤ IntKind.i64.max), true), (dP (((((Zb ([(76 : Int)] : List Int))).size + ((Zb ([(48 : Int)] : List Int))).size : Nat) : Int) ≤ IntKind.i64.max), true), (dP (((((Zb ([(114 : Int)] : List Int))).size + ((Zb ([(49 : Int)] : List Int))).size : Nat) : Int) ≤ IntKind.i64.max), true), (dP (((((Zb ([(58 : Int), (76 : Int), (48 : Int)] : List Int))).size + ((Zb ([(10 : Int)] : List Int))).size : Nat) : Int) ≤ IntKind.i64.max), true), (dP (((((Zb ([(58 : Int)] : List Int))).size + ((Zb ([(76 : Int), (48 : Int)] : List Int))).size : Nat) : Int) ≤ IntKind.i64.max), true), (dP (((((Zb ([(76 : Int)] : List Int))).size + ((Zb ([(48 : Int)] : List Int))).size : Nat) : Int) ≤ IntKind.i64.max), true), (dP (ZrS 0), true)]) (by kernel_rfl) (Za (Zj (ZvN 50)) <| Za (Zj (by first | exact Zbx (x := ([(104 : Int), (97 : Int), (108 : Int), (116 : Int)] : List Int)) (y := ([(10 : Int)] : List Int)) ltA | (simp only [ZhS, List.append_nil, List.nil_append]; exact Zbx ltA))) <| Za (Zj (by first | exact Zbx (x := ([(106 : Int), (117 : Int), (109 : Int), (112 : Int), (122 : Int), (32 : Int), (114 : Int), (49 : Int), (32 : Int), (64 : Int), (76 : Int), (48 : Int)] : List Int)) (y := ([(10 : Int)] : List Int)) ltA | (simp only [ZhS, List.append_nil, List.nil_append]; exact Zbx ltA))) <| Za (Zj (by first | exact Zbx (x := ([(64 : Int)] : List Int)) (y := ([(76 : Int), (48 : Int)] : List Int)) ltA | (simp only [ZhS, List.append_nil, List.nil_append]; exact Zbx ltA))) <| Za (Zj (by first | exact Zbx (x := ([(76 : Int)] : List Int)) (y := ([(48 : Int)] : List Int)) ltA | (simp only [ZhS, List.append_nil, List.nil_append]; exact Zbx ltA))) <| Za (Zj (by first | exact Zbx (x := ([(114 : Int)] : List Int)) (y := ([(49 : Int)] : List Int)) ltA | (simp only [ZhS, List.append_nil, List.nil_append]; exact Zbx ltA))) <| Za (Zj (by first | exact Zbx (x := ([(58 : Int), (76 : Int), (48 : Int)] : List Int)) (y := ([(10 : Int)] : List Int)) ltA | (simp only [ZhS, List.append_nil, List.nil_append]; exact Zbx ltA))) <| Za (Zj (by first | exact Zbx (x := ([(58 : Int)] : List Int)) (y := ([(76 : Int), (48 : Int)] : List Int)) ltA | (simp only [ZhS, List.append_nil, List.nil_append]; exact Zbx ltA))) <| Za (Zj (by first | exact Zbx (x := ([(76 : Int)] : List Int)) (y := ([(48 : Int)] : List Int)) ltA | (simp only [ZhS, List.append_nil, List.nil_append]; exact Zbx ltA))) <| Za (Zj (ZvM 0)) Z6) rfl (by decide) (by rfl) rr trivial

theorem Zn3  (N : Nat) (r : Zeo) (h : ZjQ  N = some r) : LSpec Tryd.prog 8 #[] [] (ZlZ  r) (Zlm  r) :=
 Zm1 Zyx Tryd.func8 (by kernel_rfl) (by kernel_rfl) (fun r => by cases r <;> exact ZaV _ rfl) (Zpd  N) h

end Ev
end Go.Proofs.YtlbbiflodemagaaDoor
/- awake's parts. -/
namespace Go.Proofs.YtlbbiflodemagaaDoor
open Go.RowKit
namespace Ev
set_option linter.unusedVariables false
theorem ZtA (w : World) (ht : TabW w) : Calls Tryd.prog 8 #[] w (Ret (.bool true) w) :=
 ZvC (Zn3 0 .r0 rfl) Ztw rfl
end Ev
end Go.Proofs.YtlbbiflodemagaaDoor
/- Records, and the program's functions as plain ones. -/
namespace Go.Proofs.YtlbbiflodemagaaDoor
open Go.RowKit
namespace Ev
set_option linter.unusedVariables false
structure RA where
 a0 : Int
 a1 : Int
 a2 : Int
 a3 : Int
def RA.z : RA := ⟨0, 0, 0, 0⟩
structure R_is where
 a0 : Int
 a1 : List Int
def R_is.z : R_is := ⟨0, []⟩
structure R_si where
 a0 : List Int
 a1 : Int
def R_si.z : R_si := ⟨[], 0⟩
def Zba (L : List R_si) (k : List Int) : Bool := L.any fun x => Zaa k x.a0
def Z2 (L : List R_si) (k : List Int) : Int := match L.find? (fun x => Zaa k x.a0) with | some x => x.a1 | none => 0
def ZaS : List R_si → List Int → Int → List R_si
 | [], k, v => [⟨k, v⟩]
 | x :: L, k, v => if Zaa k x.a0 = true then ⟨k, v⟩ :: L else x :: ZaS L k v
abbrev wds (M : List Int) : List (List Int) := ZD (32 : Int) M
abbrev wd (M : List Int) (k : Nat) : List Int := (wds M).getD k []
abbrev ai (v : List RA) (k : Nat) : RA := v.getD k RA.z
abbrev aj (v : List R_is) (k : Nat) : R_is := v.getD k R_is.z
abbrev aiA (v : List RA) (k : Nat) (M : List R_si) (j : List R_is) (o : Nat) : RA := ⟨(ai v k).a0, Z2 M (aj j o).a1, (ai v k).a2, (ai v k).a3⟩
abbrev aiB (v : List RA) (k : Nat) (M : List R_si) (j : List R_is) (o : Nat) : RA := ⟨(ai v k).a0, (ai v k).a1, Z2 M (aj j o).a1, (ai v k).a3⟩
abbrev aiC (v : List RA) (k : Nat) : RA := ⟨(ai v k).a0, (ai v k).a1, (ai v k).a2, (ai v k).a3⟩
inductive Zak where
 | r0 (w0 : Bool)

inductive Zal where
 | h1m0 (v2 : Nat)

def ZbX (L0 : List Int) (N : Nat) (v2 : Nat) : Option (Zal ⊕ Zak) :=
 if (v2 : Int) < (L0.length : Int) then
  if (97 : Int) ≤ (L0.getD v2 0) then
   if (L0.getD v2 0) ≤ 122 then
    if (((v2 + 1) : Nat) : Int) ≤ 9223372036854775807 then
     some (.inl (.h1m0 ((v2 + 1)) : Zal))
    else
    none
   else
   some (.inr (.r0 (false) : Zak))
  else
  if (65 : Int) ≤ (L0.getD v2 0) then
   if (L0.getD v2 0) ≤ 90 then
    if (((v2 + 1) : Nat) : Int) ≤ 9223372036854775807 then
     some (.inl (.h1m0 ((v2 + 1)) : Zal))
    else
    none
   else
   if (L0.getD v2 0) = 95 then
    if (((v2 + 1) : Nat) : Int) ≤ 9223372036854775807 then
     some (.inl (.h1m0 ((v2 + 1)) : Zal))
    else
    none
   else
   some (.inr (.r0 (false) : Zak))
  else
  if (48 : Int) ≤ (L0.getD v2 0) then
   if (L0.getD v2 0) ≤ 57 then
    if (((v2 + 1) : Nat) : Int) ≤ 9223372036854775807 then
     some (.inl (.h1m0 ((v2 + 1)) : Zal))
    else
    none
   else
   some (.inr (.r0 (false) : Zak))
  else
  some (.inr (.r0 (false) : Zak))
 else
 some (.inr (.r0 (true) : Zak))

def ZcH (L0 : List Int) (N : Nat) : Zal → Option (Zal ⊕ Zak)
 | .h1m0 v2 => ZbX L0 N v2

def ZdC (L0 : List Int) (N : Nat) : Option (Zal ⊕ Zak) :=
 if (((Zb L0).size : Nat) : Int) < 1 then
  some (.inr (.r0 (false) : Zak))
 else
 if (32 : Int) < (((Zb L0).size : Nat) : Int) then
  some (.inr (.r0 (false) : Zak))
 else
 if (Z1 L0) = true then
  some (.inl (.h1m0 (0) : Zal))
 else
 none

def ZeK (L0 : List Int) (N : Nat) : Option Zak := goM (ZcH L0 N) N (ZdC L0 N)

inductive Zbn where
 | r0
 | r1

def Zb2 (L0 : List Int) (L1 : List Int) (a2 : Int) (L3 : List RA) (L4 : List Int) (L5 : List R_is) (L6 : List (List Int)) (L7 : List R_si) (N : Nat) : Option Zbn :=
 if (Zba L7 L0) = true then
  some (.r0 : Zbn)
 else
 ((ZeK (L0) N).bind fun r => match r with
 | .r0 y1_0 =>
  if ¬ (y1_0 = true) then
   some (.r0 : Zbn)
  else
  if L6.length ≤ 100000 then
   some (.r1 : Zbn)
  else
  none
 )

inductive instr_ByNameR where
 | r0 (w0 : Int) (w1 : Bool)

def ZaX (L0 : List Int) (N : Nat) : Option instr_ByNameR :=
 if (Zaa (bl [99, 111, 110, 115, 116]) L0) = true then
  some (.r0 ((1 : Int)) (true) : instr_ByNameR)
 else
 if (Zaa (bl [110, 105, 108]) L0) = true then
  some (.r0 ((2 : Int)) (true) : instr_ByNameR)
 else
 if (Zaa (bl [109, 111, 118, 101]) L0) = true then
  some (.r0 ((3 : Int)) (true) : instr_ByNameR)
 else
 if (Zaa (bl [97, 100, 100]) L0) = true then
  some (.r0 ((4 : Int)) (true) : instr_ByNameR)
 else
 if (Zaa (bl [115, 117, 98]) L0) = true then
  some (.r0 ((5 : Int)) (true) : instr_ByNameR)
 else
 if (Zaa (bl [108, 101, 115, 115]) L0) = true then
  some (.r0 ((6 : Int)) (true) : instr_ByNameR)
 else
 if (Zaa (bl [101, 113]) L0) = true then
  some (.r0 ((7 : Int)) (true) : instr_ByNameR)
 else
 if (Zaa (bl [106, 117, 109, 112]) L0) = true then
  some (.r0 ((8 : Int)) (true) : instr_ByNameR)
 else
 if (Zaa (bl [106, 117, 109, 112, 122]) L0) = true then
  some (.r0 ((9 : Int)) (true) : instr_ByNameR)
 else
 if (Zaa (bl [114, 111, 111, 116]) L0) = true then
  some (.r0 ((10 : Int)) (true) : instr_ByNameR)
 else
 if (Zaa (bl [110, 101, 119]) L0) = true then
  some (.r0 ((11 : Int)) (true) : instr_ByNameR)
 else
 if (Zaa (bl [102, 114, 101, 101]) L0) = true then
  some (.r0 ((12 : Int)) (true) : instr_ByNameR)
 else
 if (Zaa (bl [103, 101, 116]) L0) = true then
  some (.r0 ((13 : Int)) (true) : instr_ByNameR)
 else
 if (Zaa (bl [115, 101, 116]) L0) = true then
  some (.r0 ((14 : Int)) (true) : instr_ByNameR)
 else
 if (Zaa (bl [98, 101, 103, 105, 110]) L0) = true then
  some (.r0 ((15 : Int)) (true) : instr_ByNameR)
 else
 if (Zaa (bl [101, 108, 115, 101]) L0) = true then
  some (.r0 ((16 : Int)) (true) : instr_ByNameR)
 else
 if (Zaa (bl [101, 110, 100]) L0) = true then
  some (.r0 ((17 : Int)) (true) : instr_ByNameR)
 else
 if (Zaa (bl [114, 101, 116, 114, 121]) L0) = true then
  some (.r0 ((18 : Int)) (true) : instr_ByNameR)
 else
 if (Zaa (bl [101, 109, 105, 116]) L0) = true then
  some (.r0 ((19 : Int)) (true) : instr_ByNameR)
 else
 if (Zaa (bl [104, 97, 108, 116]) L0) = true then
  some (.r0 ((20 : Int)) (true) : instr_ByNameR)
 else
 some (.r0 ((0 : Int)) (false) : instr_ByNameR)

inductive Zy where
 | r0
 | r1
 | r2
 | r3
 | r4
 | r5
 | r6
 | r7
 | r8
 | r9

def Z0 (a0 : Int) (N : Nat) : Option Zy :=
 if a0 = 1 then
  some (.r0 : Zy)
 else
 if a0 = 8 then
  some (.r1 : Zy)
 else
 if a0 = 9 then
  some (.r2 : Zy)
 else
 if a0 = 11 then
  some (.r3 : Zy)
 else
 if a0 = 13 then
  some (.r4 : Zy)
 else
 if a0 = 14 then
  some (.r5 : Zy)
 else
 if a0 < 0 then
  some (.r6 : Zy)
 else
 if (21 : Int) ≤ a0 then
  some (.r6 : Zy)
 else
 if a0 = 0 then
  some (.r6 : Zy)
 else
 if a0 = 2 then
  some (.r7 : Zy)
 else
 if a0 = 3 then
  some (.r8 : Zy)
 else
 if a0 = 4 then
  some (.r9 : Zy)
 else
 if a0 = 5 then
  some (.r9 : Zy)
 else
 if a0 = 6 then
  some (.r9 : Zy)
 else
 if a0 = 7 then
  some (.r9 : Zy)
 else
 if a0 = 10 then
  some (.r7 : Zy)
 else
 if a0 = 12 then
  some (.r7 : Zy)
 else
 if a0 = 15 then
  some (.r6 : Zy)
 else
 if a0 = 16 then
  some (.r6 : Zy)
 else
 if a0 = 17 then
  some (.r6 : Zy)
 else
 if a0 = 18 then
  some (.r6 : Zy)
 else
 if a0 = 19 then
  some (.r7 : Zy)
 else
 some (.r6 : Zy)

inductive Zah where
 | r0
 | r1

def Z9 (L0 : List Int) (L1 : List Int) (a2 : Int) (L3 : List RA) (L4 : List Int) (L5 : List R_is) (L6 : List (List Int)) (L7 : List R_si) (N : Nat) : Option Zah :=
 if (((Zb L0).size : Nat) : Int) = 2 then
  if (bAt L0 0) = 114 then
   if (48 : Int) ≤ (bAt L0 1) then
    if (bAt L0 1) < 56 then
     some (.r0 : Zah)
    else
    some (.r1 : Zah)
   else
   some (.r1 : Zah)
  else
  some (.r1 : Zah)
 else
 some (.r1 : Zah)

inductive ZaR where
 | r0
 | r1

def Zad (L0 : List Int) (L1 : List Int) (a2 : Int) (L3 : List RA) (L4 : List Int) (L5 : List R_is) (L6 : List (List Int)) (L7 : List R_si) (N : Nat) : Option ZaR :=
 if (Z1 L0) = true then
  if L0.length ≤ 1000000 then
   if (Zbq L0) = true then
    some (.r0 : ZaR)
   else
   some (.r1 : ZaR)
  else
  none
 else
 none

inductive Zav where
 | r0
 | r1

def Za1 (L0 : List Int) (L1 : List Int) (a2 : Int) (L3 : List RA) (L4 : List Int) (L5 : List R_is) (L6 : List (List Int)) (L7 : List R_si) (N : Nat) : Option Zav :=
 if (1 : Int) < (((Zb L0).size : Nat) : Int) then
  if (bAt L0 0) = 64 then
   ((ZeK ((L0.drop 1)) N).bind fun r => match r with
   | .r0 y2_0 =>
    if y2_0 = true then
     if L5.length ≤ 100000 then
      some (.r0 : Zav)
     else
     none
    else
    some (.r1 : Zav)
   )
  else
  some (.r1 : Zav)
 else
 some (.r1 : Zav)

inductive Zf where
 | r0
 | r1 (w5 : List RA)
 | r2 (w4 : List RA) (w6 : List R_is)

def Zas (L0 : List Int) (L1 : List Int) (a2 : Int) (L3 : List RA) (L4 : List Int) (L5 : List R_is) (L6 : List (List Int)) (L7 : List R_si) (N : Nat) : Option Zf :=
 if (Z1 L0) = true then
  if L0.length ≤ 1000000 then
   if 0 < (wds L0).length then
    ((ZaX ((wd L0 0)) N).bind fun r => match r with
    | .r0 y3_0 y3_1 =>
     ((Z0 (y3_0) N).bind fun r => match r with
     | .r0 =>
      if ¬ (y3_1 = true) then
       some (.r0 : Zf)
      else
      if ¬ ((((wds L0).length : Nat) : Int) = 3) then
       some (.r0 : Zf)
      else
      if (512 : Int) ≤ (L3.length : Int) then
       some (.r0 : Zf)
      else
      ((Z9 ((wd L0 1)) (L1) (a2) (L3) (L4) (L5) (L6) (L7) N).bind fun r => match r with
      | .r0 =>
       ((Zad ((wd L0 2)) (L1) (a2) (L3) (L4) (L5) (L6) (L7) N).bind fun r => match r with
       | .r0 =>
        if L4.length ≤ 100000 then
         some (.r1 ((L3 ++ ([(⟨y3_0, ((bAt (wd L0 1) 1) - (48 : Int)), (Zbf (wd L0 2)), (0 : Int)⟩ : RA)] : List RA))) : Zf)
        else
        none
       | .r1 =>
        some (.r0 : Zf)
       )
      | .r1 =>
       some (.r0 : Zf)
      )
     | .r1 =>
      if ¬ (y3_1 = true) then
       some (.r0 : Zf)
      else
      if ¬ ((((wds L0).length : Nat) : Int) = 2) then
       some (.r0 : Zf)
      else
      if (512 : Int) ≤ (L3.length : Int) then
       some (.r0 : Zf)
      else
      ((Za1 ((wd L0 1)) (L1) (a2) (L3) (L4) (L5) (L6) (L7) N).bind fun r => match r with
      | .r0 =>
       if L4.length ≤ 100000 then
        some (.r2 ((L3 ++ ([(⟨y3_0, (0 : Int), (0 : Int), (0 : Int)⟩ : RA)] : List RA))) ((L5 ++ ([(⟨(L3.length : Int), ((wd L0 1).drop 1)⟩ : R_is)] : List R_is))) : Zf)
       else
       none
      | .r1 =>
       some (.r0 : Zf)
      )
     | .r2 =>
      if ¬ (y3_1 = true) then
       some (.r0 : Zf)
      else
      if ¬ ((((wds L0).length : Nat) : Int) = 3) then
       some (.r0 : Zf)
      else
      if (512 : Int) ≤ (L3.length : Int) then
       some (.r0 : Zf)
      else
      ((Z9 ((wd L0 1)) (L1) (a2) (L3) (L4) (L5) (L6) (L7) N).bind fun r => match r with
      | .r0 =>
       ((Za1 ((wd L0 2)) (L1) (a2) (L3) (L4) (L5) (L6) (L7) N).bind fun r => match r with
       | .r0 =>
        if L4.length ≤ 100000 then
         some (.r2 ((L3 ++ ([(⟨y3_0, ((bAt (wd L0 1) 1) - (48 : Int)), (0 : Int), (0 : Int)⟩ : RA)] : List RA))) ((L5 ++ ([(⟨(L3.length : Int), ((wd L0 2).drop 1)⟩ : R_is)] : List R_is))) : Zf)
        else
        none
       | .r1 =>
        some (.r0 : Zf)
       )
      | .r1 =>
       some (.r0 : Zf)
      )
     | .r3 =>
      if ¬ (y3_1 = true) then
       some (.r0 : Zf)
      else
      if ¬ ((((wds L0).length : Nat) : Int) = 4) then
       some (.r0 : Zf)
      else
      if (512 : Int) ≤ (L3.length : Int) then
       some (.r0 : Zf)
      else
      ((Z9 ((wd L0 1)) (L1) (a2) (L3) (L4) (L5) (L6) (L7) N).bind fun r => match r with
      | .r0 =>
       ((Zad ((wd L0 2)) (L1) (a2) (L3) (L4) (L5) (L6) (L7) N).bind fun r => match r with
       | .r0 =>
        ((Zad ((wd L0 3)) (L1) (a2) (L3) (L4) (L5) (L6) (L7) N).bind fun r => match r with
        | .r0 =>
         if L4.length ≤ 100000 then
          some (.r1 ((L3 ++ ([(⟨y3_0, ((bAt (wd L0 1) 1) - (48 : Int)), (Zbf (wd L0 2)), (Zbf (wd L0 3))⟩ : RA)] : List RA))) : Zf)
         else
         none
        | .r1 =>
         some (.r0 : Zf)
        )
       | .r1 =>
        some (.r0 : Zf)
       )
      | .r1 =>
       some (.r0 : Zf)
      )
     | .r4 =>
      if ¬ (y3_1 = true) then
       some (.r0 : Zf)
      else
      if ¬ ((((wds L0).length : Nat) : Int) = 4) then
       some (.r0 : Zf)
      else
      if (512 : Int) ≤ (L3.length : Int) then
       some (.r0 : Zf)
      else
      ((Z9 ((wd L0 1)) (L1) (a2) (L3) (L4) (L5) (L6) (L7) N).bind fun r => match r with
      | .r0 =>
       ((Z9 ((wd L0 2)) (L1) (a2) (L3) (L4) (L5) (L6) (L7) N).bind fun r => match r with
       | .r0 =>
        ((Zad ((wd L0 3)) (L1) (a2) (L3) (L4) (L5) (L6) (L7) N).bind fun r => match r with
        | .r0 =>
         if L4.length ≤ 100000 then
          some (.r1 ((L3 ++ ([(⟨y3_0, ((bAt (wd L0 1) 1) - (48 : Int)), ((bAt (wd L0 2) 1) - (48 : Int)), (Zbf (wd L0 3))⟩ : RA)] : List RA))) : Zf)
         else
         none
        | .r1 =>
         some (.r0 : Zf)
        )
       | .r1 =>
        some (.r0 : Zf)
       )
      | .r1 =>
       some (.r0 : Zf)
      )
     | .r5 =>
      if ¬ (y3_1 = true) then
       some (.r0 : Zf)
      else
      if ¬ ((((wds L0).length : Nat) : Int) = 4) then
       some (.r0 : Zf)
      else
      if (512 : Int) ≤ (L3.length : Int) then
       some (.r0 : Zf)
      else
      ((Z9 ((wd L0 1)) (L1) (a2) (L3) (L4) (L5) (L6) (L7) N).bind fun r => match r with
      | .r0 =>
       ((Zad ((wd L0 2)) (L1) (a2) (L3) (L4) (L5) (L6) (L7) N).bind fun r => match r with
       | .r0 =>
        ((Z9 ((wd L0 3)) (L1) (a2) (L3) (L4) (L5) (L6) (L7) N).bind fun r => match r with
        | .r0 =>
         if L4.length ≤ 100000 then
          some (.r1 ((L3 ++ ([(⟨y3_0, ((bAt (wd L0 1) 1) - (48 : Int)), (Zbf (wd L0 2)), ((bAt (wd L0 3) 1) - (48 : Int))⟩ : RA)] : List RA))) : Zf)
         else
         none
        | .r1 =>
         some (.r0 : Zf)
        )
       | .r1 =>
        some (.r0 : Zf)
       )
      | .r1 =>
       some (.r0 : Zf)
      )
     | .r6 =>
      if ¬ (y3_1 = true) then
       some (.r0 : Zf)
      else
      if ¬ ((((wds L0).length : Nat) : Int) = 1) then
       some (.r0 : Zf)
      else
      if (512 : Int) ≤ (L3.length : Int) then
       some (.r0 : Zf)
      else
      if L4.length ≤ 100000 then
       some (.r1 ((L3 ++ ([(⟨y3_0, (0 : Int), (0 : Int), (0 : Int)⟩ : RA)] : List RA))) : Zf)
      else
      none
     | .r7 =>
      if ¬ (y3_1 = true) then
       some (.r0 : Zf)
      else
      if ¬ ((((wds L0).length : Nat) : Int) = 2) then
       some (.r0 : Zf)
      else
      if (512 : Int) ≤ (L3.length : Int) then
       some (.r0 : Zf)
      else
      ((Z9 ((wd L0 1)) (L1) (a2) (L3) (L4) (L5) (L6) (L7) N).bind fun r => match r with
      | .r0 =>
       if L4.length ≤ 100000 then
        some (.r1 ((L3 ++ ([(⟨y3_0, ((bAt (wd L0 1) 1) - (48 : Int)), (0 : Int), (0 : Int)⟩ : RA)] : List RA))) : Zf)
       else
       none
      | .r1 =>
       some (.r0 : Zf)
      )
     | .r8 =>
      if ¬ (y3_1 = true) then
       some (.r0 : Zf)
      else
      if ¬ ((((wds L0).length : Nat) : Int) = 3) then
       some (.r0 : Zf)
      else
      if (512 : Int) ≤ (L3.length : Int) then
       some (.r0 : Zf)
      else
      ((Z9 ((wd L0 1)) (L1) (a2) (L3) (L4) (L5) (L6) (L7) N).bind fun r => match r with
      | .r0 =>
       ((Z9 ((wd L0 2)) (L1) (a2) (L3) (L4) (L5) (L6) (L7) N).bind fun r => match r with
       | .r0 =>
        if L4.length ≤ 100000 then
         some (.r1 ((L3 ++ ([(⟨y3_0, ((bAt (wd L0 1) 1) - (48 : Int)), ((bAt (wd L0 2) 1) - (48 : Int)), (0 : Int)⟩ : RA)] : List RA))) : Zf)
        else
        none
       | .r1 =>
        some (.r0 : Zf)
       )
      | .r1 =>
       some (.r0 : Zf)
      )
     | .r9 =>
      if ¬ (y3_1 = true) then
       some (.r0 : Zf)
      else
      if ¬ ((((wds L0).length : Nat) : Int) = 4) then
       some (.r0 : Zf)
      else
      if (512 : Int) ≤ (L3.length : Int) then
       some (.r0 : Zf)
      else
      ((Z9 ((wd L0 1)) (L1) (a2) (L3) (L4) (L5) (L6) (L7) N).bind fun r => match r with
      | .r0 =>
       ((Z9 ((wd L0 2)) (L1) (a2) (L3) (L4) (L5) (L6) (L7) N).bind fun r => match r with
       | .r0 =>
        ((Z9 ((wd L0 3)) (L1) (a2) (L3) (L4) (L5) (L6) (L7) N).bind fun r => match r with
        | .r0 =>
         if L4.length ≤ 100000 then
          some (.r1 ((L3 ++ ([(⟨y3_0, ((bAt (wd L0 1) 1) - (48 : Int)), ((bAt (wd L0 2) 1) - (48 : Int)), ((bAt (wd L0 3) 1) - (48 : Int))⟩ : RA)] : List RA))) : Zf)
         else
         none
        | .r1 =>
         some (.r0 : Zf)
        )
       | .r1 =>
        some (.r0 : Zf)
       )
      | .r1 =>
       some (.r0 : Zf)
      )
     )
    )
   else
   none
  else
  none
 else
 none

inductive ZaH where
 | r0 (w0 : Int)

abbrev ckX : Option ZaH := some (.r0 (100 : Int))
abbrev ckO : Option ZaH := some (.r0 (0 : Int))

def Z7 (a0 : Int) (a1 : Int) (a2 : Int) (a3 : Int) (N : Nat) : Option ZaH :=
 if a0 < 0 then
  ckX
 else
 if (21 : Int) ≤ a0 then
  ckX
 else
 if a0 = 0 then
  ckX
 else
 if a0 = 1 then
  if (0 : Int) ≤ a1 then
   if a1 ≤ 7 then
    if (-1099511627776 : Int) ≤ a2 then
     if a2 ≤ 1099511627776 then
      if (0 : Int) ≤ a3 then
       if a3 ≤ 0 then
        ckO
       else
       ckX
      else
      ckX
     else
     ckX
    else
    ckX
   else
   ckX
  else
  ckX
 else
 if a0 = 2 then
  if (0 : Int) ≤ a1 then
   if a1 ≤ 7 then
    if (0 : Int) ≤ a2 then
     if a2 ≤ 0 then
      if (0 : Int) ≤ a3 then
       if a3 ≤ 0 then
        ckO
       else
       ckX
      else
      ckX
     else
     ckX
    else
    ckX
   else
   ckX
  else
  ckX
 else
 if a0 = 3 then
  if (0 : Int) ≤ a1 then
   if a1 ≤ 7 then
    if (0 : Int) ≤ a2 then
     if a2 ≤ 7 then
      if (0 : Int) ≤ a3 then
       if a3 ≤ 0 then
        ckO
       else
       ckX
      else
      ckX
     else
     ckX
    else
    ckX
   else
   ckX
  else
  ckX
 else
 if a0 = 4 then
  if (0 : Int) ≤ a1 then
   if a1 ≤ 7 then
    if (0 : Int) ≤ a2 then
     if a2 ≤ 7 then
      if (0 : Int) ≤ a3 then
       if a3 ≤ 7 then
        ckO
       else
       ckX
      else
      ckX
     else
     ckX
    else
    ckX
   else
   ckX
  else
  ckX
 else
 if a0 = 5 then
  if (0 : Int) ≤ a1 then
   if a1 ≤ 7 then
    if (0 : Int) ≤ a2 then
     if a2 ≤ 7 then
      if (0 : Int) ≤ a3 then
       if a3 ≤ 7 then
        ckO
       else
       ckX
      else
      ckX
     else
     ckX
    else
    ckX
   else
   ckX
  else
  ckX
 else
 if a0 = 6 then
  if (0 : Int) ≤ a1 then
   if a1 ≤ 7 then
    if (0 : Int) ≤ a2 then
     if a2 ≤ 7 then
      if (0 : Int) ≤ a3 then
       if a3 ≤ 7 then
        ckO
       else
       ckX
      else
      ckX
     else
     ckX
    else
    ckX
   else
   ckX
  else
  ckX
 else
 if a0 = 7 then
  if (0 : Int) ≤ a1 then
   if a1 ≤ 7 then
    if (0 : Int) ≤ a2 then
     if a2 ≤ 7 then
      if (0 : Int) ≤ a3 then
       if a3 ≤ 7 then
        ckO
       else
       ckX
      else
      ckX
     else
     ckX
    else
    ckX
   else
   ckX
  else
  ckX
 else
 if a0 = 8 then
  if (0 : Int) ≤ a1 then
   if a1 ≤ 512 then
    if (0 : Int) ≤ a2 then
     if a2 ≤ 0 then
      if (0 : Int) ≤ a3 then
       if a3 ≤ 0 then
        ckO
       else
       ckX
      else
      ckX
     else
     ckX
    else
    ckX
   else
   ckX
  else
  ckX
 else
 if a0 = 9 then
  if (0 : Int) ≤ a1 then
   if a1 ≤ 7 then
    if (0 : Int) ≤ a2 then
     if a2 ≤ 512 then
      if (0 : Int) ≤ a3 then
       if a3 ≤ 0 then
        ckO
       else
       ckX
      else
      ckX
     else
     ckX
    else
    ckX
   else
   ckX
  else
  ckX
 else
 if a0 = 10 then
  if (0 : Int) ≤ a1 then
   if a1 ≤ 7 then
    if (0 : Int) ≤ a2 then
     if a2 ≤ 0 then
      if (0 : Int) ≤ a3 then
       if a3 ≤ 0 then
        ckO
       else
       ckX
      else
      ckX
     else
     ckX
    else
    ckX
   else
   ckX
  else
  ckX
 else
 if a0 = 11 then
  if (0 : Int) ≤ a1 then
   if a1 ≤ 7 then
    if (1 : Int) ≤ a2 then
     if a2 ≤ 16 then
      if (0 : Int) ≤ a3 then
       if a3 ≤ (IntKind.i64.wrap ((IntKind.i64.wrap ((1 : Int) * (2 ^ (a2).toNat : Int))) - (1 : Int))) then
        ckO
       else
       ckX
      else
      ckX
     else
     ckX
    else
    ckX
   else
   ckX
  else
  ckX
 else
 if a0 = 12 then
  if (0 : Int) ≤ a1 then
   if a1 ≤ 7 then
    if (0 : Int) ≤ a2 then
     if a2 ≤ 0 then
      if (0 : Int) ≤ a3 then
       if a3 ≤ 0 then
        ckO
       else
       ckX
      else
      ckX
     else
     ckX
    else
    ckX
   else
   ckX
  else
  ckX
 else
 if a0 = 13 then
  if (0 : Int) ≤ a1 then
   if a1 ≤ 7 then
    if (0 : Int) ≤ a2 then
     if a2 ≤ 7 then
      if (0 : Int) ≤ a3 then
       if a3 ≤ 15 then
        ckO
       else
       ckX
      else
      ckX
     else
     ckX
    else
    ckX
   else
   ckX
  else
  ckX
 else
 if a0 = 14 then
  if (0 : Int) ≤ a1 then
   if a1 ≤ 7 then
    if (0 : Int) ≤ a2 then
     if a2 ≤ 15 then
      if (0 : Int) ≤ a3 then
       if a3 ≤ 7 then
        ckO
       else
       ckX
      else
      ckX
     else
     ckX
    else
    ckX
   else
   ckX
  else
  ckX
 else
 if a0 = 15 then
  if (0 : Int) ≤ a1 then
   if a1 ≤ 0 then
    if (0 : Int) ≤ a2 then
     if a2 ≤ 0 then
      if (0 : Int) ≤ a3 then
       if a3 ≤ 0 then
        ckO
       else
       ckX
      else
      ckX
     else
     ckX
    else
    ckX
   else
   ckX
  else
  ckX
 else
 if a0 = 16 then
  if (0 : Int) ≤ a1 then
   if a1 ≤ 0 then
    if (0 : Int) ≤ a2 then
     if a2 ≤ 0 then
      if (0 : Int) ≤ a3 then
       if a3 ≤ 0 then
        ckO
       else
       ckX
      else
      ckX
     else
     ckX
    else
    ckX
   else
   ckX
  else
  ckX
 else
 if a0 = 17 then
  if (0 : Int) ≤ a1 then
   if a1 ≤ 0 then
    if (0 : Int) ≤ a2 then
     if a2 ≤ 0 then
      if (0 : Int) ≤ a3 then
       if a3 ≤ 0 then
        ckO
       else
       ckX
      else
      ckX
     else
     ckX
    else
    ckX
   else
   ckX
  else
  ckX
 else
 if a0 = 18 then
  if (0 : Int) ≤ a1 then
   if a1 ≤ 0 then
    if (0 : Int) ≤ a2 then
     if a2 ≤ 0 then
      if (0 : Int) ≤ a3 then
       if a3 ≤ 0 then
        ckO
       else
       ckX
      else
      ckX
     else
     ckX
    else
    ckX
   else
   ckX
  else
  ckX
 else
 if a0 = 19 then
  if (0 : Int) ≤ a1 then
   if a1 ≤ 7 then
    if (0 : Int) ≤ a2 then
     if a2 ≤ 0 then
      if (0 : Int) ≤ a3 then
       if a3 ≤ 0 then
        ckO
       else
       ckX
      else
      ckX
     else
     ckX
    else
    ckX
   else
   ckX
  else
  ckX
 else
 if (0 : Int) ≤ a1 then
  if a1 ≤ 0 then
   if (0 : Int) ≤ a2 then
    if a2 ≤ 0 then
     if (0 : Int) ≤ a3 then
      if a3 ≤ 0 then
       ckO
      else
      ckX
     else
     ckX
    else
    ckX
   else
   ckX
  else
  ckX
 else
 ckX

inductive Zt where
 | r0 (w0 : Int)
 | r1 (w6 : Int)
 | r2 (w0 : List RA) (w6 : Int) (w7 : Nat) (w8 : Nat)

inductive asm_reader_aimX where
 | h1m0 (v6 : Nat) (v8 : Int)
 | h1m1 (v0 : List RA) (v6 : Nat) (v8 : Int) (v9 : Nat) (v10 : Nat)

def Zbg (L0 : List Int) (a1 : Int) (L2 : List RA) (L3 : List Int) (L4 : List R_is) (L5 : List (List Int)) (L6 : List R_si) (N : Nat) (v6 : Nat) (v8 : Int) : Option (asm_reader_aimX ⊕ Zt) :=
 if (v6 : Int) < (L2.length : Int) then
  if v6 < L3.length then
   if (0 : Int) < (L4.length : Int) then
    if (aj L4 0).a0 = (v6 : Int) then
     if (Zba L6 (aj L4 0).a1) = true then
      if (ai L2 v6).a0 = 8 then
       ((Z7 ((ai L2 v6).a0) ((Z2 L6 (aj L4 0).a1)) ((ai L2 v6).a2) ((ai L2 v6).a3) N).bind fun r => match r with
       | .r0 y6_0 =>
        if ¬ (y6_0 = 0) then
         some (.inr (.r0 ((L3.getD v6 0)) : Zt))
        else
        if (((v6 + 1) : Nat) : Int) ≤ 9223372036854775807 then
         some (.inl (.h1m1 ((L2.set v6 (aiA L2 v6 L6 L4 0))) ((v6 + 1)) ((L3.getD v6 0)) (1) ((L4.length - 1)) : asm_reader_aimX))
        else
        none
       )
      else
      if (ai L2 v6).a0 = 9 then
       ((Z7 ((ai L2 v6).a0) ((ai L2 v6).a1) ((Z2 L6 (aj L4 0).a1)) ((ai L2 v6).a3) N).bind fun r => match r with
       | .r0 y7_0 =>
        if ¬ (y7_0 = 0) then
         some (.inr (.r0 ((L3.getD v6 0)) : Zt))
        else
        if (((v6 + 1) : Nat) : Int) ≤ 9223372036854775807 then
         some (.inl (.h1m1 ((L2.set v6 (aiB L2 v6 L6 L4 0))) ((v6 + 1)) ((L3.getD v6 0)) (1) ((L4.length - 1)) : asm_reader_aimX))
        else
        none
       )
      else
      ((Z7 ((ai L2 v6).a0) ((ai L2 v6).a1) ((ai L2 v6).a2) ((ai L2 v6).a3) N).bind fun r => match r with
      | .r0 y7_0 =>
       if ¬ (y7_0 = 0) then
        some (.inr (.r0 ((L3.getD v6 0)) : Zt))
       else
       if (((v6 + 1) : Nat) : Int) ≤ 9223372036854775807 then
        some (.inl (.h1m1 ((L2.set v6 (aiC L2 v6))) ((v6 + 1)) ((L3.getD v6 0)) (1) ((L4.length - 1)) : asm_reader_aimX))
       else
       none
      )
     else
     some (.inr (.r0 ((L3.getD v6 0)) : Zt))
    else
    ((Z7 ((ai L2 v6).a0) ((ai L2 v6).a1) ((ai L2 v6).a2) ((ai L2 v6).a3) N).bind fun r => match r with
    | .r0 y4_0 =>
     if ¬ (y4_0 = 0) then
      some (.inr (.r0 ((L3.getD v6 0)) : Zt))
     else
     if (((v6 + 1) : Nat) : Int) ≤ 9223372036854775807 then
      some (.inl (.h1m0 ((v6 + 1)) ((L3.getD v6 0)) : asm_reader_aimX))
     else
     none
    )
   else
   ((Z7 ((ai L2 v6).a0) ((ai L2 v6).a1) ((ai L2 v6).a2) ((ai L2 v6).a3) N).bind fun r => match r with
   | .r0 y3_0 =>
    if ¬ (y3_0 = 0) then
     some (.inr (.r0 ((L3.getD v6 0)) : Zt))
    else
    if (((v6 + 1) : Nat) : Int) ≤ 9223372036854775807 then
     some (.inl (.h1m0 ((v6 + 1)) ((L3.getD v6 0)) : asm_reader_aimX))
    else
    none
   )
  else
  none
 else
 some (.inr (.r1 (v8) : Zt))

def Zbh (L0 : List Int) (a1 : Int) (L2 : List RA) (L3 : List Int) (L4 : List R_is) (L5 : List (List Int)) (L6 : List R_si) (N : Nat) (v0 : List RA) (v6 : Nat) (v8 : Int) (v9 : Nat) (v10 : Nat) : Option (asm_reader_aimX ⊕ Zt) :=
 if (v6 : Int) < (L2.length : Int) then
  if v6 < v0.length then
   if v6 < L3.length then
    if (0 : Int) < (v10 : Int) then
     if v9 < L4.length then
      if (aj L4 v9).a0 = (v6 : Int) then
       if (Zba L6 (aj L4 v9).a1) = true then
        if (ai v0 v6).a0 = 8 then
         ((Z7 ((ai v0 v6).a0) ((Z2 L6 (aj L4 v9).a1)) ((ai v0 v6).a2) ((ai v0 v6).a3) N).bind fun r => match r with
         | .r0 y8_0 =>
          if ¬ (y8_0 = 0) then
           some (.inr (.r0 ((L3.getD v6 0)) : Zt))
          else
          if (((v6 + 1) : Nat) : Int) ≤ 9223372036854775807 then
           some (.inl (.h1m1 ((v0.set v6 (aiA v0 v6 L6 L4 v9))) ((v6 + 1)) ((L3.getD v6 0)) ((v9 + 1)) ((v10 - 1)) : asm_reader_aimX))
          else
          none
         )
        else
        if (ai v0 v6).a0 = 9 then
         ((Z7 ((ai v0 v6).a0) ((ai v0 v6).a1) ((Z2 L6 (aj L4 v9).a1)) ((ai v0 v6).a3) N).bind fun r => match r with
         | .r0 y9_0 =>
          if ¬ (y9_0 = 0) then
           some (.inr (.r0 ((L3.getD v6 0)) : Zt))
          else
          if (((v6 + 1) : Nat) : Int) ≤ 9223372036854775807 then
           some (.inl (.h1m1 ((v0.set v6 (aiB v0 v6 L6 L4 v9))) ((v6 + 1)) ((L3.getD v6 0)) ((v9 + 1)) ((v10 - 1)) : asm_reader_aimX))
          else
          none
         )
        else
        ((Z7 ((ai v0 v6).a0) ((ai v0 v6).a1) ((ai v0 v6).a2) ((ai v0 v6).a3) N).bind fun r => match r with
        | .r0 y9_0 =>
         if ¬ (y9_0 = 0) then
          some (.inr (.r0 ((L3.getD v6 0)) : Zt))
         else
         if (((v6 + 1) : Nat) : Int) ≤ 9223372036854775807 then
          some (.inl (.h1m1 ((v0.set v6 (aiC v0 v6))) ((v6 + 1)) ((L3.getD v6 0)) ((v9 + 1)) ((v10 - 1)) : asm_reader_aimX))
         else
         none
        )
       else
       some (.inr (.r0 ((L3.getD v6 0)) : Zt))
      else
      ((Z7 ((ai v0 v6).a0) ((ai v0 v6).a1) ((ai v0 v6).a2) ((ai v0 v6).a3) N).bind fun r => match r with
      | .r0 y6_0 =>
       if ¬ (y6_0 = 0) then
        some (.inr (.r0 ((L3.getD v6 0)) : Zt))
       else
       if (((v6 + 1) : Nat) : Int) ≤ 9223372036854775807 then
        some (.inl (.h1m1 (v0) ((v6 + 1)) ((L3.getD v6 0)) (v9) (v10) : asm_reader_aimX))
       else
       none
      )
     else
     none
    else
    ((Z7 ((ai v0 v6).a0) ((ai v0 v6).a1) ((ai v0 v6).a2) ((ai v0 v6).a3) N).bind fun r => match r with
    | .r0 y4_0 =>
     if ¬ (y4_0 = 0) then
      some (.inr (.r0 ((L3.getD v6 0)) : Zt))
     else
     if (((v6 + 1) : Nat) : Int) ≤ 9223372036854775807 then
      some (.inl (.h1m1 (v0) ((v6 + 1)) ((L3.getD v6 0)) (v9) (v10) : asm_reader_aimX))
     else
     none
    )
   else
   none
  else
  none
 else
 some (.inr (.r2 (v0) (v8) (v9) (v10) : Zt))

def ZaU (L0 : List Int) (a1 : Int) (L2 : List RA) (L3 : List Int) (L4 : List R_is) (L5 : List (List Int)) (L6 : List R_si) (N : Nat) : asm_reader_aimX → Option (asm_reader_aimX ⊕ Zt)
 | .h1m0 v6 v8 => Zbg L0 a1 L2 L3 L4 L5 L6 N v6 v8
 | .h1m1 v0 v6 v8 v9 v10 => Zbh L0 a1 L2 L3 L4 L5 L6 N v0 v6 v8 v9 v10

def Ze8 (L0 : List Int) (a1 : Int) (L2 : List RA) (L3 : List Int) (L4 : List R_is) (L5 : List (List Int)) (L6 : List R_si) (N : Nat) : Option (asm_reader_aimX ⊕ Zt) :=
 some (.inl (.h1m0 (0) (a1) : asm_reader_aimX))

def Zcy (L0 : List Int) (a1 : Int) (L2 : List RA) (L3 : List Int) (L4 : List R_is) (L5 : List (List Int)) (L6 : List R_si) (N : Nat) : Option Zt := goM (ZaU L0 a1 L2 L3 L4 L5 L6 N) N (Ze8 L0 a1 L2 L3 L4 L5 L6 N)

inductive ZE where
 | r0 (w0 : Int)
 | r1 (w0 : List R_si) (w1 : List Int) (w2 : Int) (w3 : List RA) (w4 : List Int) (w5 : List R_is) (w6 : List (List Int))
 | r2 (w0 : List R_si) (w1 : List Int) (w2 : Int) (w3 : List RA) (w4 : List Int) (w5 : List R_is) (w6 : Nat) (w7 : Nat) (w8 : List (List Int))

inductive ZF where
 | h1m0 (v0 : List R_si) (v1 : List Int) (v2 : Int) (v3 : List RA) (v4 : List Int) (v5 : List R_is) (v6 : List (List Int))

def Za2 (L0 : List Int) (a1 : Int) (L2 : List R_si) (N : Nat) (v0 : List R_si) (v1 : List Int) (v2 : Int) (v3 : List RA) (v4 : List Int) (v5 : List R_is) (v6 : List (List Int)) : Option (ZF ⊕ ZE) :=
 if ¬ ((Zaa v1 ([] : List Int)) = true) then
  if (Z1 v1) = true then
   if v1.length ≤ 1000000 then
    if (ZaT (10 : Int) v1) = true then
     if (Zaa (Zz (10 : Int) v1) ([] : List Int)) = true then
      some (.inl (.h1m0 (v0) ((Zap (10 : Int) v1)) ((IntKind.i64.wrap (v2 + (1 : Int)))) (v3) (v4) (v5) (v6) : ZF))
     else
     if 0 < (Zz (10 : Int) v1).length then
      if (bAt (Zz (10 : Int) v1) 0) = 35 then
       some (.inl (.h1m0 (v0) ((Zap (10 : Int) v1)) ((IntKind.i64.wrap (v2 + (1 : Int)))) (v3) (v4) (v5) (v6) : ZF))
      else
      if (bAt (Zz (10 : Int) v1) 0) = 58 then
       ((Zb2 (((Zz (10 : Int) v1).drop 1)) ((Zap (10 : Int) v1)) ((IntKind.i64.wrap (v2 + (1 : Int)))) (v3) (v4) (v5) (v6) (v0) N).bind fun r => match r with
       | .r0 =>
        some (.inr (.r0 ((IntKind.i64.wrap (v2 + (1 : Int)))) : ZE))
       | .r1 =>
        some (.inl (.h1m0 ((ZaS v0 ((Zz (10 : Int) v1).drop 1) (v3.length : Int))) ((Zap (10 : Int) v1)) ((IntKind.i64.wrap (v2 + (1 : Int)))) (v3) (v4) (v5) ((v6 ++ ([((Zz (10 : Int) v1).drop 1)] : List (List Int)))) : ZF))
       )
      else
      ((Zas ((Zz (10 : Int) v1)) ((Zap (10 : Int) v1)) ((IntKind.i64.wrap (v2 + (1 : Int)))) (v3) (v4) (v5) (v6) (v0) N).bind fun r => match r with
      | .r0 =>
       some (.inr (.r0 ((IntKind.i64.wrap (v2 + (1 : Int)))) : ZE))
      | .r1 y8_0 =>
       if 0 < y8_0.length then
        some (.inl (.h1m0 (v0) ((Zap (10 : Int) v1)) ((IntKind.i64.wrap (v2 + (1 : Int)))) (y8_0) ((v4 ++ ([(IntKind.i64.wrap (v2 + (1 : Int)))] : List Int))) (v5) (v6) : ZF))
       else
       none
      | .r2 y8_0 y8_1 =>
       if 0 < y8_0.length then
        if 0 < y8_1.length then
         some (.inl (.h1m0 (v0) ((Zap (10 : Int) v1)) ((IntKind.i64.wrap (v2 + (1 : Int)))) (y8_0) ((v4 ++ ([(IntKind.i64.wrap (v2 + (1 : Int)))] : List Int))) (y8_1) (v6) : ZF))
        else
        none
       else
       none
      )
     else
     none
    else
    some (.inr (.r0 ((IntKind.i64.wrap (v2 + (1 : Int)))) : ZE))
   else
   none
  else
  none
 else
 ((Zcy (v1) (v2) (v3) (v4) (v5) (v6) (v0) N).bind fun r => match r with
 | .r0 y1_0 =>
  some (.inr (.r0 (y1_0) : ZE))
 | .r1 y1_0 =>
  some (.inr (.r1 (v0) (v1) (y1_0) (v3) (v4) (v5) (v6) : ZE))
 | .r2 y1_0 y1_1 y1_2 y1_3 =>
  some (.inr (.r2 (v0) (v1) (y1_1) (y1_0) (v4) (v5) (y1_2) (y1_3) (v6) : ZE))
 )

def Zaw (L0 : List Int) (a1 : Int) (L2 : List R_si) (N : Nat) : ZF → Option (ZF ⊕ ZE)
 | .h1m0 v0 v1 v2 v3 v4 v5 v6 => Za2 L0 a1 L2 N v0 v1 v2 v3 v4 v5 v6

def Zee (L0 : List Int) (a1 : Int) (L2 : List R_si) (N : Nat) : Option (ZF ⊕ ZE) :=
 some (.inl (.h1m0 (L2) (L0) (a1) (([] : List RA)) (([] : List Int)) (([] : List R_is)) (([] : List (List Int))) : ZF))

def ZcI (L0 : List Int) (a1 : Int) (L2 : List R_si) (N : Nat) : Option ZE := goM (Zaw L0 a1 L2 N) N (Zee L0 a1 L2 N)

inductive Zbr where
 | r0 (w0 : Int) (w1 : Int)
 | r1 (w0 : List RA)

def Zcs (L0 : List Int) (N : Nat) : Option Zbr :=
 if (262144 : Int) < (((Zb L0).size : Nat) : Int) then
  some (.r0 ((0 : Int)) ((2 : Int)) : Zbr)
 else
 ((ZcI (L0) ((0 : Int)) (([] : List R_si)) N).bind fun r => match r with
 | .r0 y1_0 =>
  some (.r0 (y1_0) ((130 : Int)) : Zbr)
 | .r1 y1_0 y1_1 y1_2 y1_3 y1_4 y1_5 y1_6 =>
  some (.r1 (y1_3) : Zbr)
 | .r2 y1_0 y1_1 y1_2 y1_3 y1_4 y1_5 y1_6 y1_7 y1_8 =>
  some (.r1 (y1_3) : Zbr)
 )
end Ev
end Go.Proofs.YtlbbiflodemagaaDoor
/- How records are written, and which functions are told. -/
namespace Go.Proofs.YtlbbiflodemagaaDoor
open Go.RowKit
namespace Ev
set_option linter.unusedVariables false
def E_iiii : Enc RA := ⟨fun x => [.i x.a0, .i x.a1, .i x.a2, .i x.a3], 4, RA.z, fun _ => rfl, fun _ => rfl⟩
def ZM : Enc R_is := ⟨fun x => [.i x.a0, .s (Zb x.a1)], 2, R_is.z, fun _ => rfl, fun _ => rfl⟩
def Zbb (L : List R_si) : List MapEntry := L.map fun x => ⟨.string (Zb x.a0), .int .i64 x.a1, 0⟩
def Zm (L : List R_si) : Obj := .map (Zbb L).toArray 0
theorem ZtB (k : List Int) : ∀ (L : List R_si) (i : Nat), Instr.findNow .string (.string (Zb k)) (Zbb L) i = some ((L.findIdx? (fun x => Zaa k x.a0)).map fun j => (i + j, .int .i64 (Z2 L k)))
 | [], i => rfl
 | x :: L, i => by
  have ih := ZtB k L (i + 1)
  simp only [Zbb, List.map_cons, Instr.findNow, Instr.sameNow]
  simp only [Zbb] at ih
  rw [List.findIdx?_cons]
  cases h : Zaa k x.a0 with
  | true =>
   have h' : (Zb k == Zb x.a0) = true := h
   simp [h', Z2, List.find?_cons, h]
  | false =>
   have h' : (Zb k == Zb x.a0) = false := h
   have hg : Z2 (x :: L) k = Z2 L k := by simp only [Z2, List.find?_cons, h]
   rw [hg]
   simp only [h', ih, Bool.false_eq_true, if_false]
   cases L.findIdx? (fun x => Zaa k x.a0) with
   | none => rfl
   | some j => simp; omega
theorem ZvQ {L : List R_si} {k : List Int} : Zba L k = (L.findIdx? (fun x => Zaa k x.a0)).isSome := by
 induction L with
 | nil => rfl
 | cons x L ih =>
  unfold Zba at ih ⊢
  rw [List.any_cons, List.findIdx?_cons, ih]
  cases h : Zaa k x.a0 with
  | true => rfl
  | false => cases L.findIdx? (fun x => Zaa k x.a0) <;> rfl
section
variable {P : Program} {kt : TypeId} (hu : P.underlying kt = some .string)
include hu
theorem Zn4 (k : List Int) (L : List R_si) : Zby P kt (.string (Zb k)) (Zbb L) = some ((L.findIdx? (fun x => Zaa k x.a0)).map fun j => (j, .int .i64 (Z2 L k))) := by
 unfold Zby
 rw [hu]
 show Instr.findNow .string (.string (Zb k)) (Zbb L) 0 = _
 rw [ZtB]
 simp
theorem ZxQ {x : ByteArray} {L : List R_si} {k : List Int} (hx : x = Zb k) (h : Zba L k = true) : (Zby P kt (.string x) (Zbb L)).map (Option.map Prod.snd) = some (some (.int .i64 (Z2 L k))) := by
 subst hx
 rw [Zn4 hu]
 rw [ZvQ] at h
 cases hi : L.findIdx? (fun x => Zaa k x.a0) with
 | none => rw [hi] at h; cases h
 | some j => rfl
theorem ZxR {x : ByteArray} {L : List R_si} {k : List Int} (hx : x = Zb k) (h : ¬ (Zba L k = true)) : (Zby P kt (.string x) (Zbb L)).map (Option.map Prod.snd) = some none := by
 subst hx
 rw [Zn4 hu]
 rw [ZvQ] at h
 cases hi : L.findIdx? (fun x => Zaa k x.a0) with
 | none => rfl
 | some j => rw [hi] at h; exact absurd rfl h
omit hu in
theorem ZtC (k : List Int) (v : Int) : ∀ (L : List R_si), (match L.findIdx? (fun x => Zaa k x.a0) with | none => Zbb L ++ [⟨.string (Zb k), .int .i64 v, 0⟩] | some j => (Zbb L).modify j fun e => ⟨.string (Zb k), .int .i64 v, e.born⟩) = Zbb (ZaS L k v)
 | [] => rfl
 | x :: L => by
  rw [List.findIdx?_cons]
  cases h : Zaa k x.a0 with
  | true =>
   simp only [if_true, ZaS, h]
   simp [Zbb]
  | false =>
   simp only [Bool.false_eq_true, if_false, ZaS, h]
   have ih := ZtC k v L
   cases hi : L.findIdx? (fun x => Zaa k x.a0) with
   | none =>
    rw [hi] at ih
    simp only [Option.map_none]
    simp only [Zbb, List.map_cons, List.cons_append] at ih ⊢
    rw [ih]
   | some j =>
    rw [hi] at ih
    simp only [Option.map_some]
    simp only [Zbb, List.map_cons, List.modify_succ_cons] at ih ⊢
    rw [ih]
omit hu in
theorem Zyy {k : List Int} : ∀ {L : List R_si} {j : Nat}, L.findIdx? (fun x => Zaa k x.a0) = some j → (((Zbb L)[j]?).map (·.key)).getD (.string (Zb k)) = .string (Zb k) := by
 intro L j h
 obtain ⟨hj, hp, _⟩ := List.findIdx?_eq_some_iff_getElem.1 h
 have hp' : Zb k = Zb (L[j].a0) := bEq.1 hp
 simp [Zbb, hj, hp']
theorem Zyz {x : ByteArray} {k : List Int} (hx : x = Zb k) (L : List R_si) (v : Int) : putM P kt (.string x) (.int .i64 v) (Zbb L) = some (Zbb (ZaS L k v)) := by
 subst hx
 unfold putM
 rw [Zn4 hu]
 have h := ZtC k v L
 cases hi : L.findIdx? (fun x => Zaa k x.a0) with
 | none => rw [hi] at h; exact congrArg some h
 | some j =>
  rw [hi] at h
  simp only [Option.map_some]
  rw [Zyy hi]
  have hs : Instr.sameBits 10000 (.string (Zb k)) (.string (Zb k)) = true := bEq.2 rfl
  rw [hs]
  exact congrArg some h
end
theorem Zpe {x : ByteArray} {L : List R_si} {k : List Int} (hx : x = Zb k) (h : Zba L k = true) : (Zby Tryd.prog 9 (.string x) (Zbb L)).map (Option.map Prod.snd) = some (some (.int .i64 (Z2 L k))) := ZxQ Tryd.underlying9 hx h
theorem Zm5 {x : ByteArray} {L : List R_si} {k : List Int} (hx : x = Zb k) (h : ¬ (Zba L k = true)) : (Zby Tryd.prog 9 (.string x) (Zbb L)).map (Option.map Prod.snd) = some none := ZxR Tryd.underlying9 hx h
theorem ZxS {x : ByteArray} {k : List Int} (hx : x = Zb k) (L : List R_si) (v : Int) : putM Tryd.prog 9 (.string x) (.int .i64 v) (Zbb L) = some (Zbb (ZaS L k v)) := Zyz Tryd.underlying9 hx L v
instance : Inhabited RA := ⟨RA.z⟩
instance : Inhabited R_is := ⟨R_is.z⟩
instance : Inhabited R_si := ⟨R_si.z⟩
def ZrV : FuncId → Option (List Value → Option Value) := fun f =>
 bif Nat.beq f 8 then some (fun l => match l with | [] => some (.bool true) | _ => none) else
 none
theorem ZuD (w : World) (ht : TabW w) : Calls Tryd.prog 8 #[] w (Ret (.bool true) w) := ZtA w ht
theorem ZxT : Zoo ZrV := fun f g h => by
 unfold ZrV at h
 cases hb : Nat.beq f 8 with
 | true =>
  rw [hb] at h
  obtain rfl := Nat.eq_of_beq_eq_true hb
  simp only [cond_true, Option.some.injEq] at h
  subst h
  refine ⟨⟨_, _, Tryd.func8, rfl⟩, fun args v ha hv w ht => ?_⟩
  obtain ⟨l⟩ := args
  cases l with
  | nil =>
   change some (Value.bool true) = some v at hv
   injection hv with hv
   subst hv
   exact ZuD w ht
  | cons x l => change (none : Option Value) = some v at hv; cases hv
 | false =>
  rw [hb] at h
  simp only [cond_false] at h
  cases h
def ZvR : FuncId → Bool := fun f => Nat.beq f 52 || Nat.beq f 51 || Nat.beq f 50 || Nat.beq f 62 || Nat.beq f 38 || Nat.beq f 9 || Nat.beq f 59 || Nat.beq f 16 || Nat.beq f 61 || Nat.beq f 14
noncomputable def ZrW : FuncId → Option Ext := ZlO (Zr7 ZrV) ZvR
theorem ZwP : Fit Tryd.prog ZrW := Zr8 (Zu4 ZxT) (fun f h => by
 simp only [ZvR, Bool.or_eq_true] at h
 simp only [Nat.beq_eq] at h
 rcases h with ((((((((rfl | rfl) | rfl) | rfl) | rfl) | rfl) | rfl) | rfl) | rfl) | rfl
 ·exact ⟨_, _, Tryd.func52, rfl⟩
 ·exact ⟨_, _, Tryd.func51, rfl⟩
 ·exact ⟨_, _, Tryd.func50, rfl⟩
 ·exact ⟨_, _, Tryd.func62, rfl⟩
 ·exact ⟨_, _, Tryd.func38, rfl⟩
 ·exact ⟨_, _, Tryd.func9, rfl⟩
 ·exact ⟨_, _, Tryd.func59, rfl⟩
 ·exact ⟨_, _, Tryd.func16, rfl⟩
 ·exact ⟨_, _, Tryd.func61, rfl⟩
 ·exact ⟨_, _, Tryd.func14, rfl⟩
 )
noncomputable def ZrX : FuncId → Option Ext := ZlO Zu3 (fun f => Nat.beq f 38)
theorem ZwQ : Fit Tryd.prog ZrX := Zr8 ZwB (fun f h => by
 simp only [Nat.beq_eq] at h
 subst h
 exact ⟨_, _, Tryd.func38, rfl⟩)
noncomputable def ZG : FuncId → Option Ext := fun x => bif Nat.beq x 30 then some (.hp (ZiD Tryd.prog ZrX 20000 30)) else ZrW x
theorem ZdD : Fit Tryd.prog ZG := Zt9 ZwP (ZkP ZwQ Tryd.func30 rfl)
noncomputable abbrev rdc (L1 : List Int) (a2 : Int) (L3 : List RA) (L4 : List Int) (L5 : List R_is) (L6 : List (List Int)) : List Value := [Value.string (Zb L1), vi a2, vs 1 0 L3.length L3.length, vs 2 0 L4.length L4.length, vs 3 0 L5.length L5.length, vs 4 0 L6.length L6.length, Value.map (some 5)]
noncomputable abbrev rpr (L1 : List Int) (a2 : Int) (L3 : List RA) (L4 : List Int) (L5 : List R_is) (L6 : List (List Int)) (L7 : List R_si) : List AObj := [.cells (rdc L1 a2 L3 L4 L5 L6) 57, .cells (Zg E_iiii L3) 24 true, .cells (Zg eI L4) 3 true, .cells (Zg ZM L5) 122 true, .cells (Zg Zag L6) 9 true, .ro (Zm L7) true]
abbrev wsl (M : List Int) (k : Nat) : List Cell := [.s (Zb (wd M k))]
theorem ZbG {M : List Int} (i : Nat) (h : i < (wds M).length) : ZbK (Z8 1 (List.drop (0 + i * 1) (Zg Zag (wds M)))) (wsl M i) = true := Zb1 (E := Zag) (L := wds M) (i := i) (q := 0) h (show 0 + i * 1 = i * 1 + 0 from by omega) (show 0 + 1 ≤ 1 from by decide) rfl rfl
theorem nBf {b : Bool} (h : b = true := by first | assumption | exact Decidable.not_not.1 (by assumption) | simp_all) : (!b) = false := Zyq h
theorem nBt {b : Bool} (h : ¬ (b = true) := by first | assumption | simp_all) : (!b) = true := Zyp h
abbrev aic (v : List RA) (k : Nat) : List Cell := [.i (ai v k).a0, .i (ai v k).a1, .i (ai v k).a2, .i (ai v k).a3]
def numb : Nat → List Bool → List (Nat × Bool)
 | _, [] => []
 | k, c :: r => (k, c) :: numb (k + 1) r
abbrev o0 : Bool := false
abbrev o1 : Bool := true
noncomputable def Zs (b : List Bool) (v : List (Nat × Int)) (x : List (Nat × Nat)) (l : List (Nat × List Cell)) (w : List (Nat × Za5)) : Orc := Zp (numb 0 b) v x l w
theorem dcd {p : Prop} [Decidable p] (h : p := by decide) : p := h
end Ev
end Go.Proofs.YtlbbiflodemagaaDoor
/- Calls do what the plain functions say. -/
namespace Go.Proofs.YtlbbiflodemagaaDoor
open Go.RowKit
namespace Ev
set_option linter.unusedVariables false
set_option maxRecDepth 100000
noncomputable def Zma (L0 : List Int) : Zak → Value
 | .r0 w0 => Value.bool w0
noncomputable def Zln (L0 : List Int) : Zak → List (Option AObj)
 | .r0 w0 => []

def Zq3 : Zal → Nat
 | .h1m0 v2 => 1
noncomputable def ZrY (L0 : List Int) : Zal → List (Nat × Value)
 | .h1m0 v2 => [(14, vs 0 0 L0.length L0.length), (15, vi (L0.length : Int)), (16, vi (v2 : Int))]
noncomputable abbrev κcu (L0 : List Int) := [some (AObj.cells (Zg (Zau .u8) L0) 5)]
noncomputable def ZrZ (L0 : List Int) : Zal → List (Option AObj)
 | .h1m0 v2 => (κcu L0)

noncomputable def ZgO : Nat → Code × List Zbk
 | 1 => Zem [1, 1, 0, 1, 3] (Zgn Tryd.f59) []
 | _ => (.skip, [])
def Zq4 : Nat → Bool
 | 1 => true
 | _ => true
noncomputable def Zc8 (L0 : List Int) (N : Nat) : Mach := ⟨Tryd.f59, [], Zal, Zak, ZcH L0 N, Zq3, ZgO, Zq4, ZrY L0, ZrZ L0, Zma L0, Zln L0⟩

noncomputable def Zbs (L0 : List Int) (v2 : Nat) : OB := (ZbK (Z8 1 (List.drop (0 + (v2 * 1)) (Zg (Zau .u8) L0))) [.k .u8 (L0.getD v2 0)], true) :: (Nat.blt v2 L0.length, true) :: ((v2 : Int) == Int.ofNat v2, true) :: ((decide ((v2 : Int) < (L0.length : Int))), true) :: []

noncomputable abbrev κcY (L0 : List Int) (v2 : Nat) := ((decide ((L0.getD v2 0) ≥ (65 : Int))), true)
noncomputable abbrev κcU (L0 : List Int) (v2 : Nat) := ((decide ((L0.getD v2 0) ≤ (57 : Int))), false)
noncomputable abbrev κcx (L0 : List Int) (v2 : Nat) := ((decide ((L0.getD v2 0) ≥ (48 : Int))), true)
noncomputable abbrev κch (L0 : List Int) (v2 : Nat) := ((decide ((L0.getD v2 0) ≥ (97 : Int))), false)
noncomputable abbrev κbT (v2 : Nat) := ((IntKind.i64.wrap ((v2 : Int) + (1 : Int))) == (((v2 + 1) : Nat) : Int), true)
noncomputable abbrev κbS (L0 : List Int) (v2 : Nat) := [some (vs 0 0 L0.length L0.length), some (vi (L0.length : Int)), some (vi (((v2 + 1) : Nat) : Int))]
set_option maxHeartbeats 4000000 in
theorem ZmA (L0 : List Int) (v2 N : Nat) : (Zc8 L0 N).Ok Tryd.prog ZG (.h1m0 v2 : Zal) (ZcH L0 N (.h1m0 v2 : Zal)) := by
 show (Zc8 L0 N).Ok Tryd.prog ZG (.h1m0 v2 : Zal) (ZbX L0 N v2)
 unfold ZbX
 refine Mach.ok_ite (fun g0 => ?_) (fun g0 => ?_)
 ·
  have w1 : OkL (Zbs L0 v2) :=
   Za (Zb1 (E := (Zau .u8)) (L := L0) (i := v2) (q := 0) (by omega) (show (0 + (v2 * 1)) = v2 * 1 + 0 from by omega) (show 0 + 1 ≤ 1 from by decide) rfl rfl) <| oB <| oI <| oY <| Z6
  refine Mach.ok_ite (fun g1 => ?_) (fun g1 => ?_)
  ·
   refine Mach.ok_ite (fun g2 => ?_) (fun g2 => ?_)
   ·
    refine Mach.ok_ite (fun g3 => ?_) (fun _ => Mach.ok_none)
    exact Mach.oN (orc := (Zs [o1, o1, o1] [(0, (((v2 + 1) : Nat) : Int))] [(0, v2)] [(0, [.k .u8 (L0.getD v2 0)])] [])) (live := [0]) (tv := fun _ => (κbS L0 v2)) (bl := (κcu L0)) (ob := ((κbT v2) :: ((decide ((L0.getD v2 0) ≤ (122 : Int))), true) :: ((decide ((L0.getD v2 0) ≥ (97 : Int))), true) :: Zbs L0 v2)) (Za (beq_iff_eq.2 ((wrap_i64 ltA).trans (by first | rfl | omega))) <| oY <| oY <| w1) (fun _ => ⟨rr, ⟨rr, ⟨rr, trivial⟩⟩⟩) ⟨(Zx (E := (Zau .u8)) _ L0 _), trivial⟩
   ·
    exact Mach.oF (orc := (Zs [o1, o1, o0, o1, o0, o1, o0, o0] [] [(0, v2)] [(0, [.k .u8 (L0.getD v2 0)])] [])) (live := []) (u := vf) (bl := []) (ob := ((((L0.getD v2 0) == (95 : Int)), false) :: (κcU L0 v2) :: (κcx L0 v2) :: ((decide ((L0.getD v2 0) ≤ (90 : Int))), false) :: (κcY L0 v2) :: ((decide ((L0.getD v2 0) ≤ (122 : Int))), false) :: ((decide ((L0.getD v2 0) ≥ (97 : Int))), true) :: Zbs L0 v2)) (oF <| oN <| oY <| oN <| oY <| oN <| oY <| w1) rr trivial
  ·
   refine Mach.ok_ite (fun g2 => ?_) (fun g2 => ?_)
   ·
    refine Mach.ok_ite (fun g3 => ?_) (fun g3 => ?_)
    ·
     refine Mach.ok_ite (fun g4 => ?_) (fun _ => Mach.ok_none)
     exact Mach.oN (orc := (Zs [o1, o0, o1, o1] [(0, (((v2 + 1) : Nat) : Int))] [(0, v2)] [(0, [.k .u8 (L0.getD v2 0)])] [])) (live := [0]) (tv := fun _ => (κbS L0 v2)) (bl := (κcu L0)) (ob := ((κbT v2) :: ((decide ((L0.getD v2 0) ≤ (90 : Int))), true) :: (κcY L0 v2) :: (κch L0 v2) :: Zbs L0 v2)) (Za (beq_iff_eq.2 ((wrap_i64 ltA).trans (by first | rfl | omega))) <| oY <| oY <| oN <| w1) (fun _ => ⟨rr, ⟨rr, ⟨rr, trivial⟩⟩⟩) ⟨(Zx (E := (Zau .u8)) _ L0 _), trivial⟩
    ·
     refine Mach.ok_ite (fun g4 => ?_) (fun g4 => ?_)
     ·
      refine Mach.ok_ite (fun g5 => ?_) (fun _ => Mach.ok_none)
      exact Mach.oN (orc := (Zs [o1, o0, o1, o0, o1, o0, o1] [(0, (((v2 + 1) : Nat) : Int))] [(0, v2)] [(0, [.k .u8 (L0.getD v2 0)])] [])) (live := [0]) (tv := fun _ => (κbS L0 v2)) (bl := (κcu L0)) (ob := ((κbT v2) :: (((L0.getD v2 0) == (95 : Int)), true) :: (κcU L0 v2) :: (κcx L0 v2) :: ((decide ((L0.getD v2 0) ≤ (90 : Int))), false) :: (κcY L0 v2) :: (κch L0 v2) :: Zbs L0 v2)) (Za (beq_iff_eq.2 ((wrap_i64 ltA).trans (by first | rfl | omega))) <| oT <| oN <| oY <| oN <| oY <| oN <| w1) (fun _ => ⟨rr, ⟨rr, ⟨rr, trivial⟩⟩⟩) ⟨(Zx (E := (Zau .u8)) _ L0 _), trivial⟩
     ·
      exact Mach.oF (orc := (Zs [o1, o0, o1, o0, o1, o0, o0] [] [(0, v2)] [(0, [.k .u8 (L0.getD v2 0)])] [])) (live := []) (u := vf) (bl := []) (ob := ((((L0.getD v2 0) == (95 : Int)), false) :: (κcU L0 v2) :: (κcx L0 v2) :: ((decide ((L0.getD v2 0) ≤ (90 : Int))), false) :: (κcY L0 v2) :: (κch L0 v2) :: Zbs L0 v2)) (oF <| oN <| oY <| oN <| oY <| oN <| w1) rr trivial
   ·
    refine Mach.ok_ite (fun g3 => ?_) (fun g3 => ?_)
    ·
     refine Mach.ok_ite (fun g4 => ?_) (fun g4 => ?_)
     ·
      refine Mach.ok_ite (fun g5 => ?_) (fun _ => Mach.ok_none)
      exact Mach.oN (orc := (Zs [o1, o0, o0, o1, o1] [(0, (((v2 + 1) : Nat) : Int))] [(0, v2)] [(0, [.k .u8 (L0.getD v2 0)])] [])) (live := [0]) (tv := fun _ => (κbS L0 v2)) (bl := (κcu L0)) (ob := ((κbT v2) :: ((decide ((L0.getD v2 0) ≤ (57 : Int))), true) :: (κcx L0 v2) :: ((decide ((L0.getD v2 0) ≥ (65 : Int))), false) :: (κch L0 v2) :: Zbs L0 v2)) (Za (beq_iff_eq.2 ((wrap_i64 ltA).trans (by first | rfl | omega))) <| oY <| oY <| oN <| oN <| w1) (fun _ => ⟨rr, ⟨rr, ⟨rr, trivial⟩⟩⟩) ⟨(Zx (E := (Zau .u8)) _ L0 _), trivial⟩
     ·
      exact Mach.oF (orc := (Zs [o1, o0, o0, o1, o0, o0] [] [(0, v2)] [(0, [.k .u8 (L0.getD v2 0)])] [])) (live := []) (u := vf) (bl := []) (ob := ((((L0.getD v2 0) == (95 : Int)), false) :: (κcU L0 v2) :: (κcx L0 v2) :: ((decide ((L0.getD v2 0) ≥ (65 : Int))), false) :: (κch L0 v2) :: Zbs L0 v2)) (oF <| oN <| oY <| oN <| oN <| w1) rr trivial
    ·
     exact Mach.oF (orc := (Zs [o1, o0, o0, o0, o0] [] [(0, v2)] [(0, [.k .u8 (L0.getD v2 0)])] [])) (live := []) (u := vf) (bl := []) (ob := ((((L0.getD v2 0) == (95 : Int)), false) :: ((decide ((L0.getD v2 0) ≥ (48 : Int))), false) :: ((decide ((L0.getD v2 0) ≥ (65 : Int))), false) :: (κch L0 v2) :: Zbs L0 v2)) (oF <| oN <| oN <| oN <| w1) rr trivial
 ·
  exact Mach.oF (orc := (Zs [o0] [] [] [] [])) (live := []) (u := vT) (bl := []) (ob := (((decide ((v2 : Int) < (L0.length : Int))), false) :: [])) (oN <| Z6) rr trivial

noncomputable abbrev κdo (L0 : List Int) := [Value.string (Zb L0)]
noncomputable abbrev κde (L0 : List Int) := (decide ((((Zb L0).size : Nat) : Int) < (1 : Int)))
noncomputable abbrev κda := (vi ((0 : Nat) : Int) : Value)
noncomputable abbrev κt (L0 : List Int) := #[Value.string (Zb L0)]
set_option maxHeartbeats 4000000 in
theorem Zpf (L0 : List Int) (N : Nat) : (Zc8 L0 N).Enter Tryd.prog ZG (κt L0) (ZdC L0 N) := by
 unfold ZdC
 refine Mach.en_ite (fun g0 => ?_) (fun g0 => ?_)
 ·
  exact Mach.en_fin (M := Zc8 L0 N) (cd := 1000000) (cm := 0) (r := (.r0 (false) : Zak)) (fu := 4000) (orc := (Zs [o1] [] [] [] [])) (live := []) (u := vf) (bl := []) (ob := (((κde L0), true) :: [])) (by as_aux_lemma => kernel_rfl) (oY <| Z6) rfl (by decide) (by rfl) rr trivial
 ·
  refine Mach.en_ite (fun g1 => ?_) (fun g1 => ?_)
  ·
   exact Mach.en_fin (M := Zc8 L0 N) (cd := 1000000) (cm := 0) (r := (.r0 (false) : Zak)) (fu := 4000) (orc := (Zs [o0, o1] [] [] [] [])) (live := []) (u := vf) (bl := []) (ob := (((decide ((((Zb L0).size : Nat) : Int) > (32 : Int))), true) :: ((κde L0), false) :: [])) (by as_aux_lemma => kernel_rfl) (oY <| oN <| Z6) rfl (by decide) (by rfl) rr trivial
  ·
   refine Mach.en_ite (fun g2 => ?_) (fun _ => Mach.en_none)
   exact Mach.en_head (bK := ZgO 1) (M := Zc8 L0 N) (cd := 1000000) (cm := 0) (y := (.h1m0 (0) : Zal)) (fu := 4000) (orc := (Zs [o0, o0] [] [] [] [(0, .mk L0.length L0.length (Zg (Zau .u8) L0))])) (live := [0]) (tv := [some (vs 0 0 L0.length L0.length), some (vi (L0.length : Int)), some (vq)]) (bl := (κcu L0)) (ob := ((dP (((Zb L0)).size = L0.length ∧ ZbE (Zb L0) = (Zg (Zau .u8) L0)), true) :: ((decide ((((Zb L0).size : Nat) : Int) > (32 : Int))), false) :: ((κde L0), false) :: [])) rfl rfl (show Za9 (ZgO 1).2 = [] from rfl) (by as_aux_lemma => kernel_rfl) (Za (Zj ⟨(ZjF (x := (Zb L0)) (M := L0) (m := L0.length) rfl (by assumption) ltA).1.symm, (ZjF (x := (Zb L0)) (M := L0) (m := L0.length) rfl (by assumption) ltA).2.symm⟩) <| oN <| oN <| Z6) rfl (by decide) (by rfl) ⟨rr, ⟨rr, ⟨⟨Eq.trans (show κda = vq from (congrArg (Value.int .i64) (by first | rfl | omega))) (by rfl), by rfl⟩, trivial⟩⟩⟩ ⟨(Zx (E := (Zau .u8)) _ L0 _), trivial⟩

theorem Zn5 (L0 : List Int) (N : Nat) (r : Zak) (h : ZeK L0 N = some r) : LSpec Tryd.prog 59 (κt L0) [] (Zma L0 r) (Zln L0 r) :=
 Mach.spec ZdD (Zc8 L0 N) Tryd.func59 (by kernel_rfl) (by kernel_rfl) (fun x => by cases x <;> exact ZaV _ rfl) (fun r => by cases r <;> exact ZaV _ rfl) (fun x => by
  cases x with
  | h1m0 _ => exact fun _ => (show ¬ (1 ∈ Za9 (ZgO 1).2) from by decide +kernel)
  ) (fun x => (show (Zc8 L0 N).Ok Tryd.prog ZG x (ZcH L0 N x) from by
  cases x with
  | h1m0 v2 => exact ZmA L0 v2 N
  )) (Zpf L0 N) (n := N) h

noncomputable def Zgo (L0 : List Int) (w0 : Bool) (n : Nat) : Za5 := .call [] (Value.bool w0) [] 0
def ZeE (A : Array Value) (L0 : List Int) (w0 : Bool) (n : Nat) : Prop := Z3 Tryd.prog 59 A [] (Value.bool w0) [] n 0

theorem Zgp (A : Array Value) (L0 : List Int) (w0 : Bool) (N : Nat) (h : ZeK L0 N = some (.r0 w0)) (n : Nat) (hA : A = (κt L0)) (hnd : ([] : List Nat).Nodup) (hlt : ∀ k ∈ ([] : List Nat), k < n) : ZeE A L0 w0  n :=
 Zae hA (cX0 (show LSpec Tryd.prog 59 (κt L0) [] (Value.bool w0) [] from Zn5 L0 N _ h) [] n [] hnd hlt)

noncomputable def Zgv (L0 L1 : List Int) (a2 : Int) (L3 : List RA) (L4 : List Int) (L5 : List R_is) (L6 : List (List Int)) (L7 : List R_si) : Zbn → Value
 | .r0 => Value.iface 88 (Value.agg #[vi a2])
 | .r1 => vtt
noncomputable abbrev κb6 (L6 : List (List Int)) (L0 : List Int) := (Zg Zag (L6 ++ ([L0] : List (List Int))))
noncomputable abbrev κbU (L4 : List Int) := (AObj.cells (Zg eI L4) 3 true)
noncomputable abbrev κbK (L3 : List RA) := (AObj.cells (Zg E_iiii L3) 24 true)
noncomputable abbrev κW (L5 : List R_is) := (AObj.cells (Zg ZM L5) 122 true)
noncomputable def ZfQ (L0 L1 : List Int) (a2 : Int) (L3 : List RA) (L4 : List Int) (L5 : List R_is) (L6 : List (List Int)) (L7 : List R_si) : Zbn → List (Option AObj)
 | .r0 => [none, none, none, none, none, none]
 | .r1 => [some (.cells [Value.string (Zb L1), vi a2, vs 1 0 L3.length L3.length, vs 2 0 L4.length L4.length, vs 3 0 L5.length L5.length, vs 6 0 (L6.length + 1) (L6.length + 1), Value.map (some 5)] 57), some (κbK L3), some (κbU L4), some (κW L5), none, some (.ro (Zm (ZaS L7 L0 (L3.length : Int))) true), some (.cells (κb6 L6 L0) 9)]

noncomputable def Zhk : FuncId → Option Ext := fun f => bif Nat.beq f 50 then none else ZG f
theorem Zhl : Fit Tryd.prog Zhk := Zh2 ZdD _

noncomputable abbrev κby (L0 : List Int) := #[vp 0 0, Value.string (Zb L0)]
theorem ZhT {L0 : List Int} {L1 : List Int} {a2 : Int} {L3 : List RA} {L4 : List Int} {L5 : List R_is} {L6 : List (List Int)} {L7 : List R_si} (orc : Orc) (ob : OB) (ho : ∀ p ∈ ob, p.1 = p.2) (hev : Zje Tryd.prog Zhk 50 (rpr L1 a2 L3 L4 L5 L6 L7) (κby L0) 4000 orc = some (Value.iface 88 (Value.agg #[vi a2]), ob) := by as_aux_lemma => kernel_rfl) : Gx Tryd.prog 50 (rpr L1 a2 L3 L4 L5 L6 L7) (κby L0) (Zgv L0 L1 a2 L3 L4 L5 L6 L7) (ZfQ L0 L1 a2 L3 L4 L5 L6 L7) (some (.r0 : Zbn)) := ZlY Zhl hev ho rfl (by rfl) (by rfl) (ZaV _ rfl)

noncomputable abbrev κc6 (L0 : List Int) (L7 : List R_si) := (Zby Tryd.prog 9 (Value.string (Zb L0)) (Zbb L7))
set_option maxHeartbeats 4000000 in
theorem Zmb (L0 L1 : List Int) (a2 : Int) (L3 : List RA) (L4 : List Int) (L5 : List R_is) (L6 : List (List Int)) (L7 : List R_si) (N : Nat) : Gx Tryd.prog 50 (rpr L1 a2 L3 L4 L5 L6 L7) (κby L0) (Zgv L0 L1 a2 L3 L4 L5 L6 L7) (ZfQ L0 L1 a2 L3 L4 L5 L6 L7) (Zb2 L0 L1 a2 L3 L4 L5 L6 L7 N) := by
 unfold Zb2
 refine Zc (fun g0 => ?_) (fun g0 => ?_)
 ·
  exact ZhT (Zp [] [] [] [] [(0, .lk (some (vi (Z2 L7 L0))))]) ((dP ((κc6 L0 L7).map (Option.map Prod.snd) = some (some (vi (Z2 L7 L0)))), true) :: []) (Za (Zj (Zpe rfl (by assumption))) <| Z6)
 ·
  refine ZaF (fun z1 c1 => ?_)
  cases z1 with
  | r0 y1_0 =>
   refine Zc (fun g2 => ?_) (fun g2 => ?_)
   ·
    exact ZhT (Zs [o1] [] [] [] [(0, .lk (none)), (1, (Zgo (L0)  y1_0  6))]) (((!y1_0), true) :: (dP (ZeE (κt L0) (L0)  y1_0  6), true) :: (dP ((κc6 L0 L7).map (Option.map Prod.snd) = some (none)), true) :: []) (Za nBt <| Za (Zj (Zgp (κt L0) (L0)  y1_0 N c1  6 rfl dcd dcd)) <| Za (Zj (Zm5 rfl (by assumption))) <| Z6)
   ·
    refine Zc (fun g3 => ?_) (fun _ => Zq)
    exact gxF Zhl (orc := (Zs [o0] [] [] [] [(0, .lk (none)), (1, (Zgo (L0)  y1_0  6)), (2, .mp (Zbb (ZaS L7 L0 (L3.length : Int)))), (3, .ap 1 (κdo L0) (κb6 L6 L0))])) (live := [0, 1, 2, 3, 4, 5, 7]) (u := vtt) (bl := [some (.cells [Value.string (Zb L1), vi a2, vs 1 0 L3.length L3.length, vs 2 0 L4.length L4.length, vs 3 0 L5.length L5.length, vs 7 0 (L6.length + 1) (L6.length + 1), Value.map (some 5)] 57), some (κbK L3), some (κbU L4), some (κW L5), none, some (.ro (Zm (ZaS L7 L0 (L3.length : Int))) true), some (.cells (κb6 L6 L0) 9)]) (ob := ((dP ((1 = 1 ∧ Z8 (1 * 1) (List.drop 0 (κdo L0)) = some (κdo L0) ∧ Zw ZaZ (κdo L0) = true) ∧ 0 < 1 ∧ 1 ≤ 100000 ∧ L6.length < L6.length + 1 ∧ L6.length ≤ 100000 ∧ L6.length * 1 ≤ (List.length (Zg Zag L6)) ∧ List.take (L6.length * 1) (Zg Zag L6) ++ (κdo L0) = (κb6 L6 L0)), true) :: (dP (putM Tryd.prog 9 (Value.string (Zb L0)) (vi (L3.length : Int)) (Zbb L7) = some (Zbb (ZaS L7 L0 (L3.length : Int)))), true) :: ((!y1_0), false) :: (dP (ZeE (κt L0) (L0)  y1_0  6), true) :: (dP ((κc6 L0 L7).map (Option.map Prod.snd) = some (none)), true) :: [])) (Za (Zj ⟨⟨rfl, ⟨rfl, rfl⟩⟩, by omega, by omega, ltA, by omega, (Zat (E := Zag) (L := L6) (M := ([L0] : List (List Int))) (n := L6.length) (show _ = _ * 1 from rfl) (by omega) (R := (L6 ++ ([L0] : List (List Int)))) (by rw [List.take_of_length_le (by omega)]))⟩) <| Za (Zj (ZxS rfl _ _)) <| Za nBf <| Za (Zj (Zgp (κt L0) (L0)  y1_0 N c1  6 rfl dcd dcd)) <| Za (Zj (Zm5 rfl (by assumption))) <| Z6) rr ⟨sm, ⟨(Zl (E := E_iiii) _ L3 _), ⟨(Zl (E := eI) _ L4 _), ⟨(Zl (E := ZM) _ L5 _), ⟨(show Zm (ZaS L7 L0 (L3.length : Int)) = Zm (ZaS L7 L0 (L3.length : Int)) from rfl), ⟨(Zx (E := Zag) _ (L6 ++ ([L0] : List (List Int))) _), trivial⟩⟩⟩⟩⟩⟩

theorem ZgP (L0 L1 : List Int) (a2 : Int) (L3 : List RA) (L4 : List Int) (L5 : List R_is) (L6 : List (List Int)) (L7 : List R_si) (N : Nat) (r : Zbn) (h : Zb2 L0 L1 a2 L3 L4 L5 L6 L7 N = some r) : LSpec Tryd.prog 50 (κby L0) (rpr L1 a2 L3 L4 L5 L6 L7) (Zgv L0 L1 a2 L3 L4 L5 L6 L7 r) (ZfQ L0 L1 a2 L3 L4 L5 L6 L7 r) :=
 Zmb L0 L1 a2 L3 L4 L5 L6 L7 N r h

noncomputable abbrev κba (a2 : Int) := (Value.iface 88 (Value.agg #[vi a2]))
noncomputable abbrev κa (k0 : Nat) (L1 : List Int) (a2 : Int) (k1 : Nat) (L3 : List RA) (k2 : Nat) (L4 : List Int) (k3 : Nat) (L5 : List R_is) (k4 : Nat) (L6 : List (List Int)) (k5 : Nat) (L7 : List R_si) := [(k0, AObj.cells [Value.string (Zb L1), vi a2, vs k1 0 L3.length L3.length, vs k2 0 L4.length L4.length, vs k3 0 L5.length L5.length, vs k4 0 L6.length L6.length, Value.map (some k5)] 57), (k1, AObj.cells (Zg E_iiii L3) 24 true), (k2, AObj.cells (Zg eI L4) 3 true), (k3, AObj.cells (Zg ZM L5) 122 true), (k4, AObj.cells (Zg Zag L6) 9 true), (k5, AObj.ro (Zm L7) true)]
noncomputable def ZmB (L0 L1 : List Int) (a2 : Int) (L3 : List RA) (L4 : List Int) (L5 : List R_is) (L6 : List (List Int)) (L7 : List R_si) (k0 k1 k2 k3 k4 k5 n : Nat) : Za5 := .call (κa k0 L1 a2 k1 L3 k2 L4 k3 L5 k4 L6 k5 L7) (κba a2) [(k0, none), (k1, none), (k2, none), (k3, none), (k4, none), (k5, none)] 0
def Zin (A : Array Value) (L0 L1 : List Int) (a2 : Int) (L3 : List RA) (L4 : List Int) (L5 : List R_is) (L6 : List (List Int)) (L7 : List R_si) (k0 k1 k2 k3 k4 k5 n : Nat) : Prop := Z3 Tryd.prog 50 A (κa k0 L1 a2 k1 L3 k2 L4 k3 L5 k4 L6 k5 L7) (κba a2) [(k0, none), (k1, none), (k2, none), (k3, none), (k4, none), (k5, none)] n 0

noncomputable abbrev κcV (k0 : Nat) (L0 : List Int) := #[vp k0 0, Value.string (Zb L0)]
theorem ZmC (A : Array Value) (L0 L1 : List Int) (a2 : Int) (L3 : List RA) (L4 : List Int) (L5 : List R_is) (L6 : List (List Int)) (L7 : List R_si) (N : Nat) (h : Zb2 L0 L1 a2 L3 L4 L5 L6 L7 N = some (.r0)) (k0 k1 k2 k3 k4 k5 n : Nat) (hA : A = (κcV k0 L0)) (hnd : ([k0, k1, k2, k3, k4, k5] : List Nat).Nodup) (hlt : ∀ k ∈ ([k0, k1, k2, k3, k4, k5] : List Nat), k < n) : Zin A L0 L1 a2 L3 L4 L5 L6 L7 k0 k1 k2 k3 k4 k5 n :=
 Zae hA (cX0 (show LSpec Tryd.prog 50 (κby L0) (rpr L1 a2 L3 L4 L5 L6 L7) (κba a2) [none, none, none, none, none, none] from ZgP L0 L1 a2 L3 L4 L5 L6 L7 N _ h) [k0, k1, k2, k3, k4, k5] n [0, 1, 2, 3, 4, 5] hnd hlt)

noncomputable def ZmD (L0 L1 : List Int) (a2 : Int) (L3 : List RA) (L4 : List Int) (L5 : List R_is) (L6 : List (List Int)) (L7 : List R_si) (k0 k1 k2 k3 k4 k5 n : Nat) : Za5 := .call (κa k0 L1 a2 k1 L3 k2 L4 k3 L5 k4 L6 k5 L7) (vtt) [(k0, some (.cells [Value.string (Zb L1), vi a2, vs k1 0 L3.length L3.length, vs k2 0 L4.length L4.length, vs k3 0 L5.length L5.length, vs n 0 (L6.length + 1) (L6.length + 1), Value.map (some k5)] 57)), (k4, none), (k5, some (.ro (Zm (ZaS L7 L0 (L3.length : Int))) true)), (n, some (.cells (κb6 L6 L0) 9))] 1
def Zio (A : Array Value) (L0 L1 : List Int) (a2 : Int) (L3 : List RA) (L4 : List Int) (L5 : List R_is) (L6 : List (List Int)) (L7 : List R_si) (k0 k1 k2 k3 k4 k5 n : Nat) : Prop := Z3 Tryd.prog 50 A (κa k0 L1 a2 k1 L3 k2 L4 k3 L5 k4 L6 k5 L7) (vtt) [(k0, some (.cells [Value.string (Zb L1), vi a2, vs k1 0 L3.length L3.length, vs k2 0 L4.length L4.length, vs k3 0 L5.length L5.length, vs n 0 (L6.length + 1) (L6.length + 1), Value.map (some k5)] 57)), (k4, none), (k5, some (.ro (Zm (ZaS L7 L0 (L3.length : Int))) true)), (n, some (.cells (κb6 L6 L0) 9))] n 1

theorem ZmE (A : Array Value) (L0 L1 : List Int) (a2 : Int) (L3 : List RA) (L4 : List Int) (L5 : List R_is) (L6 : List (List Int)) (L7 : List R_si) (N : Nat) (h : Zb2 L0 L1 a2 L3 L4 L5 L6 L7 N = some (.r1)) (k0 k1 k2 k3 k4 k5 n : Nat) (hA : A = (κcV k0 L0)) (hnd : ([k0, k1, k2, k3, k4, k5] : List Nat).Nodup) (hlt : ∀ k ∈ ([k0, k1, k2, k3, k4, k5] : List Nat), k < n) : Zio A L0 L1 a2 L3 L4 L5 L6 L7 k0 k1 k2 k3 k4 k5 n :=
 Zae hA (cX0 (show LSpec Tryd.prog 50 (κby L0) (rpr L1 a2 L3 L4 L5 L6 L7) (vtt) [some (.cells [Value.string (Zb L1), vi a2, vs 1 0 L3.length L3.length, vs 2 0 L4.length L4.length, vs 3 0 L5.length L5.length, vs 6 0 (L6.length + 1) (L6.length + 1), Value.map (some 5)] 57), some (κbK L3), some (κbU L4), some (κW L5), none, some (.ro (Zm (ZaS L7 L0 (L3.length : Int))) true), some (.cells (κb6 L6 L0) 9)] from ZgP L0 L1 a2 L3 L4 L5 L6 L7 N _ h) [k0, k1, k2, k3, k4, k5] n [0, 4, 5, 6] hnd hlt)

noncomputable def Zgq (L0 : List Int) : instr_ByNameR → Value
 | .r0 w0 w1 => Value.tuple #[vi w0, Value.bool w1]
noncomputable def ZfJ (L0 : List Int) : instr_ByNameR → List (Option AObj)
 | .r0 w0 w1 => []

abbrev ZQ (L0 : List Int) (r : instr_ByNameR) : Prop := Gx Tryd.prog 61 [] (κt L0) (Zgq L0) (ZfJ L0) (some r)
theorem ZT {L0 : List Int} {r : instr_ByNameR} {orc : Orc} {u : Value} {ob : OB} (hev : Zan [] (Zar Tryd.prog ZG 61 [] (κt L0) 4000 orc) = some (u, [], ob)) (ho : ∀ p ∈ ob, p.1 = p.2) (hv : Zgq L0 r = Zam (rho [] far) 3 u ∧ ZY 3 u = true) (hp : ZfJ L0 r = [] := by rfl) : ZQ L0 r :=
 Zku ZdD (live := []) (bl := []) hev ho (by rw [hp]; rfl) (by decide) (by rfl) hv (by rw [hp]; trivial) (by rw [hp]; exact ZaV _ rfl)

theorem Zpg {L0 : List Int} (orc : Orc) (ob : OB) (ho : ∀ p ∈ ob, p.1 = p.2) (hev : Zan [] (Zar Tryd.prog ZG 61 [] (κt L0) 4000 orc) = some (Value.tuple #[vi (1 : Int), vT], [], ob) := by as_aux_lemma => kernel_rfl) : ZQ L0 (.r0 (1) (true) : instr_ByNameR) := ZT hev ho rr

noncomputable def ZgQ (L0 : List Int) : OB := (((⟨#[99, 111, 110, 115, 116]⟩ : ByteArray).toList == (Zb L0).toList), false) :: []

theorem Zph {L0 : List Int} (orc : Orc) (ob : OB) (ho : ∀ p ∈ ob, p.1 = p.2) (hev : Zan [] (Zar Tryd.prog ZG 61 [] (κt L0) 4000 orc) = some (Value.tuple #[vi (2 : Int), vT], [], ob) := by as_aux_lemma => kernel_rfl) : ZQ L0 (.r0 (2) (true) : instr_ByNameR) := ZT hev ho rr

noncomputable def ZgR (L0 : List Int) : OB := (((⟨#[110, 105, 108]⟩ : ByteArray).toList == (Zb L0).toList), false) :: ZgQ L0

theorem Zpi {L0 : List Int} (orc : Orc) (ob : OB) (ho : ∀ p ∈ ob, p.1 = p.2) (hev : Zan [] (Zar Tryd.prog ZG 61 [] (κt L0) 4000 orc) = some (Value.tuple #[vi (3 : Int), vT], [], ob) := by as_aux_lemma => kernel_rfl) : ZQ L0 (.r0 (3) (true) : instr_ByNameR) := ZT hev ho rr

noncomputable def ZgS (L0 : List Int) : OB := (((⟨#[109, 111, 118, 101]⟩ : ByteArray).toList == (Zb L0).toList), false) :: ZgR L0

theorem Zpj {L0 : List Int} (orc : Orc) (ob : OB) (ho : ∀ p ∈ ob, p.1 = p.2) (hev : Zan [] (Zar Tryd.prog ZG 61 [] (κt L0) 4000 orc) = some (Value.tuple #[vi (4 : Int), vT], [], ob) := by as_aux_lemma => kernel_rfl) : ZQ L0 (.r0 (4) (true) : instr_ByNameR) := ZT hev ho rr

noncomputable def ZgT (L0 : List Int) : OB := (((⟨#[97, 100, 100]⟩ : ByteArray).toList == (Zb L0).toList), false) :: ZgS L0

theorem Zpk {L0 : List Int} (orc : Orc) (ob : OB) (ho : ∀ p ∈ ob, p.1 = p.2) (hev : Zan [] (Zar Tryd.prog ZG 61 [] (κt L0) 4000 orc) = some (Value.tuple #[vi (5 : Int), vT], [], ob) := by as_aux_lemma => kernel_rfl) : ZQ L0 (.r0 (5) (true) : instr_ByNameR) := ZT hev ho rr

noncomputable def ZgU (L0 : List Int) : OB := (((⟨#[115, 117, 98]⟩ : ByteArray).toList == (Zb L0).toList), false) :: ZgT L0

theorem Zpl {L0 : List Int} (orc : Orc) (ob : OB) (ho : ∀ p ∈ ob, p.1 = p.2) (hev : Zan [] (Zar Tryd.prog ZG 61 [] (κt L0) 4000 orc) = some (Value.tuple #[vi (6 : Int), vT], [], ob) := by as_aux_lemma => kernel_rfl) : ZQ L0 (.r0 (6) (true) : instr_ByNameR) := ZT hev ho rr

noncomputable def ZgV (L0 : List Int) : OB := (((⟨#[108, 101, 115, 115]⟩ : ByteArray).toList == (Zb L0).toList), false) :: ZgU L0

theorem Zpm {L0 : List Int} (orc : Orc) (ob : OB) (ho : ∀ p ∈ ob, p.1 = p.2) (hev : Zan [] (Zar Tryd.prog ZG 61 [] (κt L0) 4000 orc) = some (Value.tuple #[vi (7 : Int), vT], [], ob) := by as_aux_lemma => kernel_rfl) : ZQ L0 (.r0 (7) (true) : instr_ByNameR) := ZT hev ho rr

noncomputable def ZgW (L0 : List Int) : OB := (((⟨#[101, 113]⟩ : ByteArray).toList == (Zb L0).toList), false) :: ZgV L0

theorem Zpn {L0 : List Int} (orc : Orc) (ob : OB) (ho : ∀ p ∈ ob, p.1 = p.2) (hev : Zan [] (Zar Tryd.prog ZG 61 [] (κt L0) 4000 orc) = some (Value.tuple #[vi (8 : Int), vT], [], ob) := by as_aux_lemma => kernel_rfl) : ZQ L0 (.r0 (8) (true) : instr_ByNameR) := ZT hev ho rr

noncomputable def ZgX (L0 : List Int) : OB := (((⟨#[106, 117, 109, 112]⟩ : ByteArray).toList == (Zb L0).toList), false) :: ZgW L0

theorem Zpo {L0 : List Int} (orc : Orc) (ob : OB) (ho : ∀ p ∈ ob, p.1 = p.2) (hev : Zan [] (Zar Tryd.prog ZG 61 [] (κt L0) 4000 orc) = some (Value.tuple #[vi (9 : Int), vT], [], ob) := by as_aux_lemma => kernel_rfl) : ZQ L0 (.r0 (9) (true) : instr_ByNameR) := ZT hev ho rr

noncomputable def ZgY (L0 : List Int) : OB := (((⟨#[106, 117, 109, 112, 122]⟩ : ByteArray).toList == (Zb L0).toList), false) :: ZgX L0

theorem Zpp {L0 : List Int} (orc : Orc) (ob : OB) (ho : ∀ p ∈ ob, p.1 = p.2) (hev : Zan [] (Zar Tryd.prog ZG 61 [] (κt L0) 4000 orc) = some (Value.tuple #[vi (10 : Int), vT], [], ob) := by as_aux_lemma => kernel_rfl) : ZQ L0 (.r0 (10) (true) : instr_ByNameR) := ZT hev ho rr

noncomputable def ZgZ (L0 : List Int) : OB := (((⟨#[114, 111, 111, 116]⟩ : ByteArray).toList == (Zb L0).toList), false) :: ZgY L0

theorem Zos {L0 : List Int} (orc : Orc) (ob : OB) (ho : ∀ p ∈ ob, p.1 = p.2) (hev : Zan [] (Zar Tryd.prog ZG 61 [] (κt L0) 4000 orc) = some (Value.tuple #[vi (11 : Int), vT], [], ob) := by as_aux_lemma => kernel_rfl) : ZQ L0 (.r0 (11) (true) : instr_ByNameR) := ZT hev ho rr

noncomputable def Zgw (L0 : List Int) : OB := (((⟨#[110, 101, 119]⟩ : ByteArray).toList == (Zb L0).toList), false) :: ZgZ L0

theorem Zot {L0 : List Int} (orc : Orc) (ob : OB) (ho : ∀ p ∈ ob, p.1 = p.2) (hev : Zan [] (Zar Tryd.prog ZG 61 [] (κt L0) 4000 orc) = some (Value.tuple #[vi (12 : Int), vT], [], ob) := by as_aux_lemma => kernel_rfl) : ZQ L0 (.r0 (12) (true) : instr_ByNameR) := ZT hev ho rr

noncomputable def Zgx (L0 : List Int) : OB := (((⟨#[102, 114, 101, 101]⟩ : ByteArray).toList == (Zb L0).toList), false) :: Zgw L0

theorem Zou {L0 : List Int} (orc : Orc) (ob : OB) (ho : ∀ p ∈ ob, p.1 = p.2) (hev : Zan [] (Zar Tryd.prog ZG 61 [] (κt L0) 4000 orc) = some (Value.tuple #[vi (13 : Int), vT], [], ob) := by as_aux_lemma => kernel_rfl) : ZQ L0 (.r0 (13) (true) : instr_ByNameR) := ZT hev ho rr

noncomputable def Zgy (L0 : List Int) : OB := (((⟨#[103, 101, 116]⟩ : ByteArray).toList == (Zb L0).toList), false) :: Zgx L0

theorem Zov {L0 : List Int} (orc : Orc) (ob : OB) (ho : ∀ p ∈ ob, p.1 = p.2) (hev : Zan [] (Zar Tryd.prog ZG 61 [] (κt L0) 4000 orc) = some (Value.tuple #[vi (14 : Int), vT], [], ob) := by as_aux_lemma => kernel_rfl) : ZQ L0 (.r0 (14) (true) : instr_ByNameR) := ZT hev ho rr

noncomputable def Zgz (L0 : List Int) : OB := (((⟨#[115, 101, 116]⟩ : ByteArray).toList == (Zb L0).toList), false) :: Zgy L0

theorem Zow {L0 : List Int} (orc : Orc) (ob : OB) (ho : ∀ p ∈ ob, p.1 = p.2) (hev : Zan [] (Zar Tryd.prog ZG 61 [] (κt L0) 4000 orc) = some (Value.tuple #[vi (15 : Int), vT], [], ob) := by as_aux_lemma => kernel_rfl) : ZQ L0 (.r0 (15) (true) : instr_ByNameR) := ZT hev ho rr

noncomputable def Zg0 (L0 : List Int) : OB := (((⟨#[98, 101, 103, 105, 110]⟩ : ByteArray).toList == (Zb L0).toList), false) :: Zgz L0

theorem Zox {L0 : List Int} (orc : Orc) (ob : OB) (ho : ∀ p ∈ ob, p.1 = p.2) (hev : Zan [] (Zar Tryd.prog ZG 61 [] (κt L0) 4000 orc) = some (Value.tuple #[vi (16 : Int), vT], [], ob) := by as_aux_lemma => kernel_rfl) : ZQ L0 (.r0 (16) (true) : instr_ByNameR) := ZT hev ho rr

noncomputable def Zg1 (L0 : List Int) : OB := (((⟨#[101, 108, 115, 101]⟩ : ByteArray).toList == (Zb L0).toList), false) :: Zg0 L0

theorem Zoy {L0 : List Int} (orc : Orc) (ob : OB) (ho : ∀ p ∈ ob, p.1 = p.2) (hev : Zan [] (Zar Tryd.prog ZG 61 [] (κt L0) 4000 orc) = some (Value.tuple #[vi (17 : Int), vT], [], ob) := by as_aux_lemma => kernel_rfl) : ZQ L0 (.r0 (17) (true) : instr_ByNameR) := ZT hev ho rr

noncomputable def Zd2 (L0 : List Int) : OB := (((⟨#[101, 110, 100]⟩ : ByteArray).toList == (Zb L0).toList), false) :: Zg1 L0

theorem Zoz {L0 : List Int} (orc : Orc) (ob : OB) (ho : ∀ p ∈ ob, p.1 = p.2) (hev : Zan [] (Zar Tryd.prog ZG 61 [] (κt L0) 4000 orc) = some (Value.tuple #[vi (18 : Int), vT], [], ob) := by as_aux_lemma => kernel_rfl) : ZQ L0 (.r0 (18) (true) : instr_ByNameR) := ZT hev ho rr

theorem Zo0 {L0 : List Int} (orc : Orc) (ob : OB) (ho : ∀ p ∈ ob, p.1 = p.2) (hev : Zan [] (Zar Tryd.prog ZG 61 [] (κt L0) 4000 orc) = some (Value.tuple #[vi (19 : Int), vT], [], ob) := by as_aux_lemma => kernel_rfl) : ZQ L0 (.r0 (19) (true) : instr_ByNameR) := ZT hev ho rr

theorem Zo1 {L0 : List Int} (orc : Orc) (ob : OB) (ho : ∀ p ∈ ob, p.1 = p.2) (hev : Zan [] (Zar Tryd.prog ZG 61 [] (κt L0) 4000 orc) = some (Value.tuple #[vi (20 : Int), vT], [], ob) := by as_aux_lemma => kernel_rfl) : ZQ L0 (.r0 (20) (true) : instr_ByNameR) := ZT hev ho rr

theorem Zo2 {L0 : List Int} (orc : Orc) (ob : OB) (ho : ∀ p ∈ ob, p.1 = p.2) (hev : Zan [] (Zar Tryd.prog ZG 61 [] (κt L0) 4000 orc) = some (Value.tuple #[vq, vf], [], ob) := by as_aux_lemma => kernel_rfl) : ZQ L0 (.r0 (0) (false) : instr_ByNameR) := ZT hev ho rr

set_option maxHeartbeats 4000000 in
theorem Zo3 (L0 : List Int) (N : Nat) : Gx Tryd.prog 61 [] (κt L0) (Zgq L0) (ZfJ L0) (ZaX L0 N) := by
 unfold ZaX
 refine Zc (fun g0 => ?_) (fun g0 => ?_)
 ·
  exact Zpg (Zp [(3, true)] [] [] [] []) ((((⟨#[99, 111, 110, 115, 116]⟩ : ByteArray).toList == (Zb L0).toList), true) :: []) (Za (Zbw (x := (bl [99, 111, 110, 115, 116])) (y := L0) (by assumption)) <| Z6)
 ·
  have w1 : OkL (ZgQ L0) :=
   Za (ZaW (x := (bl [99, 111, 110, 115, 116])) (y := L0) (by assumption)) <| Z6
  refine Zc (fun g1 => ?_) (fun g1 => ?_)
  ·
   exact Zph (Zp [(3, false), (7, true)] [] [] [] []) ((((⟨#[110, 105, 108]⟩ : ByteArray).toList == (Zb L0).toList), true) :: ZgQ L0) (Za (Zbw (x := (bl [110, 105, 108])) (y := L0) (by assumption)) <| w1)
  ·
   have w2 : OkL (ZgR L0) :=
    Za (ZaW (x := (bl [110, 105, 108])) (y := L0) (by assumption)) <| w1
   refine Zc (fun g2 => ?_) (fun g2 => ?_)
   ·
    exact Zpi (Zp [(3, false), (7, false), (11, true)] [] [] [] []) ((((⟨#[109, 111, 118, 101]⟩ : ByteArray).toList == (Zb L0).toList), true) :: ZgR L0) (Za (Zbw (x := (bl [109, 111, 118, 101])) (y := L0) (by assumption)) <| w2)
   ·
    have w3 : OkL (ZgS L0) :=
     Za (ZaW (x := (bl [109, 111, 118, 101])) (y := L0) (by assumption)) <| w2
    refine Zc (fun g3 => ?_) (fun g3 => ?_)
    ·
     exact Zpj (Zp [(3, false), (7, false), (11, false), (15, true)] [] [] [] []) ((((⟨#[97, 100, 100]⟩ : ByteArray).toList == (Zb L0).toList), true) :: ZgS L0) (Za (Zbw (x := (bl [97, 100, 100])) (y := L0) (by assumption)) <| w3)
    ·
     have w4 : OkL (ZgT L0) :=
      Za (ZaW (x := (bl [97, 100, 100])) (y := L0) (by assumption)) <| w3
     refine Zc (fun g4 => ?_) (fun g4 => ?_)
     ·
      exact Zpk (Zp [(3, false), (7, false), (11, false), (15, false), (19, true)] [] [] [] []) ((((⟨#[115, 117, 98]⟩ : ByteArray).toList == (Zb L0).toList), true) :: ZgT L0) (Za (Zbw (x := (bl [115, 117, 98])) (y := L0) (by assumption)) <| w4)
     ·
      have w5 : OkL (ZgU L0) :=
       Za (ZaW (x := (bl [115, 117, 98])) (y := L0) (by assumption)) <| w4
      refine Zc (fun g5 => ?_) (fun g5 => ?_)
      ·
       exact Zpl (Zp [(3, false), (7, false), (11, false), (15, false), (19, false), (23, true)] [] [] [] []) ((((⟨#[108, 101, 115, 115]⟩ : ByteArray).toList == (Zb L0).toList), true) :: ZgU L0) (Za (Zbw (x := (bl [108, 101, 115, 115])) (y := L0) (by assumption)) <| w5)
      ·
       have w6 : OkL (ZgV L0) :=
        Za (ZaW (x := (bl [108, 101, 115, 115])) (y := L0) (by assumption)) <| w5
       refine Zc (fun g6 => ?_) (fun g6 => ?_)
       ·
        exact Zpm (Zp [(3, false), (7, false), (11, false), (15, false), (19, false), (23, false), (27, true)] [] [] [] []) ((((⟨#[101, 113]⟩ : ByteArray).toList == (Zb L0).toList), true) :: ZgV L0) (Za (Zbw (x := (bl [101, 113])) (y := L0) (by assumption)) <| w6)
       ·
        have w7 : OkL (ZgW L0) :=
         Za (ZaW (x := (bl [101, 113])) (y := L0) (by assumption)) <| w6
        refine Zc (fun g7 => ?_) (fun g7 => ?_)
        ·
         exact Zpn (Zp [(3, false), (7, false), (11, false), (15, false), (19, false), (23, false), (27, false), (31, true)] [] [] [] []) ((((⟨#[106, 117, 109, 112]⟩ : ByteArray).toList == (Zb L0).toList), true) :: ZgW L0) (Za (Zbw (x := (bl [106, 117, 109, 112])) (y := L0) (by assumption)) <| w7)
        ·
         have w8 : OkL (ZgX L0) :=
          Za (ZaW (x := (bl [106, 117, 109, 112])) (y := L0) (by assumption)) <| w7
         refine Zc (fun g8 => ?_) (fun g8 => ?_)
         ·
          exact Zpo (Zp [(3, false), (7, false), (11, false), (15, false), (19, false), (23, false), (27, false), (31, false), (35, true)] [] [] [] []) ((((⟨#[106, 117, 109, 112, 122]⟩ : ByteArray).toList == (Zb L0).toList), true) :: ZgX L0) (Za (Zbw (x := (bl [106, 117, 109, 112, 122])) (y := L0) (by assumption)) <| w8)
         ·
          have w9 : OkL (ZgY L0) :=
           Za (ZaW (x := (bl [106, 117, 109, 112, 122])) (y := L0) (by assumption)) <| w8
          refine Zc (fun g9 => ?_) (fun g9 => ?_)
          ·
           exact Zpp (Zp [(3, false), (7, false), (11, false), (15, false), (19, false), (23, false), (27, false), (31, false), (35, false), (39, true)] [] [] [] []) ((((⟨#[114, 111, 111, 116]⟩ : ByteArray).toList == (Zb L0).toList), true) :: ZgY L0) (Za (Zbw (x := (bl [114, 111, 111, 116])) (y := L0) (by assumption)) <| w9)
          ·
           have w10 : OkL (ZgZ L0) :=
            Za (ZaW (x := (bl [114, 111, 111, 116])) (y := L0) (by assumption)) <| w9
           refine Zc (fun g10 => ?_) (fun g10 => ?_)
           ·
            exact Zos (Zp [(3, false), (7, false), (11, false), (15, false), (19, false), (23, false), (27, false), (31, false), (35, false), (39, false), (43, true)] [] [] [] []) ((((⟨#[110, 101, 119]⟩ : ByteArray).toList == (Zb L0).toList), true) :: ZgZ L0) (Za (Zbw (x := (bl [110, 101, 119])) (y := L0) (by assumption)) <| w10)
           ·
            have w11 : OkL (Zgw L0) :=
             Za (ZaW (x := (bl [110, 101, 119])) (y := L0) (by assumption)) <| w10
            refine Zc (fun g11 => ?_) (fun g11 => ?_)
            ·
             exact Zot (Zp [(3, false), (7, false), (11, false), (15, false), (19, false), (23, false), (27, false), (31, false), (35, false), (39, false), (43, false), (47, true)] [] [] [] []) ((((⟨#[102, 114, 101, 101]⟩ : ByteArray).toList == (Zb L0).toList), true) :: Zgw L0) (Za (Zbw (x := (bl [102, 114, 101, 101])) (y := L0) (by assumption)) <| w11)
            ·
             have w12 : OkL (Zgx L0) :=
              Za (ZaW (x := (bl [102, 114, 101, 101])) (y := L0) (by assumption)) <| w11
             refine Zc (fun g12 => ?_) (fun g12 => ?_)
             ·
              exact Zou (Zp [(3, false), (7, false), (11, false), (15, false), (19, false), (23, false), (27, false), (31, false), (35, false), (39, false), (43, false), (47, false), (51, true)] [] [] [] []) ((((⟨#[103, 101, 116]⟩ : ByteArray).toList == (Zb L0).toList), true) :: Zgx L0) (Za (Zbw (x := (bl [103, 101, 116])) (y := L0) (by assumption)) <| w12)
             ·
              have w13 : OkL (Zgy L0) :=
               Za (ZaW (x := (bl [103, 101, 116])) (y := L0) (by assumption)) <| w12
              refine Zc (fun g13 => ?_) (fun g13 => ?_)
              ·
               exact Zov (Zp [(3, false), (7, false), (11, false), (15, false), (19, false), (23, false), (27, false), (31, false), (35, false), (39, false), (43, false), (47, false), (51, false), (55, true)] [] [] [] []) ((((⟨#[115, 101, 116]⟩ : ByteArray).toList == (Zb L0).toList), true) :: Zgy L0) (Za (Zbw (x := (bl [115, 101, 116])) (y := L0) (by assumption)) <| w13)
              ·
               have w14 : OkL (Zgz L0) :=
                Za (ZaW (x := (bl [115, 101, 116])) (y := L0) (by assumption)) <| w13
               refine Zc (fun g14 => ?_) (fun g14 => ?_)
               ·
                exact Zow (Zp [(3, false), (7, false), (11, false), (15, false), (19, false), (23, false), (27, false), (31, false), (35, false), (39, false), (43, false), (47, false), (51, false), (55, false), (59, true)] [] [] [] []) ((((⟨#[98, 101, 103, 105, 110]⟩ : ByteArray).toList == (Zb L0).toList), true) :: Zgz L0) (Za (Zbw (x := (bl [98, 101, 103, 105, 110])) (y := L0) (by assumption)) <| w14)
               ·
                have w15 : OkL (Zg0 L0) :=
                 Za (ZaW (x := (bl [98, 101, 103, 105, 110])) (y := L0) (by assumption)) <| w14
                refine Zc (fun g15 => ?_) (fun g15 => ?_)
                ·
                 exact Zox (Zp [(3, false), (7, false), (11, false), (15, false), (19, false), (23, false), (27, false), (31, false), (35, false), (39, false), (43, false), (47, false), (51, false), (55, false), (59, false), (63, true)] [] [] [] []) ((((⟨#[101, 108, 115, 101]⟩ : ByteArray).toList == (Zb L0).toList), true) :: Zg0 L0) (Za (Zbw (x := (bl [101, 108, 115, 101])) (y := L0) (by assumption)) <| w15)
                ·
                 have w16 : OkL (Zg1 L0) :=
                  Za (ZaW (x := (bl [101, 108, 115, 101])) (y := L0) (by assumption)) <| w15
                 refine Zc (fun g16 => ?_) (fun g16 => ?_)
                 ·
                  exact Zoy (Zp [(3, false), (7, false), (11, false), (15, false), (19, false), (23, false), (27, false), (31, false), (35, false), (39, false), (43, false), (47, false), (51, false), (55, false), (59, false), (63, false), (67, true)] [] [] [] []) ((((⟨#[101, 110, 100]⟩ : ByteArray).toList == (Zb L0).toList), true) :: Zg1 L0) (Za (Zbw (x := (bl [101, 110, 100])) (y := L0) (by assumption)) <| w16)
                 ·
                  have w17 : OkL (Zd2 L0) :=
                   Za (ZaW (x := (bl [101, 110, 100])) (y := L0) (by assumption)) <| w16
                  refine Zc (fun g17 => ?_) (fun g17 => ?_)
                  ·
                   exact Zoz (Zp [(3, false), (7, false), (11, false), (15, false), (19, false), (23, false), (27, false), (31, false), (35, false), (39, false), (43, false), (47, false), (51, false), (55, false), (59, false), (63, false), (67, false), (71, true)] [] [] [] []) ((((⟨#[114, 101, 116, 114, 121]⟩ : ByteArray).toList == (Zb L0).toList), true) :: Zd2 L0) (Za (Zbw (x := (bl [114, 101, 116, 114, 121])) (y := L0) (by assumption)) <| w17)
                  ·
                   refine Zc (fun g18 => ?_) (fun g18 => ?_)
                   ·
                    exact Zo0 (Zp [(3, false), (7, false), (11, false), (15, false), (19, false), (23, false), (27, false), (31, false), (35, false), (39, false), (43, false), (47, false), (51, false), (55, false), (59, false), (63, false), (67, false), (71, false), (75, true)] [] [] [] []) ((((⟨#[101, 109, 105, 116]⟩ : ByteArray).toList == (Zb L0).toList), true) :: (((⟨#[114, 101, 116, 114, 121]⟩ : ByteArray).toList == (Zb L0).toList), false) :: Zd2 L0) (Za (Zbw (x := (bl [101, 109, 105, 116])) (y := L0) (by assumption)) <| Za (ZaW (x := (bl [114, 101, 116, 114, 121])) (y := L0) (by assumption)) <| w17)
                   ·
                    refine Zc (fun g19 => ?_) (fun g19 => ?_)
                    ·
                     exact Zo1 (Zp [(3, false), (7, false), (11, false), (15, false), (19, false), (23, false), (27, false), (31, false), (35, false), (39, false), (43, false), (47, false), (51, false), (55, false), (59, false), (63, false), (67, false), (71, false), (75, false), (79, true)] [] [] [] []) ((((⟨#[104, 97, 108, 116]⟩ : ByteArray).toList == (Zb L0).toList), true) :: (((⟨#[101, 109, 105, 116]⟩ : ByteArray).toList == (Zb L0).toList), false) :: (((⟨#[114, 101, 116, 114, 121]⟩ : ByteArray).toList == (Zb L0).toList), false) :: Zd2 L0) (Za (Zbw (x := (bl [104, 97, 108, 116])) (y := L0) (by assumption)) <| Za (ZaW (x := (bl [101, 109, 105, 116])) (y := L0) (by assumption)) <| Za (ZaW (x := (bl [114, 101, 116, 114, 121])) (y := L0) (by assumption)) <| w17)
                    ·
                     exact Zo2 (Zp [(3, false), (7, false), (11, false), (15, false), (19, false), (23, false), (27, false), (31, false), (35, false), (39, false), (43, false), (47, false), (51, false), (55, false), (59, false), (63, false), (67, false), (71, false), (75, false), (79, false)] [] [] [] []) ((((⟨#[104, 97, 108, 116]⟩ : ByteArray).toList == (Zb L0).toList), false) :: (((⟨#[101, 109, 105, 116]⟩ : ByteArray).toList == (Zb L0).toList), false) :: (((⟨#[114, 101, 116, 114, 121]⟩ : ByteArray).toList == (Zb L0).toList), false) :: Zd2 L0) (Za (ZaW (x := (bl [104, 97, 108, 116])) (y := L0) (by assumption)) <| Za (ZaW (x := (bl [101, 109, 105, 116])) (y := L0) (by assumption)) <| Za (ZaW (x := (bl [114, 101, 116, 114, 121])) (y := L0) (by assumption)) <| w17)

theorem ZmF (L0 : List Int) (N : Nat) (r : instr_ByNameR) (h : ZaX L0 N = some r) : LSpec Tryd.prog 61 (κt L0) [] (Zgq L0 r) (ZfJ L0 r) :=
 Zo3 L0 N r h

noncomputable def Zpq (L0 : List Int) (w0 : Int) (w1 : Bool) (n : Nat) : Za5 := .call [] (Value.tuple #[vi w0, Value.bool w1]) [] 0
def Zkv (A : Array Value) (L0 : List Int) (w0 : Int) (w1 : Bool) (n : Nat) : Prop := Z3 Tryd.prog 61 A [] (Value.tuple #[vi w0, Value.bool w1]) [] n 0

theorem Zpr (A : Array Value) (L0 : List Int) (w0 : Int) (w1 : Bool) (N : Nat) (h : ZaX L0 N = some (.r0 w0 w1)) (n : Nat) (hA : A = (κt L0)) (hnd : ([] : List Nat).Nodup) (hlt : ∀ k ∈ ([] : List Nat), k < n) : Zkv A L0 w0 w1  n :=
 Zae hA (cX0 (show LSpec Tryd.prog 61 (κt L0) [] (Value.tuple #[vi w0, Value.bool w1]) [] from ZmF L0 N _ h) [] n [] hnd hlt)

noncomputable def Zlo (a0 : Int) : Zy → Value
 | .r0 => Value.string ⟨#[114, 35]⟩
 | .r1 => Value.string ⟨#[64]⟩
 | .r2 => Value.string ⟨#[114, 64]⟩
 | .r3 => Value.string ⟨#[114, 35, 35]⟩
 | .r4 => Value.string ⟨#[114, 114, 35]⟩
 | .r5 => Value.string ⟨#[114, 35, 114]⟩
 | .r6 => Value.string ⟨#[]⟩
 | .r7 => Value.string ⟨#[114]⟩
 | .r8 => Value.string ⟨#[114, 114]⟩
 | .r9 => Value.string ⟨#[114, 114, 114]⟩
noncomputable def Zkw (a0 : Int) : Zy → List (Option AObj)
 | .r0 => []
 | .r1 => []
 | .r2 => []
 | .r3 => []
 | .r4 => []
 | .r5 => []
 | .r6 => []
 | .r7 => []
 | .r8 => []
 | .r9 => []

noncomputable abbrev κ2 (a0 : Int) := ((a0 == (8 : Int)), false)
noncomputable abbrev κS (a0 : Int) := ((a0 == (1 : Int)), false)
noncomputable def ZeT (a0 : Int) : OB := (κ2 a0) :: (κS a0) :: []

noncomputable abbrev κbb (a0 : Int) := ((a0 == (11 : Int)), false)
noncomputable abbrev κ3 (a0 : Int) := ((a0 == (9 : Int)), false)
noncomputable def ZeU (a0 : Int) : OB := (κbb a0) :: (κ3 a0) :: ZeT a0

noncomputable abbrev κbp (a0 : Int) := ((a0 == (14 : Int)), false)
noncomputable abbrev κbc (a0 : Int) := ((a0 == (13 : Int)), false)
noncomputable def ZeV (a0 : Int) : OB := (κbp a0) :: (κbc a0) :: ZeU a0

noncomputable abbrev κM (a0 : Int) := ((decide (a0 < (0 : Int))), false)
noncomputable abbrev κn (a0 : Int) := ((decide (a0 ≥ (21 : Int))), false)
noncomputable def Zaf (a0 : Int) : OB := (κn a0) :: (κM a0) :: ZeV a0

end Ev
end Go.Proofs.YtlbbiflodemagaaDoor
