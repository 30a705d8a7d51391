/- The runner, with places to stop at: where a way on of a given depth begins, so many of them left out. -/
import Derived.Test.YtldlnclkdgfahaaGreatEvV
namespace Go.Proofs.YtldlnclkdgfahaaGreat
open Go.RowKit
namespace Ev
inductive StopC where
  | fin (v : Value) (s : St)
  | head (a : Code) (K : List Kont) (T : Tr Value) (s : St)
  | next (i : Nat) (T : Tr Value) (s : St)
  | cut (b : Code) (K : List Kont) (T : Tr Value) (s : St)
noncomputable section
def StopC.s : StopC → St
  | .fin _ s => s
  | .head _ _ _ s => s
  | .next _ _ s => s
  | .cut _ _ _ s => s
def finOfC (s : St) : Option Value → Option StopC
  | some v => some (.fin v s)
  | none => none
def evFinC (P : Program) (fn : Func) (e : Ex) (T : Tr Value) (s : St) : Option StopC :=
  match e with
  | .exit _ => none
  | .normal => finOfC s (resV P fn T s)
  | .ret => finOfC s (resV P fn T s)
mutual
def evToC (P : Program) (ext : FuncId → Option Ext) (fn : Func) (nt : Nat) (cd : Nat) : Nat → Nat → Code → List Kont → Tr Value → St → Option StopC
  | 0, _, _, _, _, _ => none
  | fu + 1, cm, c, K, T, s => match c with
    | .seq a b => evToC P ext fn nt cd fu cm a (.seq b :: K) T s
    | .scope a => evToC P ext fn nt cd fu cm a (.scp :: K) T s
    | .block id a => evToC P ext fn nt cd fu cm a (.blk id :: K) T s
    | .cond x a b => match opnd T x with
      | .bool t => match t with
        | true => evToC P ext fn nt cd fu cm a K T s
        | false => evToC P ext fn nt cd fu cm b K T s
      | _ => none
    | .loop a => some (.head a K T s)
    | c => match evCode P ext nt fu c T s with
      | some (e, T', s') => evBkC P ext fn nt cd fu cm K e T' s'
      | none => none
termination_by structural fu _ _ _ _ _ => fu
def evBkC (P : Program) (ext : FuncId → Option Ext) (fn : Func) (nt : Nat) (cd : Nat) : Nat → Nat → List Kont → Ex → Tr Value → St → Option StopC
  | 0, _, _, _, _, _ => none
  | fu + 1, cm, K, e, T, s => match K with
    | [] => evFinC P fn e T s
    | .seq b :: K => match e with
      | .normal => match Nat.beq K.length cd with
        | false => evToC P ext fn nt cd fu cm b K T s
        | true => match cm with
          | 0 => some (.cut b K T s)
          | m + 1 => evToC P ext fn nt cd fu m b K T s
      | .exit i => evBkC P ext fn nt cd fu cm K (.exit i) T s
      | .ret => evBkC P ext fn nt cd fu cm K .ret T s
    | .blk id :: K => match e with
      | .exit i => bif Nat.beq i id then evBkC P ext fn nt cd fu cm K .normal T s else evBkC P ext fn nt cd fu cm K (.exit i) T s
      | .normal => evBkC P ext fn nt cd fu cm K .normal T s
      | .ret => evBkC P ext fn nt cd fu cm K .ret T s
    | .scp :: K => evBkC P ext fn nt cd fu cm K e T s
    | .rnd i :: K => match e with
      | .normal => some (.next i T s)
      | .exit j => evBkC P ext fn nt cd fu cm K (.exit j) T s
      | .ret => evBkC P ext fn nt cd fu cm K .ret T s
termination_by structural fu _ _ _ _ _ => fu
end
end
section
variable {P : Program} {ext : FuncId → Option Ext}
theorem finOfC_s {s : St} {o : Option Value} {st : StopC} (h : finOfC s o = some st) : ∃ v, st = .fin v s ∧ o = some v := by
  cases o with
  | none => cases h
  | some v => injection h with h; exact ⟨v, h.symm, rfl⟩
theorem evFinC_s {fn : Func} {e : Ex} {T : Tr Value} {s : St} {st : StopC} (h : evFinC P fn e T s = some st) : ∃ v, st = .fin v s ∧ (match e with | .exit _ => False | _ => True) ∧ (match resultsT P T s fn.results.toList with | some [v] => some v | some vs => some (.tuple vs.toArray) | none => none) = some v := by
  cases e with
  | exit i => cases h
  | normal => obtain ⟨v, h1, h2⟩ := finOfC_s h; exact ⟨v, h1, trivial, h2⟩
  | ret => obtain ⟨v, h1, h2⟩ := finOfC_s h; exact ⟨v, h1, trivial, h2⟩
theorem up_toC (F : Fit P ext) {fn : Func} {nt cd : Nat} : ∀ fu : Nat, (∀ cm c K T s st, evToC P ext fn nt cd fu cm c K T s = some st → Up s st.s) ∧ (∀ cm K e T s st, evBkC P ext fn nt cd fu cm K e T s = some st → Up s st.s) := by
  intro fu
  induction fu with
  | zero => exact ⟨fun _ _ _ _ _ _ h => by simp [evToC] at h, fun _ _ _ _ _ _ h => by simp [evBkC] at h⟩
  | succ fu ih =>
    obtain ⟨ihT, ihB⟩ := ih
    have other : ∀ cm c K T s st, (match evCode P ext nt fu c T s with | some (e, T', s') => evBkC P ext fn nt cd fu cm K e T' s' | none => none) = some st → Up s st.s := fun cm c K T s st h => by
      split at h
      · exact ((up_all (P := P) (ext := ext) (fun f g hg => (F.hp f g hg).up) fu).1 _ _ _ _ _ _ _ (by assumption)).trans (ihB _ _ _ _ _ _ h)
      · cases h
    refine ⟨fun cm c K T s st h => ?_, fun cm K e T s st h => ?_⟩
    · cases c <;> simp only [evToC] at h
      case seq a b => exact ihT _ _ _ _ _ _ h
      case scope a => exact ihT _ _ _ _ _ _ h
      case block id a => exact ihT _ _ _ _ _ _ h
      case cond x a b =>
        split at h
        · split at h
          · exact ihT _ _ _ _ _ _ h
          · exact ihT _ _ _ _ _ _ h
        · cases h
      case loop a => injection h with h; subst h; exact Up.refl _
      all_goals exact other _ _ _ _ _ _ h
    · cases K with
      | nil => simp only [evBkC] at h; obtain ⟨v, rfl, _⟩ := evFinC_s h; exact Up.refl _
      | cons k K =>
        cases k <;> simp only [evBkC] at h
        · cases e <;> simp only at h
          · split at h
            · exact ihT _ _ _ _ _ _ h
            · split at h
              · injection h with h; subst h; exact Up.refl _
              · exact ihT _ _ _ _ _ _ h
          · exact ihB _ _ _ _ _ _ h
          · exact ihB _ _ _ _ _ _ h
        · cases e <;> simp only at h
          · exact ihB _ _ _ _ _ _ h
          · rename_i id i
            cases hb : Nat.beq i id <;> rw [hb] at h <;> exact ihB _ _ _ _ _ _ h
          · exact ihB _ _ _ _ _ _ h
        · exact ihB _ _ _ _ _ _ h
        · cases e <;> simp only at h
          · injection h with h; subst h; exact Up.refl _
          · exact ihB _ _ _ _ _ _ h
          · exact ihB _ _ _ _ _ _ h
/-- What must hold where a run stands. -/
def StopCP (P : Program) (fn : Func) (R : Ending → World → Prop) (Nx : Nat → Act → World → Prop) (nt : Nat) (ι : Ren) (a : Act) (w : World) : StopC → Prop
  | .fin v _ => ∀ v', VR ι v v' → R (.returned v') w
  | .head b K T _ => TR ι nt [] T a → (Code.loop b).wp P (post P fn R Nx K) a w
  | .next i T _ => TR ι nt [] T a → Nx i a w
  | .cut b K T _ => TR ι nt [] T a → b.wp P (post P fn R Nx K) a w
theorem to_soundC (F : Fit P ext) {fn : Func} {nt cd : Nat} {R : Ending → World → Prop} {Nx : Nat → Act → World → Prop} : ∀ fu : Nat,
    (∀ cm c K T s st, evToC P ext fn nt cd fu cm c K T s = some st → (∀ p ∈ st.s.ob, p.1 = p.2) → ∀ ι a w, TR ι nt [] T a → Emb P ι s.h.get w → Fresh ι s.n st.s.n →
      (∀ ι' a' w', Step P ι s.h.get w ι' st.s.h.get w' → Dom ι ι' s.n st.s.n → StopCP P fn R Nx nt ι' a' w' st) → c.wp P (post P fn R Nx K) a w) ∧
    (∀ cm K e T s st, evBkC P ext fn nt cd fu cm K e T s = some st → (∀ p ∈ st.s.ob, p.1 = p.2) → ∀ ι a w, TR ι nt [] T a → Emb P ι s.h.get w → Fresh ι s.n st.s.n →
      (∀ ι' a' w', Step P ι s.h.get w ι' st.s.h.get w' → Dom ι ι' s.n st.s.n → StopCP P fn R Nx nt ι' a' w' st) → post P fn R Nx K e.out a w) := by
  intro fu
  induction fu with
  | zero => exact ⟨fun _ _ _ _ _ _ h => by simp [evToC] at h, fun _ _ _ _ _ _ h => by simp [evBkC] at h⟩
  | succ fu ih =>
    obtain ⟨ihT, ihB⟩ := ih
    have other : ∀ cm c K T s st, (match evCode P ext nt fu c T s with | some (e, T', s') => evBkC P ext fn nt cd fu cm K e T' s' | none => none) = some st → (∀ p ∈ st.s.ob, p.1 = p.2) → ∀ ι a w, TR ι nt [] T a → Emb P ι s.h.get w → Fresh ι s.n st.s.n →
      (∀ ι' a' w', Step P ι s.h.get w ι' st.s.h.get w' → Dom ι ι' s.n st.s.n → StopCP P fn R Nx nt ι' a' w' st) → c.wp P (post P fn R Nx K) a w := fun cm c K T s st h ho ι a w hT he hf hQ => by
      split at h
      · rename_i e T1 s1 h1
        have u1 := (up_all (P := P) (ext := ext) (fun f g hg => (F.hp f g hg).up) fu).1 _ _ _ _ _ _ _ h1
        have u2 := (up_toC F (fn := fn) (nt := nt) fu).2 _ _ _ _ _ _ h
        refine wp_mono (ev_wp F h1 (suffix_ob u2.ob ho) hT he (hf.mono (Nat.le_refl _) u2.n)) ?_
        rintro ex a1 w1 ⟨rfl, ι1, g1, g2, g3⟩
        exact ihB _ K e T1 s1 st h ho ι1 a1 w1 g3 g1.emb (hf.after g2 u1.n) fun ι' a' w' k1 k2 => hQ ι' a' w' (g1.trans k1) (g2.trans k2 u1.n u2.n)
      · cases h
    refine ⟨fun cm c K T s st h ho ι a w hT he hf hQ => ?_, fun cm K e T s st h ho ι a w hT he hf hQ => ?_⟩
    · have h0 := h
      cases c <;> simp only [evToC] at h
      case seq x y => exact wp_seq (ihT _ x (.seq y :: K) T s st h ho ι a w hT he hf hQ)
      case scope x => exact wp_scope_straight (ihT _ x (.scp :: K) T s st h ho ι a w hT he hf hQ)
      case block id x => exact wp_block (ihT _ x (.blk id :: K) T s st h ho ι a w hT he hf hQ)
      case cond x y z =>
        split at h
        · rename_i t ht
          have hx : a.eval x = .bool t := evalG_bool ((ht ▸ hT.opnd x : VR ι (.bool t) (evalG a x)).bool_inv)
          split at h
          · exact wp_cond_true hx (ihT _ y K T s st h ho ι a w hT he hf hQ)
          · exact wp_cond_false hx (ihT _ z K T s st h ho ι a w hT he hf hQ)
        · cases h
      case loop x =>
        injection h with h
        subst h
        exact hQ ι a w (Step.refl he) Dom.refl hT
      all_goals exact other _ _ K T s st h ho ι a w hT he hf hQ
    · cases K with
      | nil =>
        simp only [evBkC] at h
        obtain ⟨v, rfl, hne, hr⟩ := evFinC_s h
        obtain ⟨v', hrun, hv⟩ := results_run hT he hr
        have := hQ ι a w (Step.refl he) Dom.refl v' hv
        cases e with
        | normal => exact ⟨hT.2.1, v', hrun, this⟩
        | ret => exact ⟨hT.2.1, v', hrun, this⟩
        | exit i => exact hne.elim
      | cons k K =>
        cases k with
        | seq b =>
          simp only [evBkC] at h
          cases e with
          | normal =>
            simp only at h
            split at h
            · exact ihT _ b K T s st h ho ι a w hT he hf hQ
            · split at h
              · injection h with h
                subst h
                exact hQ ι a w (Step.refl he) Dom.refl hT
              · exact ihT _ b K T s st h ho ι a w hT he hf hQ
          | exit i => exact ihB _ K (.exit i) T s st h ho ι a w hT he hf hQ
          | ret => exact ihB _ K .ret T s st h ho ι a w hT he hf hQ
        | blk id =>
          simp only [evBkC] at h
          cases e with
          | normal => exact ihB _ K .normal T s st h ho ι a w hT he hf hQ
          | ret => exact ihB _ K .ret T s st h ho ι a w hT he hf hQ
          | exit i =>
            simp only at h
            show if i = id then _ else _
            cases hb : Nat.beq i id with
            | true =>
              rw [hb] at h
              rw [if_pos (Nat.eq_of_beq_eq_true hb)]
              exact ihB _ K .normal T s st h ho ι a w hT he hf hQ
            | false =>
              rw [hb] at h
              rw [if_neg (fun e => by rw [beqT e] at hb; cases hb)]
              exact ihB _ K (.exit i) T s st h ho ι a w hT he hf hQ
        | scp =>
          simp only [evBkC] at h
          have := ihB _ K e T s st h ho ι a w hT he hf hQ
          cases e <;> exact this
        | rnd i =>
          simp only [evBkC] at h
          cases e with
          | normal =>
            injection h with h
            subst h
            exact hQ ι a w (Step.refl he) Dom.refl hT
          | exit j => exact ihB _ K (.exit j) T s st h ho ι a w hT he hf hQ
          | ret => exact ihB _ K .ret T s st h ho ι a w hT he hf hQ
end
noncomputable section
def outFinC (live : List Nat) (r : Option StopC) : Option (Value × List (Option AObj) × List (Bool × Bool)) :=
  match r with
  | some (.fin u s) => bif Nat.ble s.n 1000000000 then some (u, live.map s.h.get, s.ob) else none
  | _ => none
def outNextC (i : Nat) (live temps : List Nat) (r : Option StopC) : Option (List (Option Value) × List (Option AObj) × List (Bool × Bool)) :=
  match r with
  | some (.next j T s) => bif Nat.beq j i && Nat.ble s.n 1000000000 then some (temps.map T.get, live.map s.h.get, s.ob) else none
  | _ => none
def outHeadC (live temps : List Nat) (r : Option StopC) : Option ((Code × List Kont) × List (Option Value) × List (Option AObj) × List (Bool × Bool)) :=
  match r with
  | some (.head b K T s) => bif Nat.ble s.n 1000000000 then some ((b, K), temps.map T.get, live.map s.h.get, s.ob) else none
  | _ => none
def outCut (live temps : List Nat) (r : Option StopC) : Option ((Code × List Kont) × List (Option Value) × List (Option AObj) × List (Bool × Bool)) :=
  match r with
  | some (.cut b K T s) => bif Nat.ble s.n 1000000000 then some ((b, K), temps.map T.get, live.map s.h.get, s.ob) else none
  | _ => none
end
theorem outFinC_spec {live : List Nat} {r : Option StopC} {u : Value} {bl : List (Option AObj)} {ob : List (Bool × Bool)} (h : outFinC live r = some (u, bl, ob)) : ∃ s, r = some (.fin u s) ∧ live.map s.h.get = bl ∧ s.ob = ob ∧ s.n ≤ far := by
  unfold outFinC at h
  split at h
  · rename_i u' s
    obtain ⟨hn, h⟩ := bif_some h
    injection h with h
    simp only [Prod.mk.injEq] at h
    obtain ⟨rfl, rfl, rfl⟩ := h
    exact ⟨s, rfl, rfl, rfl, Nat.le_of_ble_eq_true hn⟩
  · cases h
theorem outNextC_spec {i : Nat} {live temps : List Nat} {r : Option StopC} {tv : List (Option Value)} {bl : List (Option AObj)} {ob : List (Bool × Bool)} (h : outNextC i live temps r = some (tv, bl, ob)) : ∃ T s, r = some (.next i T s) ∧ temps.map T.get = tv ∧ live.map s.h.get = bl ∧ s.ob = ob ∧ s.n ≤ far := by
  unfold outNextC at h
  split at h
  · rename_i j T s
    obtain ⟨hn, h⟩ := bif_some h
    simp only [Bool.and_eq_true] at hn
    injection h with h
    simp only [Prod.mk.injEq] at h
    obtain ⟨rfl, rfl, rfl⟩ := h
    exact ⟨T, s, by rw [Nat.eq_of_beq_eq_true hn.1], rfl, rfl, rfl, Nat.le_of_ble_eq_true hn.2⟩
  · cases h
theorem outHeadC_spec {live temps : List Nat} {r : Option StopC} {bK : Code × List Kont} {tv : List (Option Value)} {bl : List (Option AObj)} {ob : List (Bool × Bool)} (h : outHeadC live temps r = some (bK, tv, bl, ob)) : ∃ T s, r = some (.head bK.1 bK.2 T s) ∧ temps.map T.get = tv ∧ live.map s.h.get = bl ∧ s.ob = ob ∧ s.n ≤ far := by
  unfold outHeadC at h
  split at h
  · rename_i b K T s
    obtain ⟨hn, h⟩ := bif_some h
    injection h with h
    simp only [Prod.mk.injEq] at h
    obtain ⟨rfl, rfl, rfl, rfl⟩ := h
    exact ⟨T, s, rfl, rfl, rfl, rfl, Nat.le_of_ble_eq_true hn⟩
  · cases h
theorem outCut_spec {live temps : List Nat} {r : Option StopC} {bK : Code × List Kont} {tv : List (Option Value)} {bl : List (Option AObj)} {ob : List (Bool × Bool)} (h : outCut live temps r = some (bK, tv, bl, ob)) : ∃ T s, r = some (.cut bK.1 bK.2 T s) ∧ temps.map T.get = tv ∧ live.map s.h.get = bl ∧ s.ob = ob ∧ s.n ≤ far := by
  unfold outCut at h
  split at h
  · rename_i b K T s
    obtain ⟨hn, h⟩ := bif_some h
    injection h with h
    simp only [Prod.mk.injEq] at h
    obtain ⟨rfl, rfl, rfl, rfl⟩ := h
    exact ⟨T, s, rfl, rfl, rfl, rfl, Nat.le_of_ble_eq_true hn⟩
  · cases h
section
variable {P : Program} {ext : FuncId → Option Ext}
/-- From a run. -/
theorem lspec_ofC (F : Fit P ext) {f : FuncId} {fn : Func} {c : Code} (hfn : P.funcs[f]? = some fn) (hb : fn.body = some c) {A : Array Value} {pre : List AObj} {v : Value} {post : List (Option AObj)} (hA : Nat.ble A.size fn.ntmps = true) {fu : Nat} {orc : Orc} {cd cm : Nat} {st : StopC}
    (hev : evToC P ext fn fn.ntmps cd fu cm c [] (argsT 0 A.toList .nil) ⟨treeL 0 pre, pre.length, [], orc, []⟩ = some st) (ho : ∀ p ∈ st.s.ob, p.1 = p.2) (hn : st.s.n ≤ far)
    (hto : ∀ ι0 w0, (∀ k, ι0 k ≠ none → k < pre.length) → ∀ ι' a' w', Step P ι0 (lk pre) w0 ι' st.s.h.get w' → StopCP P fn (Fin P ι0 pre w0 v post) (fun _ _ _ => False) fn.ntmps ι' a' w' st) : LSpec P f A pre v post := by
  intro ι w args' hd ha he
  refine calls_of_wp hfn hb ?_
  have := (to_soundC F (R := Fin P ι pre w v post) (Nx := fun _ _ _ => False) fu).1 cm c [] _ _ st hev ho ι _ w (args_TR ha (Nat.le_of_ble_eq_true hA)) (by show Emb P ι (treeL 0 pre).get w; rw [treeL_lk]; exact he)
    ⟨hn, fun k h1 _ => by
      cases hk : ι k with
      | none => rfl
      | some b => exact absurd (hd k (by rw [hk]; simp)) (by have : pre.length ≤ k := h1; omega)⟩
    (fun ι' a' w' g1 _ => hto ι w hd ι' a' w' (by have := g1; simp only [treeL_lk] at this; exact this))
  exact this
end
end Ev
end Go.Proofs.YtldlnclkdgfahaaGreat
