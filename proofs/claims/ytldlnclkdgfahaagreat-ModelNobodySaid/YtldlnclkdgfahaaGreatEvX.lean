/- Functions with loops: a run stands ahead of a loop, at a round's end, or at the function's end. -/
import Derived.Test.YtldlnclkdgfahaaGreatEvR
namespace Go.Proofs.YtldlnclkdgfahaaGreat
open Go.RowKit
namespace Ev
/-- What is still to do. -/
inductive Kont where
  | seq (b : Code)
  | blk (id : Nat)
  | scp
  | rnd (i : Nat)
inductive Stop where
  | fin (v : Value) (s : St)
  | head (a : Code) (K : List Kont) (T : Tr Value) (s : St)
  | next (i : Nat) (T : Tr Value) (s : St)
noncomputable section
def Stop.s : Stop → St
  | .fin _ s => s
  | .head _ _ _ s => s
  | .next _ _ s => s
def resV (P : Program) (fn : Func) (T : Tr Value) (s : St) : Option Value :=
  match resultsT P T s fn.results.toList with
  | some [v] => some v
  | some vs => some (.tuple vs.toArray)
  | none => none
def finOf (s : St) : Option Value → Option Stop
  | some v => some (.fin v s)
  | none => none
def evFin (P : Program) (fn : Func) (e : Ex) (T : Tr Value) (s : St) : Option Stop :=
  match e with
  | .exit _ => none
  | .normal => finOf s (resV P fn T s)
  | .ret => finOf s (resV P fn T s)
mutual
def evTo (P : Program) (ext : FuncId → Option Ext) (fn : Func) (nt : Nat) : Nat → Code → List Kont → Tr Value → St → Option Stop
  | 0, _, _, _, _ => none
  | fu + 1, c, K, T, s => match c with
    | .seq a b => evTo P ext fn nt fu a (.seq b :: K) T s
    | .scope a => evTo P ext fn nt fu a (.scp :: K) T s
    | .block id a => evTo P ext fn nt fu a (.blk id :: K) T s
    | .cond x a b => match opnd T x with
      | .bool t => match t with
        | true => evTo P ext fn nt fu a K T s
        | false => evTo P ext fn nt fu b K T s
      | _ => none
    | .loop a => some (.head a K T s)
    | c => match evCode P ext nt fu c T s with
      | some (e, T', s') => evBk P ext fn nt fu K e T' s'
      | none => none
termination_by structural fu _ _ _ _ => fu
def evBk (P : Program) (ext : FuncId → Option Ext) (fn : Func) (nt : Nat) : Nat → List Kont → Ex → Tr Value → St → Option Stop
  | 0, _, _, _, _ => none
  | fu + 1, K, e, T, s => match K with
    | [] => evFin P fn e T s
    | .seq b :: K => match e with
      | .normal => evTo P ext fn nt fu b K T s
      | .exit i => evBk P ext fn nt fu K (.exit i) T s
      | .ret => evBk P ext fn nt fu K .ret T s
    | .blk id :: K => match e with
      | .exit i => bif Nat.beq i id then evBk P ext fn nt fu K .normal T s else evBk P ext fn nt fu K (.exit i) T s
      | .normal => evBk P ext fn nt fu K .normal T s
      | .ret => evBk P ext fn nt fu K .ret T s
    | .scp :: K => evBk P ext fn nt fu K e T s
    | .rnd i :: K => match e with
      | .normal => some (.next i T s)
      | .exit j => evBk P ext fn nt fu K (.exit j) T s
      | .ret => evBk P ext fn nt fu K .ret T s
termination_by structural fu _ _ _ _ => fu
end
end
section
variable {P : Program} {ext : FuncId → Option Ext}
theorem finOf_s {s : St} {o : Option Value} {st : Stop} (h : finOf s o = some st) : ∃ v, st = .fin v s ∧ o = some v := by
  cases o with
  | none => cases h
  | some v => injection h with h; exact ⟨v, h.symm, rfl⟩
theorem evFin_s {fn : Func} {e : Ex} {T : Tr Value} {s : St} {st : Stop} (h : evFin P fn e T s = some st) : ∃ v, st = .fin v s ∧ (match e with | .exit _ => False | _ => True) ∧ (match resultsT P T s fn.results.toList with | some [v] => some v | some vs => some (.tuple vs.toArray) | none => none) = some v := by
  cases e with
  | exit i => cases h
  | normal => obtain ⟨v, h1, h2⟩ := finOf_s h; exact ⟨v, h1, trivial, h2⟩
  | ret => obtain ⟨v, h1, h2⟩ := finOf_s h; exact ⟨v, h1, trivial, h2⟩
theorem up_to (F : Fit P ext) {fn : Func} {nt : Nat} : ∀ fu : Nat, (∀ c K T s st, evTo P ext fn nt fu c K T s = some st → Up s st.s) ∧ (∀ K e T s st, evBk P ext fn nt fu K e T s = some st → Up s st.s) := by
  intro fu
  induction fu with
  | zero => exact ⟨fun _ _ _ _ _ h => by simp [evTo] at h, fun _ _ _ _ _ h => by simp [evBk] at h⟩
  | succ fu ih =>
    obtain ⟨ihT, ihB⟩ := ih
    have other : ∀ c K T s st, (match evCode P ext nt fu c T s with | some (e, T', s') => evBk P ext fn nt fu K e T' s' | none => none) = some st → Up s st.s := fun c K T s st h => by
      split at h
      · exact ((up_all (P := P) (ext := ext) (fun f g hg => (F.hp f g hg).up) fu).1 _ _ _ _ _ _ _ (by assumption)).trans (ihB _ _ _ _ _ h)
      · cases h
    refine ⟨fun c K T s st h => ?_, fun K e T s st h => ?_⟩
    · cases c <;> simp only [evTo] at h
      case seq a b => exact ihT _ _ _ _ _ h
      case scope a => exact ihT _ _ _ _ _ h
      case block id a => exact ihT _ _ _ _ _ h
      case cond x a b =>
        split at h
        · split at h
          · exact ihT _ _ _ _ _ h
          · exact ihT _ _ _ _ _ h
        · cases h
      case loop a => injection h with h; subst h; exact Up.refl _
      all_goals exact other _ _ _ _ _ h
    · cases K with
      | nil => simp only [evBk] at h; obtain ⟨v, rfl, _⟩ := evFin_s h; exact Up.refl _
      | cons k K =>
        cases k <;> simp only [evBk] at h
        · cases e <;> simp only at h
          · exact ihT _ _ _ _ _ h
          · exact ihB _ _ _ _ _ h
          · exact ihB _ _ _ _ _ h
        · cases e <;> simp only at h
          · exact ihB _ _ _ _ _ h
          · rename_i id i
            cases hb : Nat.beq i id <;> rw [hb] at h <;> exact ihB _ _ _ _ _ h
          · exact ihB _ _ _ _ _ h
        · exact ihB _ _ _ _ _ h
        · cases e <;> simp only at h
          · injection h with h; subst h; exact Up.refl _
          · exact ihB _ _ _ _ _ h
          · exact ihB _ _ _ _ _ h
/-- What is to come. -/
def post (P : Program) (fn : Func) (R : Ending → World → Prop) (Nx : Nat → Act → World → Prop) : List Kont → Exit → Act → World → Prop
  | [] => bodyPost P fn R
  | .seq b :: K => Exit.then (b.wp P (post P fn R Nx K)) (post P fn R Nx K)
  | .blk id :: K => Exit.inBlock id (post P fn R Nx K)
  | .scp :: K => Exit.noGoto (post P fn R Nx K)
  | .rnd i :: K => Exit.then (Nx i) (post P fn R Nx K)
/-- What must hold where a run stands. -/
def StopP (P : Program) (fn : Func) (R : Ending → World → Prop) (Nx : Nat → Act → World → Prop) (nt : Nat) (ι : Ren) (a : Act) (w : World) : Stop → Prop
  | .fin v _ => ∀ v', VR ι v v' → R (.returned v') w
  | .head b K T _ => TR ι nt [] T a → (Code.loop b).wp P (post P fn R Nx K) a w
  | .next i T _ => TR ι nt [] T a → Nx i a w
theorem to_sound (F : Fit P ext) {fn : Func} {nt : Nat} {R : Ending → World → Prop} {Nx : Nat → Act → World → Prop} : ∀ fu : Nat,
    (∀ c K T s st, evTo P ext fn nt fu c K T s = some st → (∀ p ∈ st.s.ob, p.1 = p.2) → ∀ ι a w, TR ι nt [] T a → Emb P ι s.h.get w → Fresh ι s.n st.s.n →
      (∀ ι' a' w', Step P ι s.h.get w ι' st.s.h.get w' → Dom ι ι' s.n st.s.n → StopP P fn R Nx nt ι' a' w' st) → c.wp P (post P fn R Nx K) a w) ∧
    (∀ K e T s st, evBk P ext fn nt fu K e T s = some st → (∀ p ∈ st.s.ob, p.1 = p.2) → ∀ ι a w, TR ι nt [] T a → Emb P ι s.h.get w → Fresh ι s.n st.s.n →
      (∀ ι' a' w', Step P ι s.h.get w ι' st.s.h.get w' → Dom ι ι' s.n st.s.n → StopP P fn R Nx nt ι' a' w' st) → post P fn R Nx K e.out a w) := by
  intro fu
  induction fu with
  | zero => exact ⟨fun _ _ _ _ _ h => by simp [evTo] at h, fun _ _ _ _ _ h => by simp [evBk] at h⟩
  | succ fu ih =>
    obtain ⟨ihT, ihB⟩ := ih
    have other : ∀ c K T s st, (match evCode P ext nt fu c T s with | some (e, T', s') => evBk P ext fn nt fu K e T' s' | none => none) = some st → (∀ p ∈ st.s.ob, p.1 = p.2) → ∀ ι a w, TR ι nt [] T a → Emb P ι s.h.get w → Fresh ι s.n st.s.n →
      (∀ ι' a' w', Step P ι s.h.get w ι' st.s.h.get w' → Dom ι ι' s.n st.s.n → StopP P fn R Nx nt ι' a' w' st) → c.wp P (post P fn R Nx K) a w := fun c K T s st h ho ι a w hT he hf hQ => by
      split at h
      · rename_i e T1 s1 h1
        have u1 := (up_all (P := P) (ext := ext) (fun f g hg => (F.hp f g hg).up) fu).1 _ _ _ _ _ _ _ h1
        have u2 := (up_to F (fn := fn) (nt := nt) fu).2 _ _ _ _ _ h
        refine wp_mono (ev_wp F h1 (suffix_ob u2.ob ho) hT he (hf.mono (Nat.le_refl _) u2.n)) ?_
        rintro ex a1 w1 ⟨rfl, ι1, g1, g2, g3⟩
        exact ihB K e T1 s1 st h ho ι1 a1 w1 g3 g1.emb (hf.after g2 u1.n) fun ι' a' w' k1 k2 => hQ ι' a' w' (g1.trans k1) (g2.trans k2 u1.n u2.n)
      · cases h
    refine ⟨fun c K T s st h ho ι a w hT he hf hQ => ?_, fun K e T s st h ho ι a w hT he hf hQ => ?_⟩
    · have h0 := h
      cases c <;> simp only [evTo] at h
      case seq x y => exact wp_seq (ihT x (.seq y :: K) T s st h ho ι a w hT he hf hQ)
      case scope x => exact wp_scope_straight (ihT x (.scp :: K) T s st h ho ι a w hT he hf hQ)
      case block id x => exact wp_block (ihT x (.blk id :: K) T s st h ho ι a w hT he hf hQ)
      case cond x y z =>
        split at h
        · rename_i t ht
          have hx : a.eval x = .bool t := evalG_bool ((ht ▸ hT.opnd x : VR ι (.bool t) (evalG a x)).bool_inv)
          split at h
          · exact wp_cond_true hx (ihT y K T s st h ho ι a w hT he hf hQ)
          · exact wp_cond_false hx (ihT z K T s st h ho ι a w hT he hf hQ)
        · cases h
      case loop x =>
        injection h with h
        subst h
        exact hQ ι a w (Step.refl he) Dom.refl hT
      all_goals exact other _ K T s st h ho ι a w hT he hf hQ
    · cases K with
      | nil =>
        simp only [evBk] at h
        obtain ⟨v, rfl, hne, hr⟩ := evFin_s h
        obtain ⟨v', hrun, hv⟩ := results_run hT he hr
        have := hQ ι a w (Step.refl he) Dom.refl v' hv
        cases e with
        | normal => exact ⟨hT.2.1, v', hrun, this⟩
        | ret => exact ⟨hT.2.1, v', hrun, this⟩
        | exit i => exact hne.elim
      | cons k K =>
        cases k with
        | seq b =>
          simp only [evBk] at h
          cases e with
          | normal => exact ihT b K T s st h ho ι a w hT he hf hQ
          | exit i => exact ihB K (.exit i) T s st h ho ι a w hT he hf hQ
          | ret => exact ihB K .ret T s st h ho ι a w hT he hf hQ
        | blk id =>
          simp only [evBk] at h
          cases e with
          | normal => exact ihB K .normal T s st h ho ι a w hT he hf hQ
          | ret => exact ihB K .ret T s st h ho ι a w hT he hf hQ
          | exit i =>
            simp only at h
            show if i = id then _ else _
            cases hb : Nat.beq i id with
            | true =>
              rw [hb] at h
              rw [if_pos (Nat.eq_of_beq_eq_true hb)]
              exact ihB K .normal T s st h ho ι a w hT he hf hQ
            | false =>
              rw [hb] at h
              rw [if_neg (fun e => by rw [beqT e] at hb; cases hb)]
              exact ihB K (.exit i) T s st h ho ι a w hT he hf hQ
        | scp =>
          simp only [evBk] at h
          have := ihB K e T s st h ho ι a w hT he hf hQ
          cases e <;> exact this
        | rnd i =>
          simp only [evBk] at h
          cases e with
          | normal =>
            injection h with h
            subst h
            exact hQ ι a w (Step.refl he) Dom.refl hT
          | exit j => exact ihB K (.exit j) T s st h ho ι a w hT he hf hQ
          | ret => exact ihB K .ret T s st h ho ι a w hT he hf hQ
/-- Does the number stand among the rounds? -/
def inK (i : Nat) : List Kont → Bool
  | [] => false
  | .rnd j :: K => Nat.beq j i || inK i K
  | _ :: K => inK i K
theorem post_congr {fn : Func} {R : Ending → World → Prop} {Nx Nx' : Nat → Act → World → Prop} {i : Nat} (h : ∀ j, j ≠ i → Nx' j = Nx j) : ∀ {K : List Kont}, inK i K = false → post P fn R Nx' K = post P fn R Nx K
  | [], _ => rfl
  | .seq b :: K, hk => by simp only [post]; rw [post_congr h (K := K) hk]
  | .blk id :: K, hk => by simp only [post]; rw [post_congr h (K := K) hk]
  | .scp :: K, hk => by simp only [post]; rw [post_congr h (K := K) hk]
  | .rnd j :: K, hk => by
    simp only [inK, Bool.or_eq_false_iff] at hk
    simp only [post]
    rw [post_congr h (K := K) hk.2, h j (fun e => by rw [beqT e] at hk; cases hk.1)]
/-- A state (T, s) is a loop's state at x, its blocks numbered anew. -/
def Into (nt m : Nat) (L : Nat → Option Value) (H : Tr AObj) (T : Tr Value) (s : St) (live : List Nat) : Prop :=
  live.length = m ∧ live.Nodup ∧
    (∀ t v, t < nt → L t = some v → v = renV (rho live far) 3 ((T.get t).getD undef) ∧ shallow 3 ((T.get t).getD undef) = true) ∧
    ∀ j o, H.get j = some o → ∃ k, live[j]? = some k ∧ match o with
      | .ro O m => s.h.get k = some (.ro O m)
      | .cells c t => ∃ c' r, s.h.get k = some (.cells c' t) ∧ c'.map (renV (rho live far) 1) = c ++ r ∧ allB (shallow 1) c' = true
/-- The first n numbers stay. -/
def keeps (n : Nat) (live : List Nat) : Bool := live.take n == List.range n
theorem keeps_spec {n : Nat} {live : List Nat} (h : keeps n live = true) {k : Nat} (hk : k < n) : live[k]? = some k := by
  have h := beq_iff_eq.1 h
  have : (live.take n)[k]? = some k := by rw [h]; simp [hk]
  rwa [List.getElem?_take_of_lt hk] at this
theorem into_at {nt m n0 : Nat} {L : Nat → Option Value} {H : Tr AObj} {T : Tr Value} {s : St} {live : List Nat} (hm : m ≤ far) (h : Into nt m L H T s live) (hk : keeps n0 live = true) {ι0 ι : Ren} (hd : ∀ k, ι0 k ≠ none → k < n0) {h0 : AH} {w0 w : World} {a : Act} (hT : TR ι nt [] T a) (hS : Step P ι0 h0 w0 ι s.h.get w) :
    ∃ gv, At P nt (tmps nt L gv) H.get m far ι0 h0 w0 a w :=
  at_next hT hS live m far h.1 hm h.2.1 (fun k hk2 => keeps_spec hk (hd k hk2)) L h.2.2.1 H.get h.2.2.2
/-- What a round must come to. -/
def RoundTo (P : Program) (fn : Func) (R : Ending → World → Prop) (Nx : Nat → Act → World → Prop) (nt m n0 i : Nat) (ι0 : Ren) (h0 : AH) (w0 : World) {X : Type} (L : X → Nat → Option Value) (H : X → Tr AObj) (μ : X → Nat) (x : X) (st : Stop) : Prop :=
  match st with
  | .fin v s => ∀ ι w, Step P ι0 h0 w0 ι s.h.get w → ∀ v', VR ι v v' → R (.returned v') w
  | .next j T s => (j = i ∧ ∃ y live, μ y < μ x ∧ keeps n0 live = true ∧ Into nt m (L y) (H y) T s live) ∨ (j ≠ i ∧ ∀ ι a w, TR ι nt [] T a → Step P ι0 h0 w0 ι s.h.get w → Nx j a w)
  | .head b K T s => ∀ Nx' : Nat → Act → World → Prop, (∀ j, j ≠ i → Nx' j = Nx j) → (∀ y gv a w, μ y < μ x → At P nt (tmps nt (L y) gv) (H y).get m far ι0 h0 w0 a w → Nx' i a w) →
      ∀ ι a w, TR ι nt [] T a → Step P ι0 h0 w0 ι s.h.get w → (Code.loop b).wp P (post P fn R Nx' K) a w
/-- A LOOP BY ITS ROUNDS. -/
theorem rounds_all (F : Fit P ext) {fn : Func} {R : Ending → World → Prop} {Nx : Nat → Act → World → Prop} {nt m n0 i : Nat} (hm : m ≤ far) {ι0 : Ren} (hd : ∀ k, ι0 k ≠ none → k < n0) {h0 : AH} {w0 : World} {X : Type} (L : X → Nat → Option Value) (H : X → Tr AObj) (μ : X → Nat) (body : Code) (K : List Kont) (hK : inK i K = false)
    (round : ∀ x gv, ∃ fu orc st, evTo P ext fn nt fu body (.rnd i :: K) (tmps nt (L x) gv) ⟨H x, m, [], orc, []⟩ = some st ∧ (∀ p ∈ st.s.ob, p.1 = p.2) ∧ st.s.n ≤ far ∧ RoundTo P fn R Nx nt m n0 i ι0 h0 w0 L H μ x st) :
    ∀ (n : Nat) (x : X), μ x ≤ n → ∀ gv a w, At P nt (tmps nt (L x) gv) (H x).get m far ι0 h0 w0 a w → Code.rounds P body (post P fn R Nx K) (n + 1) a w := by
  intro n
  induction n with
  | zero =>
    rintro x hx gv a w ⟨ι, hT, hS, hfr⟩
    obtain ⟨fu, orc, st, hev, ho, hn, hto⟩ := round x gv
    rw [rounds_succ]
    have hp := post_congr (P := P) (fn := fn) (R := R) (Nx := Nx) (Nx' := fun j => if j = i then Code.rounds P body (post P fn R Nx K) 0 else Nx j) (i := i) (fun j hj => by simp [hj]) hK
    have := (to_sound F (R := R) (Nx := fun j => if j = i then Code.rounds P body (post P fn R Nx K) 0 else Nx j) fu).1 _ _ _ _ st hev ho ι a w hT hS.emb ⟨hn, fun k h1 h2 => hfr k h1 (Nat.lt_of_lt_of_le h2 hn)⟩ fun ι' a' w' g1 g2 => ?_
    · simp only [post, hp, if_true] at this
      exact this
    · cases st with
      | fin v s => exact fun v' hv => hto ι' w' (hS.trans g1) v' hv
      | next j T s =>
        intro hT'
        rcases hto with ⟨rfl, y, live, hy, _⟩ | ⟨hj, hto⟩
        · omega
        · show (if j = i then _ else Nx j) a' w'
          rw [if_neg hj]
          exact hto ι' a' w' hT' (hS.trans g1)
      | head b K' T s => exact fun hT' => hto _ (fun j hj => by simp [hj]) (fun y gv a w hy _ => by omega) ι' a' w' hT' (hS.trans g1)
  | succ n ih =>
    rintro x hx gv a w ⟨ι, hT, hS, hfr⟩
    obtain ⟨fu, orc, st, hev, ho, hn, hto⟩ := round x gv
    rw [rounds_succ]
    have hp := post_congr (P := P) (fn := fn) (R := R) (Nx := Nx) (Nx' := fun j => if j = i then Code.rounds P body (post P fn R Nx K) (n + 1) else Nx j) (i := i) (fun j hj => by simp [hj]) hK
    have := (to_sound F (R := R) (Nx := fun j => if j = i then Code.rounds P body (post P fn R Nx K) (n + 1) else Nx j) fu).1 _ _ _ _ st hev ho ι a w hT hS.emb ⟨hn, fun k h1 h2 => hfr k h1 (Nat.lt_of_lt_of_le h2 hn)⟩ fun ι' a' w' g1 g2 => ?_
    · simp only [post, hp, if_true] at this
      exact this
    · cases st with
      | fin v s => exact fun v' hv => hto ι' w' (hS.trans g1) v' hv
      | next j T s =>
        intro hT'
        rcases hto with ⟨rfl, y, live, hy, hk, hi⟩ | ⟨hj, hto⟩
        · obtain ⟨gv', hat⟩ := into_at hm hi hk hd hT' (hS.trans g1)
          show (if j = j then _ else Nx j) a' w'
          rw [if_pos rfl]
          exact ih y (by omega) gv' a' w' hat
        · show (if j = i then _ else Nx j) a' w'
          rw [if_neg hj]
          exact hto ι' a' w' hT' (hS.trans g1)
      | head b K' T s =>
        refine fun hT' => hto _ (fun j hj => by simp [hj]) (fun y gv a w hy hat => ?_) ι' a' w' hT' (hS.trans g1)
        show (if i = i then _ else Nx i) a w
        rw [if_pos rfl]
        exact ih y (by omega) gv a w hat
/-- From a loop's state on. -/
theorem loop_at (F : Fit P ext) {fn : Func} {R : Ending → World → Prop} {Nx : Nat → Act → World → Prop} {nt m n0 : Nat} (i : Nat) (hm : m ≤ far) {ι0 : Ren} (hd : ∀ k, ι0 k ≠ none → k < n0) {h0 : AH} {w0 : World} {X : Type} (L : X → Nat → Option Value) (H : X → Tr AObj) (μ : X → Nat) (body : Code) (K : List Kont) (hK : inK i K = false)
    (round : ∀ x gv, ∃ fu orc st, evTo P ext fn nt fu body (.rnd i :: K) (tmps nt (L x) gv) ⟨H x, m, [], orc, []⟩ = some st ∧ (∀ p ∈ st.s.ob, p.1 = p.2) ∧ st.s.n ≤ far ∧ RoundTo P fn R Nx nt m n0 i ι0 h0 w0 L H μ x st)
    (x : X) {T : Tr Value} {s : St} {live : List Nat} (hi : Into nt m (L x) (H x) T s live) (hk : keeps n0 live = true) {ι : Ren} {a : Act} {w : World} (hT : TR ι nt [] T a) (hS : Step P ι0 h0 w0 ι s.h.get w) : (Code.loop body).wp P (post P fn R Nx K) a w := by
  obtain ⟨gv, hat⟩ := into_at hm hi hk hd hT hS
  exact wp_loop_rounds _ (rounds_all F hm hd L H μ body K hK round (μ x) x (Nat.le_refl _) gv a w hat)
end
end Ev
end Go.Proofs.YtldlnclkdgfahaaGreat
