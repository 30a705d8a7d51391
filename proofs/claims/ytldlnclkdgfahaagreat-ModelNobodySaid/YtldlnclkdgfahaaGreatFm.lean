/- Functions of loops as machines: states at loops' heads, and a step from each to the next one. -/
import Derived.Test.YtldlnclkdgfahaaGreatCu
namespace Go.Proofs.YtldlnclkdgfahaaGreat
open Go.RowKit
namespace Ev
/-- The rounds that a way on is within. -/
def rids : List Kont → List Nat
  | [] => []
  | .rnd i :: K => i :: rids K
  | .seq _ :: K => rids K
  | .blk _ :: K => rids K
  | .scp :: K => rids K
/-- Steps till there is a result, so many at most. -/
def iter {X R : Type} (step : X → Option (X ⊕ R)) : Nat → X → Option R
  | 0, _ => none
  | n + 1, x => match step x with
    | none => none
    | some (.inl y) => iter step n y
    | some (.inr r) => some r
def goM {X R : Type} (step : X → Option (X ⊕ R)) (n : Nat) (o : Option (X ⊕ R)) : Option R :=
  match o with
  | none => none
  | some (.inl y) => iter step n y
  | some (.inr r) => some r
theorem le_far (n : Nat) (h : Nat.ble n 1000000000 = true) : n ≤ far := Nat.le_of_ble_eq_true h
theorem rounds_le {P : Program} {c : Code} {Q : Exit → Act → World → Prop} : ∀ (n m : Nat), n ≤ m → ∀ a w, Code.rounds P c Q n a w → Code.rounds P c Q m a w
  | 0, _, _, _, _, h => h.elim
  | n + 1, 0, hm, _, _, _ => by omega
  | n + 1, m + 1, hm, a, w, h => by
    rw [rounds_succ] at h ⊢
    refine wp_mono h ?_
    intro e a' w' h'
    cases e with
    | normal => exact rounds_le n m (by omega) a' w' h'
    | exit i => exact h'
    | goto l => exact h'
    | ret => exact h'
    | panic ch => exact h'
    | outgrown => exact h'
theorem post_congr' {P : Program} {fn : Func} {R : Ending → World → Prop} {Nx Nx' : Nat → Act → World → Prop} : ∀ {K : List Kont}, (∀ j ∈ rids K, Nx' j = Nx j) → post P fn R Nx' K = post P fn R Nx K
  | [], _ => rfl
  | .seq b :: K, h => by simp only [post]; rw [post_congr' (K := K) h]
  | .blk id :: K, h => by simp only [post]; rw [post_congr' (K := K) h]
  | .scp :: K, h => by simp only [post]; rw [post_congr' (K := K) h]
  | .rnd j :: K, h => by
    simp only [post]
    rw [post_congr' (K := K) fun j hj => h j (List.mem_cons_of_mem _ hj), h j (List.mem_cons_self ..)]
/-- Blocks, some of which are known no more. -/
noncomputable def treeO : Nat → List (Option AObj) → Tr AObj
  | _, [] => .nil
  | i, none :: l => treeO (i + 1) l
  | i, some o :: l => (treeO (i + 1) l).set i (some o)
theorem get_treeO : ∀ (l : List (Option AObj)) (i k : Nat), (treeO i l).get k = if i ≤ k then (l[k - i]?).join else none
  | [], i, k => by
    show (Tr.nil : Tr AObj).get k = _
    rw [Tr.get_nil]
    split <;> simp
  | none :: l, i, k => by
    show (treeO (i + 1) l).get k = _
    rw [get_treeO l (i + 1) k]
    by_cases h : i + 1 ≤ k
    · rw [if_pos h, if_pos (by omega)]
      have : k - i = (k - (i + 1)) + 1 := by omega
      rw [this, List.getElem?_cons_succ]
    · rw [if_neg h]
      by_cases hk : i ≤ k
      · rw [if_pos hk, show k - i = 0 by omega]; rfl
      · rw [if_neg hk]
  | some o :: l, i, k => by
    show ((treeO (i + 1) l).set i (some o)).get k = _
    rw [Tr.get_set]
    by_cases hk : k = i
    · subst hk; rw [upd_same, if_pos (Nat.le_refl _)]; simp
    · rw [upd_other hk, get_treeO l (i + 1) k]
      by_cases h : i + 1 ≤ k
      · rw [if_pos h, if_pos (by omega)]
        have : k - i = (k - (i + 1)) + 1 := by omega
        rw [this, List.getElem?_cons_succ]
      · rw [if_neg h, if_neg (by omega)]
theorem treeO_lk (l : List (Option AObj)) : (treeO 0 l).get = lkO l := funext fun k => by rw [get_treeO]; simp [lkO]
theorem into_ofO {nt m : Nat} {lt : List (Nat × Value)} {H : List (Option AObj)} {T : Tr Value} {s : St} {live : List Nat} (hl : live.length = m) (hn : live.Nodup) (ht : TempsOK (rho live far) ((lt.map (·.1)).map T.get) lt) (hb : BlocksOK (rho live far) (live.map s.h.get) H) : Into nt m (fun t => look t lt) (treeO 0 H) T s live := by
  refine ⟨hl, hn, fun t v _ h => temps_at ht t v h, fun j o ho => ?_⟩
  rw [treeO_lk] at ho
  exact blocks_at hb j o ho
/-- The code at a place, and what is to do behind it. -/
def atOf : List Nat → Code → List Kont → Code × List Kont
  | [], c, K => (c, K)
  | 0 :: p, .seq a b, K => atOf p a (.seq b :: K)
  | 1 :: p, .seq _ b, K => atOf p b K
  | 2 :: p, .scope a, K => atOf p a (.scp :: K)
  | 3 :: p, .block i a, K => atOf p a (.blk i :: K)
  | 4 :: p, .cond _ a _, K => atOf p a K
  | 5 :: p, .cond _ _ b, K => atOf p b K
  | (n + 6) :: p, .loop a, K => atOf p a (.rnd n :: K)
  | _, _, K => (.skip, K)
structure Mach where
  fn : Func
  pre : List AObj
  X : Type
  R : Type
  step : X → Option (X ⊕ R)
  hd : X → Nat
  code : Nat → Code × List Kont
  isL : Nat → Bool
  L : X → List (Nat × Value)
  H : X → List (Option AObj)
  V : R → Value
  Po : R → List (Option AObj)
namespace Mach
def after (M : Mach) (n : Nat) : M.X ⊕ M.R → Option M.R
  | .inl y => iter M.step n y
  | .inr r => some r
/-- What is to do behind the round, or behind the cut. -/
def KK (M : Mach) (i : Nat) : List Kont := match M.isL i with | true => .rnd i :: (M.code i).2 | false => (M.code i).2
/-- A state, as it is met. -/
def IntoM (M : Mach) (y : M.X) (T : Tr Value) (s : St) : Prop :=
  ∃ live, keeps M.pre.length live = true ∧ Into M.fn.ntmps (M.H y).length (fun t => look t (M.L y)) (treeO 0 (M.H y)) T s live
/-- What a run comes to. -/
def To (M : Mach) (K0 : List Kont) : StopC → M.X ⊕ M.R → Prop
  | .fin u s, .inr r => ∃ live, FinOK M.pre.length (M.V r) (M.Po r) u s live
  | .next j T s, .inl y => j = M.hd y ∧ M.isL j = true ∧ j ∈ rids K0 ∧ M.IntoM y T s
  | .head b K T s, .inl y => M.isL (M.hd y) = true ∧ (b, K) = M.code (M.hd y) ∧ (∀ j ∈ rids K, j ∈ rids K0) ∧ M.IntoM y T s
  | .cut b K T s, .inl y => M.isL (M.hd y) = false ∧ (b, K) = M.code (M.hd y) ∧ (∀ j ∈ rids K, j ∈ rids K0) ∧ M.IntoM y T s
  | _, _ => False
noncomputable def Start (M : Mach) (x : M.X) (gv : Nat → Value) (P : Program) (ext : FuncId → Option Ext) (cd cm fu : Nat) (orc : Orc) : Option StopC :=
  evToC P ext M.fn M.fn.ntmps cd fu cm (M.code (M.hd x)).1 (M.KK (M.hd x)) (tmps M.fn.ntmps (fun t => look t (M.L x)) gv) ⟨treeO 0 (M.H x), (M.H x).length, [], orc, []⟩
/-- From a state on: if the machine's step gives something, the code's run comes to it. -/
noncomputable def Ok (M : Mach) (P : Program) (ext : FuncId → Option Ext) (x : M.X) (o : Option (M.X ⊕ M.R)) : Prop :=
  ∀ y, o = some y → ∀ gv, ∃ cd cm fu orc st, M.Start x gv P ext cd cm fu orc = some st ∧ (∀ p ∈ st.s.ob, p.1 = p.2) ∧ st.s.n ≤ far ∧ M.To (M.KK (M.hd x)) st y
def AtM (M : Mach) (P : Program) (ι0 : Ren) (w0 : World) (y : M.X) (gv : Nat → Value) (a : Act) (w : World) : Prop :=
  At P M.fn.ntmps (tmps M.fn.ntmps (fun t => look t (M.L y)) gv) (treeO 0 (M.H y)).get (M.H y).length far ι0 (lk M.pre) w0 a w
section
variable {P : Program} {ext : FuncId → Option Ext}
/-- What a state's code does, if its steps come to r. -/
def Good (M : Mach) (P : Program) (r : M.R) (ι0 : Ren) (w0 : World) (n : Nat) (x : M.X) (Nx : Nat → Act → World → Prop) (a : Act) (w : World) : Prop :=
  match M.isL (M.hd x) with
  | true => Code.rounds P (M.code (M.hd x)).1 (post P M.fn (Fin P ι0 M.pre w0 (M.V r) (M.Po r)) Nx (M.code (M.hd x)).2) n a w
  | false => (M.code (M.hd x)).1.wp P (post P M.fn (Fin P ι0 M.pre w0 (M.V r) (M.Po r)) Nx (M.code (M.hd x)).2) a w
/-- Wherever an outer loop may go on, its way is known. -/
def Outer (M : Mach) (P : Program) (r : M.R) (ι0 : Ren) (w0 : World) (n : Nat) (js : List Nat) (Nx : Nat → Act → World → Prop) : Prop :=
  ∀ m z, m < n → iter M.step m z = some r → M.isL (M.hd z) = true → M.hd z ∈ js → ∀ gv a w, M.AtM P ι0 w0 z gv a w → Nx (M.hd z) a w
theorem run1 (M : Mach) (hH : ∀ x, (M.H x).length ≤ far) (hPo : ∀ r, (M.Po r).length ≤ far) (r : M.R) {ι0 : Ren} {w0 : World} (hd0 : ∀ k, ι0 k ≠ none → k < M.pre.length) (n : Nat)
    (ih : ∀ m, m ≤ n → ∀ x, iter M.step m x = some r → ∀ Nx, M.Outer P r ι0 w0 m (rids (M.code (M.hd x)).2) Nx → ∀ gv a w, M.AtM P ι0 w0 x gv a w → M.Good P r ι0 w0 m x Nx a w)
    {K0 : List Kont} {Nx : Nat → Act → World → Prop} (hNx : M.Outer P r ι0 w0 (n + 1) (rids K0) Nx) {st : StopC} {y : M.X ⊕ M.R} (hto : M.To K0 st y) (hy : M.after n y = some r)
    {ι : Ren} {a : Act} {w : World} (hS : Step P ι0 (lk M.pre) w0 ι st.s.h.get w) : StopCP P M.fn (Fin P ι0 M.pre w0 (M.V r) (M.Po r)) Nx M.fn.ntmps ι a w st := by
  have sub : ∀ {K : List Kont}, (∀ j ∈ rids K, j ∈ rids K0) → M.Outer P r ι0 w0 n (rids K) Nx := fun {K} hs m z hm hz hl hj gv a w hat => hNx m z (by omega) hz hl (hs _ hj) gv a w hat
  cases st with
  | fin u s =>
    cases y with
    | inl y => exact hto.elim
    | inr r' =>
      obtain ⟨live, hto⟩ := hto
      obtain rfl : r' = r := Option.some.inj hy
      exact fun v' hv => fin_of (hPo r') hd0 hto hS hv
  | next j T s =>
    cases y with
    | inr r' => exact hto.elim
    | inl y =>
      obtain ⟨rfl, hl, hj, live, hk, hi⟩ := hto
      intro hT
      obtain ⟨gv, hat⟩ := into_at (hH y) hi hk hd0 hT hS
      exact hNx n y (by omega) hy hl hj gv a w hat
  | head b K T s =>
    cases y with
    | inr r' => exact hto.elim
    | inl y =>
      obtain ⟨hl, hc, hsub, live, hk, hi⟩ := hto
      intro hT
      obtain ⟨gv, hat⟩ := into_at (hH y) hi hk hd0 hT hS
      have e1 : b = (M.code (M.hd y)).1 := congrArg Prod.fst hc
      have e2 : K = (M.code (M.hd y)).2 := congrArg Prod.snd hc
      subst e1 e2
      have := ih n (Nat.le_refl _) y hy Nx (sub hsub) gv a w hat
      unfold Good at this
      rw [hl] at this
      exact wp_loop_rounds n this
  | cut b K T s =>
    cases y with
    | inr r' => exact hto.elim
    | inl y =>
      obtain ⟨hl, hc, hsub, live, hk, hi⟩ := hto
      intro hT
      obtain ⟨gv, hat⟩ := into_at (hH y) hi hk hd0 hT hS
      have e1 : b = (M.code (M.hd y)).1 := congrArg Prod.fst hc
      have e2 : K = (M.code (M.hd y)).2 := congrArg Prod.snd hc
      subst e1 e2
      have := ih n (Nat.le_refl _) y hy Nx (sub hsub) gv a w hat
      unfold Good at this
      rw [hl] at this
      exact this
theorem rounds (F : Fit P ext) (M : Mach) (hH : ∀ x, (M.H x).length ≤ far) (hPo : ∀ r, (M.Po r).length ≤ far) (hK : ∀ x, M.isL (M.hd x) = true → M.hd x ∉ rids (M.code (M.hd x)).2) (ok : ∀ x, M.Ok P ext x (M.step x)) (r : M.R) {ι0 : Ren} {w0 : World} (hd0 : ∀ k, ι0 k ≠ none → k < M.pre.length) :
    ∀ (n : Nat) (x : M.X), iter M.step n x = some r → ∀ Nx, M.Outer P r ι0 w0 n (rids (M.code (M.hd x)).2) Nx → ∀ gv a w, M.AtM P ι0 w0 x gv a w → M.Good P r ι0 w0 n x Nx a w := by
  intro n
  induction n using Nat.strongRecOn with
  | ind n ih =>
    intro x hx Nx hNx gv a w hat
    cases n with
    | zero => cases hx
    | succ n =>
      have hat0 := hat
      obtain ⟨ι, hT, hS, hfr⟩ := hat
      cases hy : M.step x with
      | none => simp only [iter, hy] at hx; cases hx
      | some y =>
        obtain ⟨cd, cm, fu, orc, st, hev, ho, hn, hto⟩ := ok x y hy gv
        have hyr : M.after n y = some r := by
          cases y <;> (simp only [iter, hy] at hx; exact hx)
        have fresh : Fresh ι (M.H x).length st.s.n := ⟨hn, fun k h1 h2 => hfr k h1 (Nat.lt_of_lt_of_le h2 hn)⟩
        have ih' : ∀ m, m ≤ n → ∀ x, iter M.step m x = some r → ∀ Nx, M.Outer P r ι0 w0 m (rids (M.code (M.hd x)).2) Nx → ∀ gv a w, M.AtM P ι0 w0 x gv a w → M.Good P r ι0 w0 m x Nx a w := fun m hm => ih m (by omega)
        have go : ∀ Nx', M.Outer P r ι0 w0 (n + 1) (rids (M.KK (M.hd x))) Nx' → (M.code (M.hd x)).1.wp P (post P M.fn (Fin P ι0 M.pre w0 (M.V r) (M.Po r)) Nx' (M.KK (M.hd x))) a w := fun Nx' hNx' =>
          (to_soundC F (R := Fin P ι0 M.pre w0 (M.V r) (M.Po r)) (Nx := Nx') fu).1 cm _ _ _ _ st hev ho ι a w hT hS.emb fresh fun ι' a' w' g1 _ => run1 M hH hPo r hd0 n ih' hNx' hto hyr (hS.trans g1)
        unfold Good
        cases hl : M.isL (M.hd x) with
        | false =>
          have e : M.KK (M.hd x) = (M.code (M.hd x)).2 := by unfold KK; rw [hl]
          rw [e] at go
          exact go Nx hNx
        | true =>
          have e : M.KK (M.hd x) = .rnd (M.hd x) :: (M.code (M.hd x)).2 := by unfold KK; rw [hl]
          rw [e] at go
          show Code.rounds P _ _ (n + 1) a w
          rw [rounds_succ]
          let Nx' : Nat → Act → World → Prop := fun j => if j = M.hd x then Code.rounds P (M.code (M.hd x)).1 (post P M.fn (Fin P ι0 M.pre w0 (M.V r) (M.Po r)) Nx (M.code (M.hd x)).2) n else Nx j
          have n1 : Nx' (M.hd x) = Code.rounds P (M.code (M.hd x)).1 (post P M.fn (Fin P ι0 M.pre w0 (M.V r) (M.Po r)) Nx (M.code (M.hd x)).2) n := if_pos rfl
          have n2 : ∀ j, j ≠ M.hd x → Nx' j = Nx j := fun j hj => if_neg hj
          have hp : post P M.fn (Fin P ι0 M.pre w0 (M.V r) (M.Po r)) Nx' (M.code (M.hd x)).2 = post P M.fn (Fin P ι0 M.pre w0 (M.V r) (M.Po r)) Nx (M.code (M.hd x)).2 := post_congr' fun j hj => n2 j fun e => by subst e; exact hK x hl hj
          have := go Nx' fun m z hm hz hlz hj gv a w hat => by
            by_cases hzx : M.hd z = M.hd x
            · rw [hzx, n1]
              have := ih m (by omega) z hz Nx (fun m' z' h1 h2 h3 h4 => hNx m' z' (by omega) h2 h3 (by rw [hzx] at h4; exact h4)) gv a w hat
              unfold Good at this
              rw [hlz] at this
              rw [hzx] at this
              exact rounds_le m n (by omega) a w this
            · rw [n2 _ hzx]
              rcases List.mem_cons.1 hj with h | h
              · exact absurd h hzx
              · exact hNx m z (by omega) hz hlz h gv a w hat
          simp only [post, hp, n1] at this
          exact this
/-- A run from the function's entry to a state, or to its end. -/
noncomputable def Enter (M : Mach) (P : Program) (ext : FuncId → Option Ext) (A : Array Value) (o : Option (M.X ⊕ M.R)) : Prop :=
  ∀ y, o = some y → ∃ cd cm fu orc st, evToC P ext M.fn M.fn.ntmps cd fu cm (bodyC M.fn) [] (argsT 0 A.toList .nil) ⟨treeL 0 M.pre, M.pre.length, [], orc, []⟩ = some st ∧ (∀ p ∈ st.s.ob, p.1 = p.2) ∧ st.s.n ≤ far ∧ M.To [] st y
theorem spec (F : Fit P ext) (M : Mach) {f : FuncId} (hfn : P.funcs[f]? = some M.fn) (hb : M.fn.body = some (bodyC M.fn)) {A : Array Value} (hA : Nat.ble A.size M.fn.ntmps = true) (hH : ∀ x, (M.H x).length ≤ far) (hPo : ∀ r, (M.Po r).length ≤ far) (hK : ∀ x, M.isL (M.hd x) = true → M.hd x ∉ rids (M.code (M.hd x)).2)
    (ok : ∀ x, M.Ok P ext x (M.step x)) {o : Option (M.X ⊕ M.R)} (en : M.Enter P ext A o) {n : Nat} {r : M.R} (h : goM M.step n o = some r) : LSpec P f A M.pre (M.V r) (M.Po r) := by
  cases o with
  | none => cases h
  | some y =>
    obtain ⟨cd, cm, fu, orc, st, hev, ho, hn, hto⟩ := en y rfl
    refine lspec_ofC F hfn hb hA hev ho hn fun ι0 w0 hd ι' a' w' hS => ?_
    exact run1 M hH hPo r hd n (fun m _ => rounds F M hH hPo hK ok r hd m) (K0 := []) (fun m z _ _ _ hj => by cases hj) hto (by cases y <;> exact h) hS
end
/-! ### How leaves are written -/
section
variable {P : Program} {ext : FuncId → Option Ext} {M : Mach} {x : M.X} {cd cm fu : Nat} {orc : Orc} {live : List Nat} {bl : List (Option AObj)} {ob : List (Bool × Bool)}
theorem ok_none : M.Ok P ext x none := fun _ h => by cases h
theorem ok_ite {c : Prop} [Decidable c] {A B : Option (M.X ⊕ M.R)} (h1 : c → M.Ok P ext x A) (h2 : ¬ c → M.Ok P ext x B) : M.Ok P ext x (if c then A else B) := by
  by_cases h : c
  · rw [if_pos h]; exact h1 h
  · rw [if_neg h]; exact h2 h
theorem ok_bind {α : Type} {o : Option α} {k : α → Option (M.X ⊕ M.R)} (h : ∀ r, o = some r → M.Ok P ext x (k r)) : M.Ok P ext x (o.bind k) := by
  cases o with
  | none => exact ok_none
  | some r => exact h r rfl
theorem ok_fin {r : M.R} {u : Value} (hev : ∀ gv, outFinC live (M.Start x gv P ext cd cm fu orc) = some (u, bl, ob)) (ho : ∀ p ∈ ob, p.1 = p.2) (hl : live.length = (M.Po r).length) (hn : live.Nodup) (hk : keeps M.pre.length live = true) (hv : M.V r = renV (rho live far) 3 u ∧ shallow 3 u = true) (hbl : BlocksOK (rho live far) bl (M.Po r)) : M.Ok P ext x (some (.inr r)) := by
  intro y hy gv
  obtain rfl := Option.some.inj hy
  obtain ⟨s, h1, rfl, rfl, h4⟩ := outFinC_spec (hev gv)
  exact ⟨cd, cm, fu, orc, _, h1, ho, h4, live, hl, hn, hk, hv, blocks_at hbl⟩
theorem ok_next {y : M.X} {tv : (Nat → Value) → List (Option Value)} (hL : M.isL (M.hd y) = true) (hr : M.hd y ∈ rids (M.KK (M.hd x))) (hev : ∀ gv, outNextC (M.hd y) live ((M.L y).map (·.1)) (M.Start x gv P ext cd cm fu orc) = some (tv gv, bl, ob)) (ho : ∀ p ∈ ob, p.1 = p.2) (hl : live.length = (M.H y).length) (hn : live.Nodup) (hk : keeps M.pre.length live = true) (ht : ∀ gv, TempsOK (rho live far) (tv gv) (M.L y)) (hbl : BlocksOK (rho live far) bl (M.H y)) : M.Ok P ext x (some (.inl y)) := by
  intro y' hy gv
  obtain rfl := Option.some.inj hy
  obtain ⟨T, s, h1, h2, rfl, rfl, h4⟩ := outNextC_spec (hev gv)
  exact ⟨cd, cm, fu, orc, _, h1, ho, h4, rfl, hL, hr, live, hk, into_ofO hl hn (h2 ▸ ht gv) hbl⟩
theorem ok_head {y : M.X} {tv : (Nat → Value) → List (Option Value)} {bK : Code × List Kont} (hL : M.isL (M.hd y) = true) (hr : bK = M.code (M.hd y)) (hsub : ∀ j ∈ rids (M.code (M.hd y)).2, j ∈ rids (M.KK (M.hd x))) (hev : ∀ gv, outHeadC live ((M.L y).map (·.1)) (M.Start x gv P ext cd cm fu orc) = some (bK, tv gv, bl, ob)) (ho : ∀ p ∈ ob, p.1 = p.2) (hl : live.length = (M.H y).length) (hn : live.Nodup) (hk : keeps M.pre.length live = true) (ht : ∀ gv, TempsOK (rho live far) (tv gv) (M.L y)) (hbl : BlocksOK (rho live far) bl (M.H y)) : M.Ok P ext x (some (.inl y)) := by
  intro y' hy gv
  obtain rfl := Option.some.inj hy
  obtain ⟨T, s, h1, h2, rfl, rfl, h4⟩ := outHeadC_spec (hev gv)
  exact ⟨cd, cm, fu, orc, _, h1, ho, h4, hL, hr, by rw [hr]; exact hsub, live, hk, into_ofO hl hn (h2 ▸ ht gv) hbl⟩
theorem ok_cut {y : M.X} {tv : (Nat → Value) → List (Option Value)} {bK : Code × List Kont} (hL : M.isL (M.hd y) = false) (hr : bK = M.code (M.hd y)) (hsub : ∀ j ∈ rids (M.code (M.hd y)).2, j ∈ rids (M.KK (M.hd x))) (hev : ∀ gv, outCut live ((M.L y).map (·.1)) (M.Start x gv P ext cd cm fu orc) = some (bK, tv gv, bl, ob)) (ho : ∀ p ∈ ob, p.1 = p.2) (hl : live.length = (M.H y).length) (hn : live.Nodup) (hk : keeps M.pre.length live = true) (ht : ∀ gv, TempsOK (rho live far) (tv gv) (M.L y)) (hbl : BlocksOK (rho live far) bl (M.H y)) : M.Ok P ext x (some (.inl y)) := by
  intro y' hy gv
  obtain rfl := Option.some.inj hy
  obtain ⟨T, s, h1, h2, rfl, rfl, h4⟩ := outCut_spec (hev gv)
  exact ⟨cd, cm, fu, orc, _, h1, ho, h4, hL, hr, by rw [hr]; exact hsub, live, hk, into_ofO hl hn (h2 ▸ ht gv) hbl⟩
variable {A : Array Value}
noncomputable def startE (M : Mach) (P : Program) (ext : FuncId → Option Ext) (A : Array Value) (cd cm fu : Nat) (orc : Orc) : Option StopC :=
  evToC P ext M.fn M.fn.ntmps cd fu cm (bodyC M.fn) [] (argsT 0 A.toList .nil) ⟨treeL 0 M.pre, M.pre.length, [], orc, []⟩
theorem en_none : M.Enter P ext A none := fun _ h => by cases h
theorem en_ite {c : Prop} [Decidable c] {B C : Option (M.X ⊕ M.R)} (h1 : c → M.Enter P ext A B) (h2 : ¬ c → M.Enter P ext A C) : M.Enter P ext A (if c then B else C) := by
  by_cases h : c
  · rw [if_pos h]; exact h1 h
  · rw [if_neg h]; exact h2 h
theorem en_bind {α : Type} {o : Option α} {k : α → Option (M.X ⊕ M.R)} (h : ∀ r, o = some r → M.Enter P ext A (k r)) : M.Enter P ext A (o.bind k) := by
  cases o with
  | none => exact en_none
  | some r => exact h r rfl
theorem en_fin {r : M.R} {u : Value} (hev : outFinC live (M.startE P ext A cd cm fu orc) = some (u, bl, ob)) (ho : ∀ p ∈ ob, p.1 = p.2) (hl : live.length = (M.Po r).length) (hn : live.Nodup) (hk : keeps M.pre.length live = true) (hv : M.V r = renV (rho live far) 3 u ∧ shallow 3 u = true) (hbl : BlocksOK (rho live far) bl (M.Po r)) : M.Enter P ext A (some (.inr r)) := by
  intro y hy
  obtain rfl := Option.some.inj hy
  obtain ⟨s, h1, rfl, rfl, h4⟩ := outFinC_spec hev
  exact ⟨cd, cm, fu, orc, _, h1, ho, h4, live, hl, hn, hk, hv, blocks_at hbl⟩
theorem en_head {y : M.X} {tv : List (Option Value)} {bK : Code × List Kont} (hL : M.isL (M.hd y) = true) (hr : bK = M.code (M.hd y)) (hsub : rids (M.code (M.hd y)).2 = []) (hev : outHeadC live ((M.L y).map (·.1)) (M.startE P ext A cd cm fu orc) = some (bK, tv, bl, ob)) (ho : ∀ p ∈ ob, p.1 = p.2) (hl : live.length = (M.H y).length) (hn : live.Nodup) (hk : keeps M.pre.length live = true) (ht : TempsOK (rho live far) tv (M.L y)) (hbl : BlocksOK (rho live far) bl (M.H y)) : M.Enter P ext A (some (.inl y)) := by
  intro y' hy
  obtain rfl := Option.some.inj hy
  obtain ⟨T, s, h1, rfl, rfl, rfl, h4⟩ := outHeadC_spec hev
  exact ⟨cd, cm, fu, orc, _, h1, ho, h4, hL, hr, (fun j hj => by rw [show bK.2 = (M.code (M.hd y)).2 from congrArg Prod.snd hr, hsub] at hj; cases hj), live, hk, into_ofO hl hn ht hbl⟩
theorem en_cut {y : M.X} {tv : List (Option Value)} {bK : Code × List Kont} (hL : M.isL (M.hd y) = false) (hr : bK = M.code (M.hd y)) (hsub : rids (M.code (M.hd y)).2 = []) (hev : outCut live ((M.L y).map (·.1)) (M.startE P ext A cd cm fu orc) = some (bK, tv, bl, ob)) (ho : ∀ p ∈ ob, p.1 = p.2) (hl : live.length = (M.H y).length) (hn : live.Nodup) (hk : keeps M.pre.length live = true) (ht : TempsOK (rho live far) tv (M.L y)) (hbl : BlocksOK (rho live far) bl (M.H y)) : M.Enter P ext A (some (.inl y)) := by
  intro y' hy
  obtain rfl := Option.some.inj hy
  obtain ⟨T, s, h1, rfl, rfl, rfl, h4⟩ := outCut_spec hev
  exact ⟨cd, cm, fu, orc, _, h1, ho, h4, hL, hr, (fun j hj => by rw [show bK.2 = (M.code (M.hd y)).2 from congrArg Prod.snd hr, hsub] at hj; cases hj), live, hk, into_ofO hl hn ht hbl⟩
end
end Mach
/-! ### Functions without loops -/
section
variable {P : Program} {ext : FuncId → Option Ext} {fn : Func} {pre : List AObj} {A : Array Value} {R : Type} {V : R → Value} {Po : R → List (Option AObj)} {live : List Nat} {bl : List (Option AObj)} {ob : List (Bool × Bool)} {fu : Nat} {orc : Orc}
noncomputable def startF (P : Program) (ext : FuncId → Option Ext) (fn : Func) (pre : List AObj) (A : Array Value) (fu : Nat) (orc : Orc) : Option Stop :=
  evTo P ext fn fn.ntmps fu (bodyC fn) [] (argsT 0 A.toList .nil) ⟨treeL 0 pre, pre.length, [], orc, []⟩
/-- If there is a result, the function's run comes to it. -/
noncomputable def Fx (P : Program) (ext : FuncId → Option Ext) (fn : Func) (pre : List AObj) (A : Array Value) {R : Type} (V : R → Value) (Po : R → List (Option AObj)) (o : Option R) : Prop :=
  ∀ r, o = some r → ∃ fu orc u s, startF P ext fn pre A fu orc = some (.fin u s) ∧ (∀ p ∈ s.ob, p.1 = p.2) ∧ s.n ≤ far ∧ ∃ live, FinOK pre.length (V r) (Po r) u s live
theorem fx_none : Fx P ext fn pre A V Po none := fun _ h => by cases h
theorem fx_ite {c : Prop} [Decidable c] {B C : Option R} (h1 : c → Fx P ext fn pre A V Po B) (h2 : ¬ c → Fx P ext fn pre A V Po C) : Fx P ext fn pre A V Po (if c then B else C) := by
  by_cases h : c
  · rw [if_pos h]; exact h1 h
  · rw [if_neg h]; exact h2 h
theorem fx_bind {α : Type} {o : Option α} {k : α → Option R} (h : ∀ r, o = some r → Fx P ext fn pre A V Po (k r)) : Fx P ext fn pre A V Po (o.bind k) := by
  cases o with
  | none => exact fx_none
  | some r => exact h r rfl
theorem fx_fin {r : R} {u : Value} (hev : outFin live (startF P ext fn pre A fu orc) = some (u, bl, ob)) (ho : ∀ p ∈ ob, p.1 = p.2) (hl : live.length = (Po r).length) (hn : live.Nodup) (hk : keeps pre.length live = true) (hv : V r = renV (rho live far) 3 u ∧ shallow 3 u = true) (hbl : BlocksOK (rho live far) bl (Po r)) : Fx P ext fn pre A V Po (some r) := by
  intro r' hr
  obtain rfl := Option.some.inj hr
  obtain ⟨s, h1, rfl, rfl, h4⟩ := outFin_spec hev
  exact ⟨fu, orc, u, s, h1, ho, h4, live, hl, hn, hk, hv, blocks_at hbl⟩
theorem fx_spec (F : Fit P ext) {f : FuncId} (hfn : P.funcs[f]? = some fn) (hb : fn.body = some (bodyC fn)) (hA : Nat.ble A.size fn.ntmps = true) (hPo : ∀ r, (Po r).length ≤ far) {o : Option R} (h : Fx P ext fn pre A V Po o) {r : R} (hr : o = some r) : LSpec P f A pre (V r) (Po r) := by
  obtain ⟨fu, orc, u, s, h1, h2, h3, live, h4⟩ := h r hr
  exact lspec_fin F hfn hb hA h1 h2 h3 (hPo r) live h4
end
/-- A call's arguments, written otherwise. -/
theorem cs_args {P : Program} {f : FuncId} {A A' : Array Value} {pre : List (Nat × AObj)} {v : Value} {post : List (Nat × Option AObj)} {n dn : Nat} (e : A = A') (h : CallSpec P f A' pre v post n dn) : CallSpec P f A pre v post n dn := e ▸ h
/-- The string of some bytes. -/
def strOf (ns : List Int) : ByteArray := ns.foldl (fun r n => r.push (UInt8.ofNat n.toNat)) ByteArray.empty
def strB (a b : List Int) : Bool := strOf a == strOf b
theorem strB_self (a : List Int) : strB a a = true := by
  show ((strOf a).data == (strOf a).data) = true
  exact beq_self_eq_true _
end Ev
end Go.Proofs.YtldlnclkdgfahaaGreat
