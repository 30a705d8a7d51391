/- What is known of a function, in blocks' numbers of its own; and what that says at a call. -/
import Derived.Test.YtldlnclkdgfahaaGreatEvX
namespace Go.Proofs.YtldlnclkdgfahaaGreat
open Go.RowKit
namespace Ev
noncomputable section
def treeL : Nat → List AObj → Tr AObj
  | _, [] => .nil
  | i, o :: l => (treeL (i + 1) l).set i (some o)
theorem get_treeL : ∀ (l : List AObj) (i k : Nat), (treeL i l).get k = if i ≤ k then l[k - i]? else none
  | [], i, k => by
    show (Tr.nil : Tr AObj).get k = _
    rw [Tr.get_nil]
    split <;> simp
  | o :: l, i, k => by
    show ((treeL (i + 1) l).set i (some o)).get k = _
    rw [Tr.get_set]
    by_cases hk : k = i
    · subst hk; rw [upd_same, if_pos (Nat.le_refl _)]; simp
    · rw [upd_other hk, get_treeL l (i + 1) k]
      by_cases h : i + 1 ≤ k
      · rw [if_pos h, if_pos (by omega)]
        have : k - i = (k - (i + 1)) + 1 := by omega
        rw [this, List.getElem?_cons_succ]
      · rw [if_neg h, if_neg (by omega)]
end
def lk (l : List AObj) : AH := fun k => l[k]?
def lkO (l : List (Option AObj)) : AH := fun k => (l[k]?).join
theorem treeL_lk (l : List AObj) : (treeL 0 l).get = lk l := funext fun k => by rw [get_treeL]; simp [lk]
section
variable {P : Program} {ext : FuncId → Option Ext}
/-- The function has come to its end: v, and blocks. -/
def Fin (P : Program) (ι : Ren) (pre : List AObj) (w : World) (v : Value) (post : List (Option AObj)) (e : Ending) (w' : World) : Prop :=
  ∃ v' ι', e = .returned v' ∧ Step P ι (lk pre) w ι' (lkO post) w' ∧ (∀ k, ι' k ≠ none → k < post.length ∨ far ≤ k) ∧ VR ι' v v'
def LSpec (P : Program) (f : FuncId) (A : Array Value) (pre : List AObj) (v : Value) (post : List (Option AObj)) : Prop :=
  ∀ ι w args', (∀ k, ι k ≠ none → k < pre.length) → VRs ι A args' → Emb P ι (lk pre) w → Calls P f args' w (Fin P ι pre w v post)
/-- What the run's end must show. -/
def FinOK (n0 : Nat) (v : Value) (post : List (Option AObj)) (u : Value) (s : St) (live : List Nat) : Prop :=
  live.length = post.length ∧ live.Nodup ∧ keeps n0 live = true ∧ (v = renV (rho live far) 3 u ∧ shallow 3 u = true) ∧
    ∀ j o, lkO post j = some o → ∃ k, live[j]? = some k ∧ match o with
      | .ro O m => s.h.get k = some (.ro O m)
      | .cells c t => ∃ c' r, s.h.get k = some (.cells c' t) ∧ c'.map (renV (rho live far) 1) = c ++ r ∧ allB (shallow 1) c' = true
theorem fin_of {ι0 ι : Ren} {pre : List AObj} {w0 w : World} {u v v' : Value} {post : List (Option AObj)} {s : St} {live : List Nat} (hle : post.length ≤ far) (hd : ∀ k, ι0 k ≠ none → k < pre.length) (h : FinOK pre.length v post u s live) (hS : Step P ι0 (lk pre) w0 ι s.h.get w) (hv : VR ι u v') : Fin P ι0 pre w0 v post (.returned v') w := by
  obtain ⟨h1, h2, h3, h4, h5⟩ := h
  have hT : TR ι 1 [] ((Tr.nil : Tr Value).set 0 (some u)) { tmps := #[v'], defers := [] } := ⟨rfl, rfl, fun t => by
    rw [Tr.get_set]
    by_cases ht : t = 0
    · subst ht; rw [upd_same]; exact hv
    · rw [upd_other ht, Tr.get_nil]
      have : (#[v'] : Array Value).getD t undef = undef := by simp [Array.getD, show ¬ t < 1 by omega]
      rw [this]
      exact VR.undef'⟩
  obtain ⟨gv, ι', hT', hS', hfr⟩ := at_next hT hS live post.length far h1 hle h2 (fun k hk => keeps_spec h3 (hd k hk)) (fun _ => some v) (fun t x ht hx => by
    injection hx with hx
    subst hx
    obtain rfl : t = 0 := by omega
    rw [Tr.get_set, upd_same]
    exact h4) (lkO post) h5
  refine ⟨v', ι', rfl, hS', fun k hk => ?_, ?_⟩
  · rcases Nat.lt_or_ge k post.length with h | h
    · exact .inl h
    · rcases Nat.lt_or_ge k far with h' | h'
      · exact absurd (hfr k h h') hk
      · exact .inr h'
  · have := hT'.2.2 0
    rw [tmps_get, if_pos (by omega)] at this
    exact this
/-- From a run. -/
theorem lspec_of (F : Fit P ext) {f : FuncId} {fn : Func} {c : Code} (hfn : P.funcs[f]? = some fn) (hb : fn.body = some c) {A : Array Value} {pre : List AObj} {v : Value} {post : List (Option AObj)} (hA : Nat.ble A.size fn.ntmps = true) {fu : Nat} {orc : Orc} {st : Stop}
    (hev : evTo P ext fn fn.ntmps fu c [] (argsT 0 A.toList .nil) ⟨treeL 0 pre, pre.length, [], orc, []⟩ = some st) (ho : ∀ p ∈ st.s.ob, p.1 = p.2) (hn : st.s.n ≤ far)
    (hto : ∀ ι0 w0, (∀ k, ι0 k ≠ none → k < pre.length) → ∀ ι' a' w', Step P ι0 (lk pre) w0 ι' st.s.h.get w' → StopP P fn (Fin P ι0 pre w0 v post) (fun _ _ _ => False) fn.ntmps ι' a' w' st) : LSpec P f A pre v post := by
  intro ι w args' hd ha he
  refine calls_of_wp hfn hb ?_
  have := (to_sound F (R := Fin P ι pre w v post) (Nx := fun _ _ _ => False) fu).1 c [] _ _ st hev ho ι _ w (args_TR ha (Nat.le_of_ble_eq_true hA)) (by show Emb P ι (treeL 0 pre).get w; rw [treeL_lk]; exact he)
    ⟨hn, fun k h1 _ => by
      cases hk : ι k with
      | none => rfl
      | some b => exact absurd (hd k (by rw [hk]; simp)) (by have : pre.length ≤ k := h1; omega)⟩
    (fun ι' a' w' g1 _ => hto ι w hd ι' a' w' (by have := g1; simp only [treeL_lk] at this; exact this))
  exact this
theorem lspec_fin (F : Fit P ext) {f : FuncId} {fn : Func} {c : Code} (hfn : P.funcs[f]? = some fn) (hb : fn.body = some c) {A : Array Value} {pre : List AObj} {v u : Value} {post : List (Option AObj)} (hA : Nat.ble A.size fn.ntmps = true) {fu : Nat} {orc : Orc} {s : St}
    (hev : evTo P ext fn fn.ntmps fu c [] (argsT 0 A.toList .nil) ⟨treeL 0 pre, pre.length, [], orc, []⟩ = some (.fin u s)) (ho : ∀ p ∈ s.ob, p.1 = p.2) (hn : s.n ≤ far) (hle : post.length ≤ far) (live : List Nat) (h : FinOK pre.length v post u s live) : LSpec P f A pre v post :=
  lspec_of F hfn hb hA hev ho hn fun _ _ hd _ _ _ hS _ hv => fin_of hle hd h hS hv
/-- A loop whose state tells the function's end. -/
def RoundF {X : Type} (nt m n0 i : Nat) (L : X → Nat → Option Value) (H : X → Tr AObj) (μ : X → Nat) (V : X → Value) (Po : X → List (Option AObj)) (x : X) (st : Stop) : Prop :=
  match st with
  | .fin u s => ∃ live, FinOK n0 (V x) (Po x) u s live
  | .next j T s => j = i ∧ ∃ y live, μ y < μ x ∧ V y = V x ∧ Po y = Po x ∧ keeps n0 live = true ∧ Into nt m (L y) (H y) T s live
  | .head _ _ _ _ => False
theorem loop_fun (F : Fit P ext) {fn : Func} {nt m : Nat} (i : Nat) (hm : m ≤ far) {pre : List AObj} {X : Type} (L : X → Nat → Option Value) (H : X → Tr AObj) (μ : X → Nat) (V : X → Value) (Po : X → List (Option AObj)) (hPo : ∀ x, (Po x).length ≤ far) (body : Code) (K : List Kont) (hK : inK i K = false)
    (round : ∀ x gv, ∃ fu orc st, evTo P ext fn nt fu body (.rnd i :: K) (tmps nt (L x) gv) ⟨H x, m, [], orc, []⟩ = some st ∧ (∀ p ∈ st.s.ob, p.1 = p.2) ∧ st.s.n ≤ far ∧ RoundF nt m pre.length i L H μ V Po x st)
    (x : X) {T : Tr Value} {s : St} (live : List Nat) (hi : Into nt m (L x) (H x) T s live) (hk : keeps pre.length live = true) {ι0 : Ren} {w0 : World} (hd : ∀ k, ι0 k ≠ none → k < pre.length) {ι : Ren} {a : Act} {w : World} (hT : TR ι nt [] T a) (hS : Step P ι0 (lk pre) w0 ι s.h.get w) :
    (Code.loop body).wp P (Ev.post P fn (Fin P ι0 pre w0 (V x) (Po x)) (fun _ _ _ => False) K) a w := by
  refine loop_at F i hm hd (X := { y : X // V y = V x ∧ Po y = Po x }) (fun y => L y.1) (fun y => H y.1) (fun y => μ y.1) body K hK (fun y gv => ?_) ⟨x, rfl, rfl⟩ hi hk hT hS
  obtain ⟨fu, orc, st, h1, h2, h3, h4⟩ := round y.1 gv
  refine ⟨fu, orc, st, h1, h2, h3, ?_⟩
  cases st with
  | fin u s =>
    obtain ⟨live, h4⟩ := h4
    intro ι w hS v' hv
    rw [y.2.1, y.2.2] at h4
    exact fin_of (hPo x) hd h4 hS hv
  | next j T s =>
    obtain ⟨rfl, z, live, q1, q2, q3, q4, q5⟩ := h4
    exact .inl ⟨rfl, ⟨z, q2.trans y.2.1, q3.trans y.2.2⟩, live, q1, q4, q5⟩
  | head b K T s => exact h4.elim
/-! ### At a call -/
/-- All blocks' numbers are below m, and it is no deeper than d. -/
def under (m : Nat) : Nat → Value → Bool
  | d + 1, .agg cs => allB (under m d) cs.toList
  | d + 1, .tuple cs => allB (under m d) cs.toList
  | _, .pointer (some ⟨k, _, none⟩) => Nat.blt k m
  | _, .slice (some ⟨k, _, none⟩) _ _ => Nat.blt k m
  | _, .map (some k) => Nat.blt k m
  | _, v => atom v
theorem renV_under {ι ι2 : Ren} {ρ : Nat → Nat} {m : Nat} (hι : ∀ k b, k < m → ι k = some b → ι2 (ρ k) = some b) : ∀ (d : Nat) (v v' : Value), VR ι v v' → under m d v = true → VR ι2 (renV ρ d v) v'
  | d, v, v', h, hd => by
    cases h with
    | atom h => rw [renV_atom d h]; exact .atom h
    | glob h => cases d <;> simp [under, Ev.atom] at hd
    | ptr h => cases d <;> exact .ptr (hι _ _ (Nat.le_of_ble_eq_true hd) h)
    | map h => cases d <;> exact .map (hι _ _ (Nat.le_of_ble_eq_true hd) h)
    | slice h hn hc hq => cases d <;> exact .slice (hι _ _ (Nat.le_of_ble_eq_true hd) h) hn hc hq
    | slice0 h => cases d <;> exact .slice0 h
    | func hs ht h1 h2 =>
      rename_i fn a a' b b'
      have ha : atom (.func fn a b) = true := by cases d <;> exact hd
      have e := VR.eq_of_atom ha (.func hs ht h1 h2)
      rw [e, renV_atom d ha]
      exact .atom ha
    | agg hs h1 =>
      cases d with
      | zero => simp [under, Ev.atom] at hd
      | succ d =>
        simp only [under] at hd
        obtain ⟨q1, q2⟩ := map_rel (f := renV ρ d) hs fun i x y hx hy => renV_under hι d x y (h1 i x y hx hy) (allB_get hd i x hx)
        exact .agg q1 q2
    | tuple hs h1 =>
      cases d with
      | zero => simp [under, Ev.atom] at hd
      | succ d =>
        simp only [under] at hd
        obtain ⟨q1, q2⟩ := map_rel (f := renV ρ d) hs fun i x y hx hy => renV_under hι d x y (h1 i x y hx hy) (allB_get hd i x hx)
        exact .tuple q1 q2
theorem map_back {ι ι2 : Ren} {f : Value → Value} {a a' : Array Value} (h : VRs ι (amap f a) a') (g : ∀ (i : Nat) x y, a[i]? = some x → VR ι (f x) y → VR ι2 x y) : VRs ι2 a a' := by
  rw [amap_eq] at h
  refine ⟨by simpa using h.1, fun i x y hx hy => g i x y hx (h.2 i _ y (by rw [Array.getElem?_map, hx]; rfl) hy)⟩
theorem VR.agg_of {ι : Ren} {a : Array Value} {v' : Value} (h : VR ι (.agg a) v') : ∃ a', v' = .agg a' ∧ VRs ι a a' := by
  cases h with
  | atom h => simp [Ev.atom] at h
  | agg hs h1 => exact ⟨_, rfl, hs, h1⟩
theorem VR.tuple_of {ι : Ren} {a : Array Value} {v' : Value} (h : VR ι (.tuple a) v') : ∃ a', v' = .tuple a' ∧ VRs ι a a' := by
  cases h with
  | atom h => simp [Ev.atom] at h
  | tuple hs h1 => exact ⟨_, rfl, hs, h1⟩
/-- Back from the new numbers. -/
theorem unren {ι ι2 : Ren} {ρ : Nat → Nat} {m : Nat} (hι : ∀ k b, k < m → ι (ρ k) = some b → ι2 k = some b) : ∀ (d : Nat) (v v' : Value), VR ι (renV ρ d v) v' → under m d v = true → VR ι2 v v'
  | d, v, v', h, hd => by
    have at_ : atom v = true → VR ι2 v v' := fun ha => by
      rw [renV_atom d ha] at h
      rw [h.eq_of_atom ha]
      exact .atom ha
    cases v with
    | pointer a =>
      cases a with
      | none => exact at_ rfl
      | some a =>
        obtain ⟨k, o, sp⟩ := a
        cases sp with
        | some sp => cases d <;> simp [under, Ev.atom] at hd
        | none =>
          have hk : k < m := by cases d <;> exact Nat.le_of_ble_eq_true hd
          have h' : VR ι (.pointer (some ⟨ρ k, o, none⟩)) v' := by cases d <;> exact h
          cases h' with
          | atom q => simp [Ev.atom] at q
          | ptr q => exact .ptr (hι k _ hk q)
    | slice a n c =>
      cases a with
      | none =>
        have ha : atom (.slice none n c) = true := by cases d <;> exact hd
        exact at_ ha
      | some a =>
        obtain ⟨k, o, sp⟩ := a
        cases sp with
        | some sp => cases d <;> simp [under, Ev.atom] at hd
        | none =>
          have hk : k < m := by cases d <;> exact Nat.le_of_ble_eq_true hd
          have h' : VR ι (.slice (some ⟨ρ k, o, none⟩) n c) v' := by cases d <;> exact h
          cases h' with
          | atom q => simp [Ev.atom] at q
          | slice q hn hc hq => exact .slice (hι k _ hk q) hn hc hq
          | slice0 h0 => exact .slice0 h0
    | map a =>
      cases a with
      | none =>
        have ha : atom (.map none) = true := rfl
        exact at_ ha
      | some k =>
        have hk : k < m := by cases d <;> exact Nat.le_of_ble_eq_true hd
        have h' : VR ι (.map (some (ρ k))) v' := by cases d <;> exact h
        cases h' with
        | atom q => simp [Ev.atom] at q
        | map q => exact .map (hι k _ hk q)
    | agg cs =>
      cases d with
      | zero => simp [under, Ev.atom] at hd
      | succ d =>
        simp only [under] at hd
        obtain ⟨a', rfl, ha⟩ := VR.agg_of (a := amap (renV ρ d) cs) h
        have := map_back ha fun i x y hx hv => unren hι d x y hv (allB_get hd i x hx)
        exact .agg this.1 this.2
    | tuple cs =>
      cases d with
      | zero => simp [under, Ev.atom] at hd
      | succ d =>
        simp only [under] at hd
        obtain ⟨a', rfl, ha⟩ := VR.tuple_of (a := amap (renV ρ d) cs) h
        have := map_back ha fun i x y hx hv => unren hι d x y hv (allB_get hd i x hx)
        exact .tuple this.1 this.2
    | _ => exact at_ (by cases d <;> exact hd)
/-- The numbers at a call: those of the blocks handed over, then new ones. -/
def kap (κ : List Nat) (n j : Nat) : Nat := match κ[j]? with | some k => k | none => n + (j - κ.length)
theorem kap_lt {κ : List Nat} {n j : Nat} (h : j < κ.length) : κ[j]? = some (kap κ n j) := by
  unfold kap
  rw [List.getElem?_eq_getElem h]
theorem kap_ge {κ : List Nat} {n j : Nat} (h : κ.length ≤ j) : kap κ n j = n + (j - κ.length) := by
  unfold kap
  rw [List.getElem?_eq_none h]
def renO (ρ : Nat → Nat) : AObj → AObj
  | .cells c t => .cells (c.map (renV ρ 1)) t
  | .ro O m => .ro O m
def underO (m : Nat) : AObj → Bool
  | .cells c _ => allB (under m 1) c
  | .ro _ _ => true
theorem isC_ren {ρ : Nat → Nat} {o : AObj} : isC (some (renO ρ o)) = isC (some o) := by cases o <;> rfl
/-- What is known of a function, at a call. -/
theorem LSpec.call {f : FuncId} {A : Array Value} {pre : List AObj} {v : Value} {post : List (Option AObj)} (h : LSpec P f A pre v post) (κ : List Nat) (n : Nat) (hκ : κ.length = pre.length) (hnd : κ.Nodup) (hlt : ∀ k ∈ κ, k < n) (hle : pre.length ≤ post.length)
    (hA : allB (under pre.length 3) A.toList = true) (hpre : ∀ o ∈ pre, underO pre.length o = true) (hv : under post.length 3 v = true) (hpost : ∀ o, some o ∈ post → underO post.length o = true)
    {A' : Array Value} {pre' : List (Nat × AObj)} {v' : Value} {post' : List (Nat × Option AObj)} {dn : Nat} (eA : A' = amap (renV (kap κ n) 3) A) (ev : v' = renV (kap κ n) 3 v) (edn : pre.length + dn = post.length)
    (e1 : ∀ j o, pre[j]? = some o → look (kap κ n j) pre' = some (renO (kap κ n) o)) (e2 : ∀ k o, look k pre' = some o → ∃ j, j < pre.length ∧ k = kap κ n j)
    (e3 : ∀ j, j < post.length → behind pre' post' (kap κ n j) = (lkO post j).map (renO (kap κ n))) (e4 : ∀ k o, behind pre' post' k = some o → ∃ j, j < post.length ∧ k = kap κ n j) : CallSpec P f A' pre' v' post' n dn := by
  intro ι w args' ha he hf
  subst eA ev
  have kl : ∀ j, j < pre.length → kap κ n j ∈ κ := fun j hj => List.mem_of_getElem? (kap_lt (n := n) (by omega : j < κ.length))
  have kn : ∀ j, j < pre.length → kap κ n j < n := fun j hj => hlt _ (kl j hj)
  have kg : ∀ j, pre.length ≤ j → kap κ n j = n + (j - pre.length) := fun j hj => by rw [← hκ]; exact kap_ge (by omega)
  have kinj : ∀ i j, kap κ n i = kap κ n j → i = j := fun i j hij => by
    rcases Nat.lt_or_ge i pre.length with h1 | h1 <;> rcases Nat.lt_or_ge j pre.length with h2 | h2
    · have a := kap_lt (n := n) (by omega : i < κ.length)
      have b := kap_lt (n := n) (by omega : j < κ.length)
      rw [hij, ← b] at a
      exact (List.getElem?_inj (by omega) hnd).1 a
    · have := kn i h1; rw [hij, kg j h2] at this; omega
    · have := kn j h2; rw [← hij, kg i h1] at this; omega
    · rw [kg i h1, kg j h2] at hij; omega
  let ιl : Ren := fun j => if j < pre.length then ι (kap κ n j) else none
  have hιl : ∀ j, j < pre.length → ιl j = ι (kap κ n j) := fun j hj => by simp [ιl, hj]
  have hl : ∀ k b, k < pre.length → ι (kap κ n k) = some b → ιl k = some b := fun k b hk hb => by rw [hιl k hk]; exact hb
  have hargs : VRs ιl A args' := map_back ha fun i x y hx hv => unren hl 3 x y hv (allB_get hA i x hx)
  have cr : ∀ {c : List Value} {C : Array Value}, allB (under pre.length 1) c = true → CR ι (c.map (renV (kap κ n) 1)) C → CR ιl c C := fun {c C} hu hc => ⟨by simpa using hc.1, fun i x y hx hy => unren hl 1 x y (hc.2 i _ y (by rw [List.getElem?_map, hx]; rfl) hy) (allB_mem hu x (List.mem_of_getElem? hx))⟩
  have hemb : Emb P ιl (lk pre) w := by
    refine ⟨fun j c t hj => ?_, fun j O hj => ?_, fun j j' b b' h1 h2 h3 h4 h5 => ?_, fun j b hj => ?_⟩
    · have hlt' : j < pre.length := (List.getElem?_eq_some_iff.1 hj).1
      obtain ⟨b, C, q1, q2, q3, q4⟩ := he.obj _ _ t (e1 j _ hj)
      exact ⟨b, C, by rw [hιl j hlt']; exact q1, q2, cr (hpre _ (List.mem_of_getElem? hj)) q3, q4⟩
    · have hlt' : j < pre.length := (List.getElem?_eq_some_iff.1 hj).1
      obtain ⟨b, q1, q2⟩ := he.ro _ _ (e1 j _ hj)
      exact ⟨b, by rw [hιl j hlt']; exact q1, q2⟩
    · obtain ⟨o, ho⟩ := Option.isSome_iff_exists.1 (isC_some h1)
      obtain ⟨o', ho'⟩ := Option.isSome_iff_exists.1 h2
      have l1 : j < pre.length := (List.getElem?_eq_some_iff.1 ho).1
      have l2 : j' < pre.length := (List.getElem?_eq_some_iff.1 ho').1
      rw [hιl j l1] at h3
      rw [hιl j' l2] at h4
      have c1 : isC (look (kap κ n j) pre') = true := by rw [e1 j o ho, isC_ren, ← ho]; exact h1
      exact kinj j j' (he.inj _ _ b b' c1 (by rw [e1 j' o' ho']; rfl) h3 h4 h5)
    · by_cases hj' : j < pre.length
      · rw [hιl j hj'] at hj; exact he.lt _ b hj
      · simp [ιl, hj'] at hj
  refine (h ιl w args' (fun k hk => by by_cases h : k < pre.length; exact h; simp [ιl, h] at hk) hargs hemb).mono ?_
  rintro e w' ⟨v', ι2, rfl, hS, hdom, hvr⟩
  have live : ∀ j, j < pre.length → ∃ b, ιl j = some b := fun j hj => hemb.live (k := j) (by simp [lk, hj])
  let ι' : Ren := fun k => match ι k with | some b => some b | none => if n ≤ k ∧ k < n + dn then ι2 (k - n + pre.length) else none
  have hold : ∀ k b, ι k = some b → ι' k = some b := fun k b hk => by simp [ι', hk]
  have hnew : ∀ k b, k < post.length → ι2 k = some b → ι' (kap κ n k) = some b := fun k b hk hb => by
    rcases Nat.lt_or_ge k pre.length with h1 | h1
    · obtain ⟨c, hc⟩ := live k h1
      have := hS.ext k c hc
      rw [hb] at this
      injection this with this
      subst this
      rw [hιl k h1] at hc
      exact hold _ _ hc
    · have e := kg k h1
      have hn : ι (kap κ n k) = none := hf.2 _ (by omega) (by omega)
      have : ι' (kap κ n k) = ι2 (kap κ n k - n + pre.length) := by simp only [ι', hn]; rw [if_pos ⟨by omega, by omega⟩]
      rw [this, e, show n + (k - pre.length) - n + pre.length = k by omega]
      exact hb
  have hback : ∀ k b, k < post.length → ι' (kap κ n k) = some b → ι2 k = some b := fun k b hk hb => by
    rcases Nat.lt_or_ge k pre.length with h1 | h1
    · obtain ⟨c, hc⟩ := live k h1
      have q := hS.ext k c hc
      rw [hιl k h1] at hc
      rw [hold _ _ hc] at hb
      rw [q]; exact hb
    · have e := kg k h1
      have hn : ι (kap κ n k) = none := hf.2 _ (by omega) (by omega)
      have : ι' (kap κ n k) = ι2 (kap κ n k - n + pre.length) := by simp only [ι', hn]; rw [if_pos ⟨by omega, by omega⟩]
      rw [this, e, show n + (k - pre.length) - n + pre.length = k by omega] at hb
      exact hb
  have inv : ∀ k o, behind pre' post' k = some o → ∃ j o0, j < post.length ∧ k = kap κ n j ∧ lkO post j = some o0 ∧ o = renO (kap κ n) o0 := fun k o hk => by
    obtain ⟨j, hj, rfl⟩ := e4 k o hk
    rw [e3 j hj] at hk
    cases hp : lkO post j with
    | none => rw [hp] at hk; cases hk
    | some o0 => rw [hp] at hk; injection hk with hk; exact ⟨j, o0, hj, rfl, hp, hk.symm⟩
  have mem : ∀ {j o}, lkO post j = some o → some o ∈ post := fun {j o} hj => by
    unfold lkO at hj
    cases hp : post[j]? with
    | none => rw [hp] at hj; cases hj
    | some x => rw [hp] at hj; exact (show x = some o from hj) ▸ List.mem_of_getElem? hp
  refine ⟨v', ι', rfl, ⟨hold, ⟨fun k c t hk => ?_, fun k O hk => ?_, fun k k' b b' h1 h2 h3 h4 h5 => ?_, fun k b hk => ?_⟩, hS.os, hS.tape, hS.output, hS.size, fun b hb hno => hS.frame b hb fun j c hj hc => ?_, fun k b h1 h2 => ?_, fun k h1 h2 => ?_, fun k h1 h2 => ?_⟩, fun k hk => ?_, renV_under hnew 3 v v' hvr hv⟩
  · obtain ⟨j, o0, hj, rfl, hp, ho⟩ := inv k _ hk
    cases o0 with
    | ro O => cases ho
    | cells c0 t0 =>
      injection ho with q1 q2
      subst q1 q2
      obtain ⟨b, C, q1, q2, q3, q4⟩ := hS.emb.obj j c0 _ hp
      have hu : allB (under post.length 1) c0 = true := hpost _ (mem hp)
      refine ⟨b, C, hnew j b hj q1, q2, ⟨by simpa using q3.1, fun i x y hx hy => ?_⟩, q4⟩
      rw [List.getElem?_map] at hx
      cases hz : c0[i]? with
      | none => rw [hz] at hx; cases hx
      | some z =>
        rw [hz] at hx
        injection hx with hx
        subst hx
        exact renV_under hnew 1 z y (q3.2 i z y hz hy) (allB_mem hu z (List.mem_of_getElem? hz))
  · obtain ⟨j, o0, hj, rfl, hp, ho⟩ := inv k _ hk
    cases o0 with
    | cells c0 t0 => cases ho
    | ro O' m1 =>
      injection ho with q1 q2
      subst q1 q2
      obtain ⟨b, q1, q2⟩ := hS.emb.ro j _ hp
      exact ⟨b, hnew j b hj q1, q2⟩
  · obtain ⟨o, ho⟩ := Option.isSome_iff_exists.1 (isC_some h1)
    obtain ⟨o', ho'⟩ := Option.isSome_iff_exists.1 h2
    obtain ⟨j, o0, hj, rfl, hp, rfl⟩ := inv k _ ho
    obtain ⟨j', o0', hj', rfl, hp', rfl⟩ := inv k' _ ho'
    rw [ho, isC_ren] at h1
    rw [hS.emb.inj j j' b b' (by rw [hp]; exact h1) (by rw [hp']; rfl) (hback j b hj h3) (hback j' b' hj' h4) h5]
  · cases hi : ι k with
    | some c =>
      have := hold k c hi
      rw [hk] at this; injection this with this; subst this
      exact Nat.lt_of_lt_of_le (he.lt k b hi) hS.size
    | none =>
      simp only [ι', hi] at hk
      split at hk
      · exact hS.emb.lt _ b hk
      · cases hk
  · obtain ⟨o, ho⟩ := Option.isSome_iff_exists.1 (isC_some hj)
    have l1 : j < pre.length := (List.getElem?_eq_some_iff.1 ho).1
    rw [hιl j l1] at hc
    exact hno (kap κ n j) c (by rw [e1 j o ho, isC_ren, ← ho]; exact hj) hc
  · simp only [ι', h1] at h2
    split at h2
    · rename_i hr
      have hnone : ιl (k - n + pre.length) = none := by simp only [ιl]; rw [if_neg (by omega)]
      rcases hS.new _ b hnone h2 with h | ⟨j, c, hj, hc, he2⟩
      · exact .inl h
      · obtain ⟨o, ho⟩ := Option.isSome_iff_exists.1 (isC_some hj)
        have l1 : j < pre.length := (List.getElem?_eq_some_iff.1 ho).1
        rw [hιl j l1] at hc
        exact .inr ⟨kap κ n j, c, by rw [e1 j o ho, isC_ren, ← ho]; exact hj, hc, he2⟩
    · cases h2
  · obtain ⟨o, ho⟩ := Option.isSome_iff_exists.1 h1
    obtain ⟨j, o0, hj, rfl, hp, rfl⟩ := inv k _ ho
    rcases Nat.lt_or_ge j pre.length with l1 | l1
    · have : (lk pre j).isSome := by simp [lk, l1]
      obtain ⟨o1, ho1⟩ := Option.isSome_iff_exists.1 this
      rw [e1 j o1 ho1]; rfl
    · exact absurd (hf.2 _ (by rw [kg j l1]; omega) (by rw [kg j l1]; omega)) h2
  · obtain ⟨o, ho⟩ := Option.isSome_iff_exists.1 (isC_some h1)
    obtain ⟨j, o0, hj, rfl, hp, rfl⟩ := inv k _ ho
    rcases Nat.lt_or_ge j pre.length with l1 | l1
    · obtain ⟨c, hc⟩ := live j l1
      rw [ho, isC_ren] at h1
      have q := hS.kind j (by rw [hp]; exact h1) (by rw [hc]; simp)
      obtain ⟨o1, ho1⟩ := Option.isSome_iff_exists.1 (isC_some q)
      rw [e1 j o1 ho1, isC_ren, ← ho1]
      exact q
    · exact absurd (hf.2 _ (by rw [kg j l1]; omega) (by rw [kg j l1]; omega)) h2
  · cases hi : ι k with
    | some c => exact .inl (by simp)
    | none =>
      simp only [ι', hi] at hk
      split at hk
      · rename_i hr; exact .inr (.inl hr)
      · exact absurd rfl hk
end
end Ev
end Go.Proofs.YtldlnclkdgfahaaGreat
