/- Part 4. -/
import Derived.Test.YthfohmhipifiaaaGreatZac
import Derived.Test.YthfohmhipifiaaaGreatRows
import Derived.WalkKit
import Derived.WalkLawsBesides
import Derived.WalkSpells
import Derived.ProofKit
import Derived.OpenShut
import Derived.Outline
import Derived.BigQuiet
import Derived.BigGuardPart
import Derived.Lib.Hide
import Derived.Lib.SmallJoins
import Derived.SizedLaws
import Derived.Deep.Slices
import Derived.Deep.Fields
import Derived.Carry
import Derived.RangeFuncLeaves
import Derived.OrdersIn
import Derived.LoopNIn
import Derived.TacticsIn
import Derived.RangeFuncRecord
import Derived.Laws.Externs
set_option linter.unusedSimpArgs false
set_option linter.unusedVariables false
/- What is known of a function, in blocks' numbers of its own; and what that says at a call. -/
namespace Go.Proofs.YthfohmhipifiaaaGreat
open Go.RowKit
namespace Ev
noncomputable section
def Zh4 : Nat → List AObj → Tr AObj
 | _, [] => .nil
 | i, o :: l => (Zh4 (i + 1) l).set i (some o)
theorem Zvz : ∀ (l : List AObj) (i k : Nat), (Zh4 i l).get k = if i ≤ k then l[k - i]? else none
 | [], i, k => by
  show (Tr.nil : Tr AObj).get k = _
  rw [Tr.get_nil]
  split <;> simp
 | o :: l, i, k => by
  show ((Zh4 (i + 1) l).set i (some o)).get k = _
  rw [Tr.get_set]
  by_cases hk : k = i
  ·subst hk; rw [Zo, if_pos (Nat.le_refl _)]; simp
  ·rw [Zh hk, Zvz l (i + 1) k]
   by_cases h : i + 1 ≤ k
   ·rw [if_pos h, if_pos (by omega)]
    have : k - i = (k - (i + 1)) + 1 := by omega
    rw [this, List.getElem?_cons_succ]
   ·rw [if_neg h, if_neg (by omega)]
end
def lk (l : List AObj) : AH := fun k => l[k]?
def lkO (l : List (Option AObj)) : AH := fun k => (l[k]?).join
theorem Zn0 (l : List AObj) : (Zh4 0 l).get = lk l := funext fun k => by rw [Zvz]; simp [lk]
section
variable {P : Program} {ext : FuncId → Option Ext}
def Fin (P : Program) (ι : Ren) (pre : List AObj) (w : World) (v : Value) (post : List (Option AObj)) (e : Ending) (w' : World) : Prop :=
 (∃ v' ι', e = .returned v' ∧ Step P ι (lk pre) w ι' (lkO post) w' ∧ (∀ k, ι' k ≠ none → k < post.length ∨ far ≤ k) ∧ VR ι' v v') ∨ (Zc9 v = true ∧ ∃ ι', e = .panicked (ZgY v) ∧ Step P ι (lk pre) w ι' (lkO post) w' ∧ (∀ k, ι' k ≠ none → k < post.length ∨ far ≤ k))
def LSpec (P : Program) (f : FuncId) (A : Array Value) (pre : List AObj) (v : Value) (post : List (Option AObj)) : Prop :=
 ∀ ι w args', (∀ k, ι k ≠ none → k < pre.length ∨ ZcP k) → VRs ι A args' → Emb P ι (lk pre) w → Calls P f args' w (Fin P ι pre w v post)
def ZwC (n0 : Nat) (v : Value) (post : List (Option AObj)) (u : Value) (s : St) (live : List Nat) : Prop :=
 live.length = post.length ∧ live.Nodup ∧ ZcU n0 live = true ∧ (v = Za4 (rho live far) 3 u ∧ Zap 3 u = true) ∧
  ∀ j o, lkO post j = some o → ∃ k, live[j]? = some k ∧ match o with
   | .ro O m => s.h.get k = some (.ro O m)
   | .cells c t q => ∃ c' r, s.h.get k = some (.cells c' t q) ∧ c'.map (Za4 (rho live far) 1) = c ++ r ∧ (q = true → r = []) ∧ Z5 (Zap 1) c' = true
theorem Zxy {ι0 ι : Ren} {pre : List AObj} {w0 w : World} {u v v' : Value} {post : List (Option AObj)} {s : St} {live : List Nat} (hle : post.length ≤ far) (hd : ∀ k, ι0 k ≠ none → k < pre.length ∨ ZcP k) (h : ZwC pre.length v post u s live) (hS : Step P ι0 (lk pre) w0 ι s.h.get w) (hv : VR ι u v') : Fin P ι0 pre w0 v post (.returned v') w := by
 obtain ⟨h1, h2, h3, h4, h5⟩ := h
 have hT : TR ι 1 [] ((Tr.nil : Tr Value).set 0 (some u)) { tmps := #[v'], defers := [] } := ⟨rfl, rfl, fun t => by
  rw [Tr.get_set]
  by_cases ht : t = 0
  ·subst ht; rw [Zo]; exact hv
  ·rw [Zh ht, Tr.get_nil]
   have : (#[v'] : Array Value).getD t undef = undef := by simp [Array.getD, show ¬ t < 1 by omega]
   rw [this]
   exact VR.undef'⟩
 obtain ⟨gv, ι', hT', hS', hfr⟩ := Z2Q hT hS live post.length far rfl (ZrQ h3) h1 hle h2 (fun k hk => (hd k hk).imp (Ztd h3) id) (fun _ => some v) (fun t x ht hx => by
  injection hx with hx
  subst hx
  obtain rfl : t = 0 := by omega
  rw [Tr.get_set, Zo]
  exact h4) (lkO post) h5
 refine .inl ⟨v', ι', rfl, hS', fun k hk => ?_, ?_⟩
 ·rcases Nat.lt_or_ge k post.length with h | h
  ·exact .inl h
  ·rcases Nat.lt_or_ge k far with h' | h'
   ·exact absurd (hfr k h h') hk
   ·exact .inr h'
 ·have := hT'.2.2 0
  rw [Zxu, if_pos (by omega)] at this
  exact this
theorem Z2j (F : Fit P ext) {f : FuncId} {fn : Func} {c : Code} (hfn : P.funcs[f]? = some fn) (hb : fn.body = some c) {A : Array Value} {pre : List AObj} {v : Value} {post : List (Option AObj)} (hA : Nat.ble A.size fn.ntmps = true) {fu : Nat} {orc : Orc} {st : Stop}
  (hev : ZhD P ext fn fn.ntmps fu c [] (ZgX 0 A.toList .nil) ⟨Zh4 0 pre, pre.length, [], orc, []⟩ = some st) (ho : ∀ p ∈ st.s.ob, p.1 = p.2) (hn : st.s.n ≤ far)
  (hto : ∀ ι0 w0, (∀ k, ι0 k ≠ none → k < pre.length ∨ ZcP k) → ∀ ι' a' w', Step P ι0 (lk pre) w0 ι' st.s.h.get w' → ZwB P fn (Fin P ι0 pre w0 v post) (fun _ _ _ => False) fn.ntmps ι' a' w' st) : LSpec P f A pre v post := by
 intro ι w args' hd ha he
 refine calls_of_wp hfn hb ?_
 have := (Z2i F (R := Fin P ι pre w v post) (Nx := fun _ _ _ => False) fu).1 c [] _ _ st hev ho ι _ w (Zq6 ha (Nat.le_of_ble_eq_true hA)) (by show Emb P ι (Zh4 0 pre).get w; rw [Zn0]; exact he)
  ⟨hn, fun k h1 h2 => by
   cases hk : ι k with
   | none => rfl
   | some b => exact absurd (hd k (by rw [hk]; simp)) (by have h3 : pre.length ≤ k := h1; have h4 : st.s.n ≤ 1000000000 := hn; have h5 : k < st.s.n := h2; unfold ZcP; omega)⟩
  (fun ι' a' w' g1 _ => hto ι w hd ι' a' w' (by have := g1; simp only [Zn0] at this; exact this))
 exact this
theorem Z1v (F : Fit P ext) {f : FuncId} {fn : Func} {c : Code} (hfn : P.funcs[f]? = some fn) (hb : fn.body = some c) {A : Array Value} {pre : List AObj} {v u : Value} {post : List (Option AObj)} (hA : Nat.ble A.size fn.ntmps = true) {fu : Nat} {orc : Orc} {s : St}
  (hev : ZhD P ext fn fn.ntmps fu c [] (ZgX 0 A.toList .nil) ⟨Zh4 0 pre, pre.length, [], orc, []⟩ = some (.fin u s)) (ho : ∀ p ∈ s.ob, p.1 = p.2) (hn : s.n ≤ far) (hle : post.length ≤ far) (live : List Nat) (h : ZwC pre.length v post u s live) : LSpec P f A pre v post :=
 Z2j F hfn hb hA hev ho hn fun _ _ hd _ _ _ hS _ hv => Zxy hle hd h hS hv
/-! ### At a call -/
def Zbd (m : Nat) : Nat → Value → Bool
 | d + 1, .agg cs => Z5 (Zbd m d) cs.toList
 | d + 1, .tuple cs => Z5 (Zbd m d) cs.toList
 | _, .pointer (some ⟨k, _, none⟩) => Nat.blt k m
 | _, .slice (some ⟨k, _, none⟩) _ _ => Nat.blt k m
 | _, .pointer (some ⟨_, _, some _⟩) => true
 | _, .slice (some ⟨_, _, some _⟩) _ _ => true
 | _, .map (some k) => Nat.blt k m
 | _, v => atom v
theorem Zkm {ι ι2 : Ren} {ρ : Nat → Nat} {m : Nat} (hι : ∀ k b, k < m → ι k = some b → ι2 (ρ k) = some b) (hmk : ∀ b base id q, ι (Zai b base id) = some q → ι2 (Zai b base id) = some q) : ∀ (d : Nat) (v v' : Value), VR ι v v' → Zbd m d v = true → VR ι2 (Za4 ρ d v) v'
 | d, v, v', h, hd => by
  cases h with
  | atom h => rw [Zjz d h]; exact .atom h
  | glob h => cases d <;> simp [Zbd, Ev.atom] at hd
  | ptr h => cases d <;> exact .ptr (hι _ _ (Nat.le_of_ble_eq_true hd) h)
  | map h => cases d <;> exact .map (hι _ _ (Nat.le_of_ble_eq_true hd) h)
  | slice h hn hc hq => cases d <;> exact .slice (hι _ _ (Nat.le_of_ble_eq_true hd) h) hn hc hq
  | slice0 h =>
   rename_i A _
   obtain ⟨k, o, sp⟩ := A
   cases sp <;> cases d <;> exact .slice0 h
  | mptr h => cases d <;> exact .mptr (hmk _ _ _ _ h)
  | mslice h hn hc => cases d <;> exact .mslice (hmk _ _ _ _ h) hn hc
  | func hs ht h1 h2 =>
   rename_i fn a a' b b'
   have ha : atom (.func fn a b) = true := by cases d <;> exact hd
   have e := VR.eq_of_atom ha (.func hs ht h1 h2)
   rw [e, Zjz d ha]
   exact .atom ha
  | agg hs h1 =>
   cases d with
   | zero => simp [Zbd, Ev.atom] at hd
   | succ d =>
    simp only [Zbd] at hd
    obtain ⟨q1, q2⟩ := Zkw (f := Za4 ρ d) hs fun i x y hx hy => Zkm hι hmk d x y (h1 i x y hx hy) (ZbH hd i x hx)
    exact .agg q1 q2
  | tuple hs h1 =>
   cases d with
   | zero => simp [Zbd, Ev.atom] at hd
   | succ d =>
    simp only [Zbd] at hd
    obtain ⟨q1, q2⟩ := Zkw (f := Za4 ρ d) hs fun i x y hx hy => Zkm hι hmk d x y (h1 i x y hx hy) (ZbH hd i x hx)
    exact .tuple q1 q2
theorem ZrR {ι ι2 : Ren} {f : Value → Value} {a a' : Array Value} (h : VRs ι (Zhn f a) a') (g : ∀ (i : Nat) x y, a[i]? = some x → VR ι (f x) y → VR ι2 x y) : VRs ι2 a a' := by
 rw [ZzL] at h
 refine ⟨by simpa using h.1, fun i x y hx hy => g i x y hx (h.2 i _ y (by rw [Array.getElem?_map, hx]; rfl) hy)⟩
theorem VR.agg_of {ι : Ren} {a : Array Value} {v' : Value} (h : VR ι (.agg a) v') : ∃ a', v' = .agg a' ∧ VRs ι a a' := by
 cases h with
 | atom h => simp [Ev.atom] at h
 | agg hs h1 => exact ⟨_, rfl, hs, h1⟩
theorem VR.tuple_of {ι : Ren} {a : Array Value} {v' : Value} (h : VR ι (.tuple a) v') : ∃ a', v' = .tuple a' ∧ VRs ι a a' := by
 cases h with
 | atom h => simp [Ev.atom] at h
 | tuple hs h1 => exact ⟨_, rfl, hs, h1⟩
theorem ZwD {ι ι2 : Ren} {ρ : Nat → Nat} {m : Nat} (hι : ∀ k b, k < m → ι (ρ k) = some b → ι2 k = some b) (hmk : ∀ b base id q, ι (Zai b base id) = some q → ι2 (Zai b base id) = some q) : ∀ (d : Nat) (v v' : Value), VR ι (Za4 ρ d v) v' → Zbd m d v = true → VR ι2 v v'
 | d, v, v', h, hd => by
  have at_ : atom v = true → VR ι2 v v' := fun ha => by
   rw [Zjz d ha] at h
   rw [h.eq_of_atom ha]
   exact .atom ha
  cases v with
  | pointer a =>
   cases a with
   | none => exact at_ rfl
   | some a =>
    obtain ⟨k, o, sp⟩ := a
    cases sp with
    | some sp =>
     have h' : VR ι (.pointer (some ⟨k, o, some sp⟩)) v' := by cases d <;> exact h
     cases h' with
     | atom q => simp [Ev.atom] at q
     | mptr q => exact .mptr (hmk _ _ _ _ q)
    | none =>
     have hk : k < m := by cases d <;> exact Nat.le_of_ble_eq_true hd
     have h' : VR ι (.pointer (some ⟨ρ k, o, none⟩)) v' := by cases d <;> exact h
     cases h' with
     | atom q => simp [Ev.atom] at q
     | ptr q => exact .ptr (hι k _ hk q)
  | slice a n c =>
   cases a with
   | none =>
    have ha : atom (.slice none n c) = true := by cases d <;> exact hd
    exact at_ ha
   | some a =>
    obtain ⟨k, o, sp⟩ := a
    cases sp with
    | some sp =>
     have h' : VR ι (.slice (some ⟨k, o, some sp⟩) n c) v' := by cases d <;> exact h
     cases h' with
     | atom q => simp [Ev.atom] at q
     | mslice q hn hc => exact .mslice (hmk _ _ _ _ q) hn hc
     | slice0 h0 => exact .slice0 h0
    | none =>
     have hk : k < m := by cases d <;> exact Nat.le_of_ble_eq_true hd
     have h' : VR ι (.slice (some ⟨ρ k, o, none⟩) n c) v' := by cases d <;> exact h
     cases h' with
     | atom q => simp [Ev.atom] at q
     | slice q hn hc hq => exact .slice (hι k _ hk q) hn hc hq
     | slice0 h0 => exact .slice0 h0
  | map a =>
   cases a with
   | none =>
    have ha : atom (.map none) = true := rfl
    exact at_ ha
   | some k =>
    have hk : k < m := by cases d <;> exact Nat.le_of_ble_eq_true hd
    have h' : VR ι (.map (some (ρ k))) v' := by cases d <;> exact h
    cases h' with
    | atom q => simp [Ev.atom] at q
    | map q => exact .map (hι k _ hk q)
  | agg cs =>
   cases d with
   | zero => simp [Zbd, Ev.atom] at hd
   | succ d =>
    simp only [Zbd] at hd
    obtain ⟨a', rfl, ha⟩ := VR.agg_of (a := Zhn (Za4 ρ d) cs) h
    have := ZrR ha fun i x y hx hv => ZwD hι hmk d x y hv (ZbH hd i x hx)
    exact .agg this.1 this.2
  | tuple cs =>
   cases d with
   | zero => simp [Zbd, Ev.atom] at hd
   | succ d =>
    simp only [Zbd] at hd
    obtain ⟨a', rfl, ha⟩ := VR.tuple_of (a := Zhn (Za4 ρ d) cs) h
    have := ZrR ha fun i x y hx hv => ZwD hι hmk d x y hv (ZbH hd i x hx)
    exact .tuple this.1 this.2
  | _ => exact at_ (by cases d <;> exact hd)
def kap (κ : List Nat) (n j : Nat) : Nat := match κ[j]? with | some k => k | none => n + (j - κ.length)
theorem Ztf {κ : List Nat} {n j : Nat} (h : j < κ.length) : κ[j]? = some (kap κ n j) := by
 unfold kap
 rw [List.getElem?_eq_getElem h]
theorem Z1w {κ : List Nat} {n j : Nat} (h : κ.length ≤ j) : kap κ n j = n + (j - κ.length) := by
 unfold kap
 rw [List.getElem?_eq_none h]
def Zin (ρ : Nat → Nat) : AObj → AObj
 | .cells c t q => .cells (c.map (Za4 ρ 1)) t q
 | .ro O m => .ro O m
def Zj0 (m : Nat) : AObj → Bool
 | .cells c _ _ => Z5 (Zbd m 1) c
 | .ro _ _ => true
theorem Z2R {ρ : Nat → Nat} {o : AObj} : isC (some (Zin ρ o)) = isC (some o) := by
 cases o with
 | cells c t q => cases q with
  | false => rfl
  | true => cases c <;> rfl
 | ro O m => rfl
theorem Z2S {ρ : Nat → Nat} {o : AObj} : sol (some (Zin ρ o)) = sol (some o) := by
 cases o with
 | cells c t q => cases q with
  | false => rfl
  | true => cases c <;> rfl
 | ro O m => rfl
theorem Zel {ρ : Nat → Nat} {o : AObj} {b : Nat × Nat} : Zag (some (Zin ρ o)) b = Zag (some o) b := by
 unfold Zag
 rw [Z2R]
 cases o <;> rfl
theorem ZkM {ρ : Nat → Nat} {o : AObj} {b : Nat × Nat} : Za3 (some (Zin ρ o)) b = Za3 (some o) b := by
 unfold Za3
 rw [Z2S]
 cases o <;> rfl
theorem ZrS : ∀ (n : Nat) (l : List Nat), l.Nodup → (∀ k ∈ l, k < n) → l.length ≤ n
 | 0, l, _, h => by
  cases l with
  | nil => exact Nat.le_refl _
  | cons x l => exact absurd (h x (List.mem_cons_self ..)) (Nat.not_lt_zero _)
 | n + 1, l, hn, h => by
  by_cases hm : n ∈ l
  ·have := ZrS n (l.erase n) (hn.erase n) (fun k hk => by
    have h1 := h k (List.mem_of_mem_erase hk)
    have hne : k ≠ n := fun e => by subst e; exact (hn.mem_erase_iff.1 hk).1 rfl
    omega)
   rw [List.length_erase_of_mem hm] at this
   omega
  ·have := ZrS n l hn (fun k hk => by
    have h1 := h k hk
    have : k ≠ n := fun e => hm (e ▸ hk)
    omega)
   omega
theorem Z2T {ρ : Nat → Nat} {d : Nat} {v : Value} (h : Zc9 v = true) : Za4 ρ d v = v := by
 unfold Zc9 at h
 split at h
 ·cases d <;> rfl
 ·cases h
theorem LSpec.call {f : FuncId} {A : Array Value} {pre : List AObj} {v : Value} {post : List (Option AObj)} (h : LSpec P f A pre v post) (κ : List Nat) (n : Nat) (hκ : κ.length = pre.length) (hnd : κ.Nodup) (hlt : ∀ k ∈ κ, k < n) (hle : pre.length ≤ post.length)
  (hA : Z5 (Zbd pre.length 3) A.toList = true) (hpre : ∀ o ∈ pre, Zj0 pre.length o = true) (hv : (Zbd post.length 3 v || Zc9 v) = true) (hpost : ∀ o, some o ∈ post → Zj0 post.length o = true)
  {A' : Array Value} {pre' : List (Nat × AObj)} {v' : Value} {post' : List (Nat × Option AObj)} {dn : Nat} (eA : A' = Zhn (Za4 (kap κ n) 3) A) (ev : v' = Za4 (kap κ n) 3 v) (edn : pre.length + dn = post.length)
  (e1 : ∀ j o, pre[j]? = some o → ZaL (kap κ n j) pre' = some (Zin (kap κ n) o)) (e2 : ∀ k o, ZaL k pre' = some o → ∃ j, j < pre.length ∧ k = kap κ n j)
  (e3 : ∀ j, j < post.length → behind pre' post' (kap κ n j) = (lkO post j).map (Zin (kap κ n))) (e4 : ∀ k o, behind pre' post' k = some o → ∃ j, j < post.length ∧ k = kap κ n j) : ZcD P f A' pre' v' post' n dn := by
 intro ι w args' ha he hf
 subst eA ev
 have kl : ∀ j, j < pre.length → kap κ n j ∈ κ := fun j hj => List.mem_of_getElem? (Ztf (n := n) (by omega : j < κ.length))
 have kn : ∀ j, j < pre.length → kap κ n j < n := fun j hj => hlt _ (kl j hj)
 have kg : ∀ j, pre.length ≤ j → kap κ n j = n + (j - pre.length) := fun j hj => by rw [← hκ]; exact Z1w (by omega)
 have kinj : ∀ i j, kap κ n i = kap κ n j → i = j := fun i j hij => by
  rcases Nat.lt_or_ge i pre.length with h1 | h1 <;> rcases Nat.lt_or_ge j pre.length with h2 | h2
  ·have a := Ztf (n := n) (by omega : i < κ.length)
   have b := Ztf (n := n) (by omega : j < κ.length)
   rw [hij, ← b] at a
   exact (List.getElem?_inj (by omega) hnd).1 a
  ·have := kn i h1; rw [hij, kg j h2] at this; omega
  ·have := kn j h2; rw [← hij, kg i h1] at this; omega
  ·rw [kg i h1, kg j h2] at hij; omega
 have hpn : pre.length ≤ n := hκ ▸ ZrS n κ hnd hlt
 have hnf : n + dn ≤ 1000000000 := hf.1
 let ιl : Ren := fun j => if j < pre.length then ι (kap κ n j) else if 1000000000 ≤ j ∧ j % 2 = 0 then ι j else none
 have hιm : ∀ b base id, ιl (Zai b base id) = ι (Zai b base id) := fun b base id => by
  have := Zf5 b base id
  simp only [ιl]
  rw [if_neg (by omega), if_pos this]
 have hmkl : ∀ b base id q, ι (Zai b base id) = some q → ιl (Zai b base id) = some q := fun b base id q h => by rw [hιm]; exact h
 have hιl : ∀ j, j < pre.length → ιl j = ι (kap κ n j) := fun j hj => by simp [ιl, hj]
 have hl : ∀ k b, k < pre.length → ι (kap κ n k) = some b → ιl k = some b := fun k b hk hb => by rw [hιl k hk]; exact hb
 have hargs : VRs ιl A args' := ZrR ha fun i x y hx hv => ZwD hl hmkl 3 x y hv (ZbH hA i x hx)
 have cr : ∀ {c : List Value} {C : Array Value}, Z5 (Zbd pre.length 1) c = true → CR ι (c.map (Za4 (kap κ n) 1)) C → CR ιl c C := fun {c C} hu hc => ⟨by simpa using hc.1, fun i x y hx hy => ZwD hl hmkl 1 x y (hc.2 i _ y (by rw [List.getElem?_map, hx]; rfl) hy) (ZaG hu x (List.mem_of_getElem? hx))⟩
 have hemb : Emb P ιl (lk pre) w := by
  refine ⟨fun j c t q hj => ?_, fun j O hj => ?_, fun j j' b b' h1 h2 h3 h4 h5 => ?_, fun j b hj => ?_, fun b base id q hq => ?_, fun x hx => (he.tb x hx).imp fun q hq => hmkl _ _ _ _ hq⟩
  ·have hlt' : j < pre.length := (List.getElem?_eq_some_iff.1 hj).1
   obtain ⟨b, q1, ⟨z1, z2, z3⟩ | ⟨z1, C, q2, q3, q4⟩⟩ := he.obj _ _ t q (e1 j _ hj)
   ·exact ⟨b, by rw [hιl j hlt']; exact q1, .inl ⟨z1, List.map_eq_nil_iff.1 z2, z3⟩⟩
   ·exact ⟨b, by rw [hιl j hlt']; exact q1, .inr ⟨(Zel (ρ := kap κ n) (o := .cells c t q)).symm.trans z1, C, q2, cr (hpre _ (List.mem_of_getElem? hj)) q3, q4⟩⟩
  ·have hlt' : j < pre.length := (List.getElem?_eq_some_iff.1 hj).1
   obtain ⟨b, q1, q2⟩ := he.ro _ _ (e1 j _ hj)
   exact ⟨b, by rw [hιl j hlt']; exact q1, q2⟩
  ·obtain ⟨o, ho⟩ := Option.isSome_iff_exists.1 (ZbF h1)
   obtain ⟨o', ho'⟩ := Option.isSome_iff_exists.1 (ZcJ h2)
   have l1 : j < pre.length := (List.getElem?_eq_some_iff.1 ho).1
   have l2 : j' < pre.length := (List.getElem?_eq_some_iff.1 ho').1
   rw [hιl j l1] at h3
   rw [hιl j' l2] at h4
   have c1 : Zag (ZaL (kap κ n j) pre') b = true := by rw [e1 j o ho, Zel, ← ho]; exact h1
   exact kinj j j' (he.inj _ _ b b' c1 (by show Za3 (ZaL (kap κ n j') pre') b' = true; rw [e1 j' o' ho', ZkM, ← ho']; exact h2) h3 h4 h5)
  ·by_cases hj' : j < pre.length
   ·rw [hιl j hj'] at hj; exact he.lt _ b hj
   ·simp only [ιl] at hj
    rw [if_neg hj'] at hj
    split at hj
    ·exact he.lt _ b hj
    ·cases hj
  ·rw [hιm] at hq
   obtain ⟨m1, m2, m3⟩ := he.mks b base id q hq
   refine ⟨m1, ⟨m2.1.on hmkl, fun o c hc => hmkl _ _ _ _ (m2.2 o c hc)⟩, fun k d hk hd => ?_⟩
   obtain ⟨o, ho⟩ := Option.isSome_iff_exists.1 (ZbF hk)
   have l1 : k < pre.length := (List.getElem?_eq_some_iff.1 ho).1
   rw [hιl k l1] at hd
   exact m3 (kap κ n k) d (by show Zag (ZaL (kap κ n k) pre') d = true; rw [e1 k o ho, Zel, ← ho]; exact hk) hd
 refine (h ιl w args' (fun k hk => by
  by_cases h : k < pre.length
  ·exact .inl h
  ·simp only [ιl] at hk
   rw [if_neg h] at hk
   split at hk
   ·exact .inr (by assumption)
   ·exact absurd rfl hk) hargs hemb).mono ?_
 intro e w' hfin
 obtain ⟨ι2, hS, hdom, hfin⟩ : ∃ ι2, Step P ιl (lk pre) w ι2 (lkO post) w' ∧ (∀ k, ι2 k ≠ none → k < post.length ∨ far ≤ k) ∧ ((∃ v', e = .returned v' ∧ VR ι2 v v') ∨ (Zc9 v = true ∧ e = .panicked (ZgY v))) := by
  rcases hfin with ⟨v', ι2, q1, q2, q3, q4⟩ | ⟨q1, ι2, q2, q3, q4⟩
  ·exact ⟨ι2, q2, q3, .inl ⟨v', q1, q4⟩⟩
  ·exact ⟨ι2, q3, q4, .inr ⟨q1, q2⟩⟩
 have live : ∀ j, j < pre.length → ∃ b, ιl j = some b := fun j hj => hemb.live (k := j) (by simp [lk, hj])
 let ι' : Ren := fun k => match ι k with | some b => some b | none => if n ≤ k ∧ k < n + dn then ι2 (k - n + pre.length) else if 1000000000 ≤ k ∧ k % 2 = 0 then ι2 k else none
 have hold : ∀ k b, ι k = some b → ι' k = some b := fun k b hk => by simp [ι', hk]
 have hnew : ∀ k b, k < post.length → ι2 k = some b → ι' (kap κ n k) = some b := fun k b hk hb => by
  rcases Nat.lt_or_ge k pre.length with h1 | h1
  ·obtain ⟨c, hc⟩ := live k h1
   have := hS.ext k c hc
   rw [hb] at this
   injection this with this
   subst this
   rw [hιl k h1] at hc
   exact hold _ _ hc
  ·have e := kg k h1
   have hn : ι (kap κ n k) = none := hf.2 _ (by omega) (by omega)
   have : ι' (kap κ n k) = ι2 (kap κ n k - n + pre.length) := by simp only [ι', hn]; rw [if_pos ⟨by omega, by omega⟩]
   rw [this, e, show n + (k - pre.length) - n + pre.length = k by omega]
   exact hb
 have hback : ∀ k b, k < post.length → ι' (kap κ n k) = some b → ι2 k = some b := fun k b hk hb => by
  rcases Nat.lt_or_ge k pre.length with h1 | h1
  ·obtain ⟨c, hc⟩ := live k h1
   have q := hS.ext k c hc
   rw [hιl k h1] at hc
   rw [hold _ _ hc] at hb
   rw [q]; exact hb
  ·have e := kg k h1
   have hn : ι (kap κ n k) = none := hf.2 _ (by omega) (by omega)
   have : ι' (kap κ n k) = ι2 (kap κ n k - n + pre.length) := by simp only [ι', hn]; rw [if_pos ⟨by omega, by omega⟩]
   rw [this, e, show n + (k - pre.length) - n + pre.length = k by omega] at hb
   exact hb
 have hnewM : ∀ b base id q, ι2 (Zai b base id) = some q → ι' (Zai b base id) = some q := fun b base id q hq => by
  have hf := Zf5 b base id
  cases hi : ι (Zai b base id) with
  | some c =>
   have := hS.ext _ c (hmkl _ _ _ _ hi)
   rw [hq] at this
   injection this with this
   subst this
   exact hold _ _ hi
  | none =>
   simp only [ι', hi]
   rw [if_neg (by omega), if_pos hf]
   exact hq
 have hbackM : ∀ b base id q, ι' (Zai b base id) = some q → ι2 (Zai b base id) = some q := fun b base id q hq => by
  have hf := Zf5 b base id
  cases hi : ι (Zai b base id) with
  | some c =>
   rw [hold _ _ hi] at hq
   rw [← hq]
   exact hS.ext _ c (hmkl _ _ _ _ hi)
  | none =>
   simp only [ι', hi] at hq
   rw [if_neg (by omega), if_pos hf] at hq
   exact hq
 have inv : ∀ k o, behind pre' post' k = some o → ∃ j o0, j < post.length ∧ k = kap κ n j ∧ lkO post j = some o0 ∧ o = Zin (kap κ n) o0 := fun k o hk => by
  obtain ⟨j, hj, rfl⟩ := e4 k o hk
  rw [e3 j hj] at hk
  cases hp : lkO post j with
  | none => rw [hp] at hk; cases hk
  | some o0 => rw [hp] at hk; injection hk with hk; exact ⟨j, o0, hj, rfl, hp, hk.symm⟩
 have mem : ∀ {j o}, lkO post j = some o → some o ∈ post := fun {j o} hj => by
  unfold lkO at hj
  cases hp : post[j]? with
  | none => rw [hp] at hj; cases hj
  | some x => rw [hp] at hj; exact (show x = some o from hj) ▸ List.mem_of_getElem? hp
 suffices hmain : Step P ι (fun k => ZaL k pre') w ι' (behind pre' post') w' ∧ Dom ι ι' n (n + dn) by
  rcases hfin with ⟨v', q1, hvr⟩ | ⟨q1, q2⟩
  ·refine .inl ⟨v', ι', q1, hmain.1, hmain.2, ?_⟩
   have hu : Zbd post.length 3 v = true := by
    cases hu : Zbd post.length 3 v with
    | true => rfl
    | false => rw [hu] at hv; exact absurd hvr (Z1u hv)
   exact Zkm hnew hnewM 3 v v' hvr hu
  ·rw [Z2T q1]
   exact .inr ⟨q1, ι', q2, hmain.1, hmain.2⟩
 refine ⟨⟨hold, ⟨fun k c t q hk => ?_, fun k O hk => ?_, fun k k' b b' h1 h2 h3 h4 h5 => ?_, fun k b hk => ?_, fun b base id q hq => ?_, fun x hx => (hS.emb.tb x hx).imp fun q hq => hnewM _ _ _ _ hq⟩, hS.os, hS.tape, hS.output, hS.size, fun b hb hno => hS.frame b hb fun j c hj hc => ?_, fun k b h1 h2 h0 => ?_, fun k b h1 h2 => ?_, fun k b h1 h2 => ?_⟩, fun k hk => ?_⟩
 ·obtain ⟨j, o0, hj, rfl, hp, ho⟩ := inv k _ hk
  cases o0 with
  | ro O => cases ho
  | cells c0 t0 q0 =>
   injection ho with q1 q2 q3
   subst q1 q2 q3
   obtain ⟨b, q1, ⟨z1, z2, z3⟩ | ⟨z1, C, q2, q3, q4⟩⟩ := hS.emb.obj j c0 _ _ hp
   ·exact ⟨b, hnew j b hj q1, .inl ⟨z1, by rw [z2]; rfl, z3⟩⟩
   have hu : Z5 (Zbd post.length 1) c0 = true := hpost _ (mem hp)
   refine ⟨b, hnew j b hj q1, .inr ⟨(Zel (ρ := kap κ n) (o := .cells c0 t q)).trans z1, C, q2, ⟨by simpa using q3.1, fun i x y hx hy => ?_⟩, q4⟩⟩
   rw [List.getElem?_map] at hx
   cases hz : c0[i]? with
   | none => rw [hz] at hx; cases hx
   | some z =>
    rw [hz] at hx
    injection hx with hx
    subst hx
    exact Zkm hnew hnewM 1 z y (q3.2 i z y hz hy) (ZaG hu z (List.mem_of_getElem? hz))
 ·obtain ⟨j, o0, hj, rfl, hp, ho⟩ := inv k _ hk
  cases o0 with
  | cells c0 t0 => cases ho
  | ro O' m1 =>
   injection ho with q1 q2
   subst q1 q2
   obtain ⟨b, q1, q2⟩ := hS.emb.ro j _ hp
   exact ⟨b, hnew j b hj q1, q2⟩
 ·obtain ⟨o, ho⟩ := Option.isSome_iff_exists.1 (ZbF h1)
  obtain ⟨o', ho'⟩ := Option.isSome_iff_exists.1 (ZcJ h2)
  obtain ⟨j, o0, hj, rfl, hp, rfl⟩ := inv k _ ho
  obtain ⟨j', o0', hj', rfl, hp', rfl⟩ := inv k' _ ho'
  rw [ho, Zel] at h1
  have h2' : Za3 (behind pre' post' (kap κ n j')) b' = true := h2
  rw [ho', ZkM] at h2'
  rw [hS.emb.inj j j' b b' (by rw [hp]; exact h1) (by rw [hp']; exact h2') (hback j b hj h3) (hback j' b' hj' h4) h5]
 ·cases hi : ι k with
  | some c =>
   have := hold k c hi
   rw [hk] at this; injection this with this; subst this
   exact Nat.lt_of_lt_of_le (he.lt k b hi) hS.size
  | none =>
   simp only [ι', hi] at hk
   split at hk
   ·exact hS.emb.lt _ b hk
   ·split at hk
    ·exact hS.emb.lt _ b hk
    ·cases hk
 ·have hq2 := hbackM b base id q hq
  obtain ⟨m1, m2, m3⟩ := hS.emb.mks b base id q hq2
  refine ⟨m1, ⟨m2.1.on hnewM, fun o c hc => hnewM _ _ _ _ (m2.2 o c hc)⟩, fun k d hk hd => ?_⟩
  obtain ⟨o, ho⟩ := Option.isSome_iff_exists.1 (ZbF hk)
  obtain ⟨j, o0, hj, rfl, hp, rfl⟩ := inv k _ ho
  have hk' : Zag (behind pre' post' (kap κ n j)) d = true := hk
  rw [ho, Zel] at hk'
  exact m3 j d (by rw [hp]; exact hk') (hback j d hj hd)
 ·obtain ⟨o, ho⟩ := Option.isSome_iff_exists.1 (ZbF hj)
  have l1 : j < pre.length := (List.getElem?_eq_some_iff.1 ho).1
  rw [hιl j l1] at hc
  exact hno (kap κ n j) c (by rw [e1 j o ho, Zel, ← ho]; exact hj) hc
 ·simp only [ι', h1] at h2
  split at h2
  ·rename_i hr
   have hnone : ιl (k - n + pre.length) = none := by simp only [ιl]; rw [if_neg (by omega), if_neg (by omega)]
   have h0' : Za3 (lkO post (k - n + pre.length)) b = true ∨ ZcP (k - n + pre.length) := by
    rcases h0 with h0 | h0
    ·obtain ⟨o, ho⟩ := Option.isSome_iff_exists.1 (ZcJ h0)
     obtain ⟨j, o0, hj, hkj, hp, rfl⟩ := inv k _ ho
     have hjp : j = k - n + pre.length := by
      rcases Nat.lt_or_ge j pre.length with l1 | l1
      ·have := kn j l1; omega
      ·have := kg j l1; omega
     subst hjp
     rw [ho, ZkM] at h0
     exact .inl (by rw [hp]; exact h0)
    ·unfold ZcP at h0; omega
   rcases hS.new _ b hnone h2 h0' with h | ⟨j, c, hj, hc, he2⟩
   ·exact .inl h
   ·obtain ⟨o, ho⟩ := Option.isSome_iff_exists.1 (ZbF hj)
    have l1 : j < pre.length := (List.getElem?_eq_some_iff.1 ho).1
    rw [hιl j l1] at hc
    exact .inr ⟨kap κ n j, c, by rw [e1 j o ho, Zel, ← ho]; exact hj, hc, he2⟩
  ·split at h2
   ·rename_i hr
    have hnone : ιl k = none := by simp only [ιl]; rw [if_neg (by omega), if_pos hr]; exact h1
    rcases hS.new _ b hnone h2 (.inr hr) with h | ⟨j, c, hj, hc, he2⟩
    ·exact .inl h
    ·obtain ⟨o, ho⟩ := Option.isSome_iff_exists.1 (ZbF hj)
     have l1 : j < pre.length := (List.getElem?_eq_some_iff.1 ho).1
     rw [hιl j l1] at hc
     exact .inr ⟨kap κ n j, c, by rw [e1 j o ho, Zel, ← ho]; exact hj, hc, he2⟩
   ·cases h2
 ·obtain ⟨o, ho⟩ := Option.isSome_iff_exists.1 (ZcJ h1)
  obtain ⟨j, o0, hj, rfl, hp, rfl⟩ := inv k _ ho
  rcases Nat.lt_or_ge j pre.length with l1 | l1
  ·obtain ⟨c, hc⟩ := live j l1
   have h1' : Za3 (behind pre' post' (kap κ n j)) b = true := h1
   rw [ho, ZkM] at h1'
   have q := hS.alive j b (by rw [hp]; exact h1') (by rw [hιl j l1]; exact h2)
   obtain ⟨o1, ho1⟩ := Option.isSome_iff_exists.1 (ZcJ q)
   show Za3 (ZaL (kap κ n j) pre') b = true
   rw [e1 j o1 ho1, ZkM, ← ho1]
   exact q
  ·rw [hf.2 _ (by rw [kg j l1]; omega) (by rw [kg j l1]; omega)] at h2; cases h2
 ·obtain ⟨o, ho⟩ := Option.isSome_iff_exists.1 (ZbF h1)
  obtain ⟨j, o0, hj, rfl, hp, rfl⟩ := inv k _ ho
  rcases Nat.lt_or_ge j pre.length with l1 | l1
  ·obtain ⟨c, hc⟩ := live j l1
   rw [ho, Zel] at h1
   have q := hS.kind j b (by rw [hp]; exact h1) (by rw [hιl j l1]; exact h2)
   obtain ⟨o1, ho1⟩ := Option.isSome_iff_exists.1 (ZbF q)
   rw [e1 j o1 ho1, Zel, ← ho1]
   exact q
  ·rw [hf.2 _ (by rw [kg j l1]; omega) (by rw [kg j l1]; omega)] at h2; cases h2
 ·cases hi : ι k with
  | some c => exact .inl (by simp)
  | none =>
   simp only [ι', hi] at hk
   split at hk
   ·rename_i hr; exact .inr (.inl hr)
   ·split at hk
    ·rename_i hr; exact .inr (.inr hr.1)
    ·exact absurd rfl hk
end
end Ev
end Go.Proofs.YthfohmhipifiaaaGreat
/- Tools of my own, over any program: contracts that hand back one value and leave what was there alone, and regions walked once in the class of worlds that are alike below a block. -/
namespace Go.Proofs.YthfohmhipifiaaaGreat
open Go.ChangeShapes Go.WideShapes Go.ChangeAt Go.RowKit

def Ret (v : Value) (w : World) (e : Ending) (w' : World) : Prop := e = .returned v ∧ Below w.heap.size w w'

def Cl (w : World) : Type := { w' : World // Below w.heap.size w w' }
def Cl.w {w : World} (x : Cl w) : World := x.1
theorem Cl.below {w : World} (x : Cl w) : Below w.heap.size w x.w := x.2
def Cl.start (w : World) : Cl w := ⟨w, Below.refl _ _⟩
instance (w : World) : Nonempty (Cl w) := ⟨Cl.start w⟩
theorem Cl.size {w : World} (x : Cl w) : w.heap.size ≤ x.w.heap.size := x.below.size
theorem Cl.cell {w : World} (x : Cl w) {b o : Nat} {v : Value} (hb : b < w.heap.size) (h : w.cell? ⟨b, o, none⟩ = some v) : x.w.cell? ⟨b, o, none⟩ = some v :=
 (x.below.cell (p := ⟨b, o, none⟩) hb).trans h
theorem Cl.frozen {w : World} (x : Cl w) {b o : Nat} {v : Bool} (hb : b < w.heap.size) (h : w.frozen? ⟨b, o, none⟩ = v) : x.w.frozen? ⟨b, o, none⟩ = v :=
 (x.below.frozen (p := ⟨b, o, none⟩) hb).trans h
theorem Cl.all {w : World} (_ : Cl w) (b o : Nat) (v : Value) (hb : b < w.heap.size) (h : w.cell? ⟨b, o, none⟩ = some v) : ∀ y : Cl w, y.w.cell? ⟨b, o, none⟩ = some v := fun y => y.cell hb h
theorem Cl.lt {w : World} (x : Cl w) {b : Nat} (h : b < w.heap.size) : b < x.w.heap.size := Nat.lt_of_lt_of_le h x.size
def Cl.on {w : World} (x : Cl w) {w' : World} (h : Below x.w.heap.size x.w w') : Cl w := ⟨w', x.below.trans (h.mono x.size)⟩
theorem Ret.next {w : World} {x : Cl w} {v : Value} {e : Ending} {w' : World} (h : Ret v x.w e w') : e = .returned v ∧ ∃ y : Cl w, w' = y.w :=
 ⟨h.1, x.on h.2, rfl⟩

theorem Ret.end {w W : World} {x : Cl W} {v : Value} (h : Below w.heap.size w W) : Ret v w (.returned v) x.w :=
 ⟨rfl, h.trans (x.below.mono h.size)⟩
theorem Ret.same {w : World} {v : Value} : Ret v w (.returned v) w := ⟨rfl, Below.refl _ _⟩
theorem Ret.alloc {w : World} {v : Value} (o : Obj) : Ret v w (.returned v) (w.alloc o) := ⟨rfl, (Below.refl _ _).alloc (Nat.le_refl _) _⟩

/-! ### Blocks that are known -/
def Has (W : World) (b : Nat) (cs : List Value) : Prop := b < W.heap.size ∧ ∀ i v, cs[i]? = some v → W.cell? ⟨b, i, none⟩ = some v ∧ W.frozen? ⟨b, i, none⟩ = false
section
variable {W : World} {b : Nat} {cs : List Value}
theorem Has.lt (h : Has W b cs) : b < W.heap.size := h.1
theorem Has.new (W : World) (cs : List Value) (t : TypeId) : Has (W.alloc (.cells cs.toArray t)) W.heap.size cs := by
 refine ⟨by simp, fun i v hi => ?_⟩
 have e : (W.alloc (.cells cs.toArray t)).heap[W.heap.size]? = some (.cells cs.toArray t (0, 0)) := heap_alloc_new W _
 refine ⟨?_, by simp only [World.frozen?, e]; simp⟩
 have := cell_of_row (W.alloc (.cells cs.toArray t)) W.heap.size i cs.toArray t (0, 0) e
 rw [this]; simpa using hi
theorem Has.below {W' : World} (h : Has W b cs) (hb : Below W.heap.size W W') : Has W' b cs :=
 ⟨Nat.lt_of_lt_of_le h.1 hb.size, fun i v hi => ⟨(hb.cell (p := ⟨b, i, none⟩) h.1).trans (h.2 i v hi).1, (hb.frozen (p := ⟨b, i, none⟩) h.1).trans (h.2 i v hi).2⟩⟩
theorem Has.ext (h : Has W b cs) (y : Cl W) : Has y.w b cs := h.below y.below
theorem Has.alloc (h : Has W b cs) (o : Obj) : Has (W.alloc o) b cs := h.below ((Below.refl _ _).alloc (Nat.le_refl _) _)
theorem Has.far (h : Has W b cs) {p : Addr} (hp : p.block ≠ b) (u : Value) : Has (W.setCell p u) b cs := by
 refine ⟨by simpa [World.setCell] using h.1, fun i v hi => ?_⟩
 have hb : (W.setCell p u).heap[b]? = W.heap[b]? := Below.heap_setCell W p u b (fun e => hp e.symm)
 exact ⟨(World.cell?_of_block (a := ⟨b, i, none⟩) hb).trans (h.2 i v hi).1, (World.frozen?_of_block (a := ⟨b, i, none⟩) hb).trans (h.2 i v hi).2⟩
theorem Has.at_ (h : Has W b cs) (i : Nat) (v : Value) (hi : cs[i]? = some v) : ∀ y : Cl W, y.w.cell? ⟨b, i, none⟩ = some v := fun y => ((h.ext y).2 i v hi).1
theorem Has.fr (h : Has W b cs) (i : Nat) (v : Value) (hi : cs[i]? = some v) : ∀ y : Cl W, y.w.frozen? ⟨b, i, none⟩ = false := fun y => ((h.ext y).2 i v hi).2
end
theorem Cl.out {w W : World} (x : Cl W) (h : Below w.heap.size w W) : Below w.heap.size w x.w := h.trans (x.below.mono h.size)
theorem Ret.of {w T : World} {v : Value} (h : Below w.heap.size w T) : Ret v w (.returned v) T := ⟨rfl, h⟩
end Go.Proofs.YthfohmhipifiaaaGreat
/- The frame of every law, over any program: from 'called with whatever can be read, it hands back true and leaves what was there alone' to the row's own step. And how arguments are opened. -/
namespace Go.Proofs.YthfohmhipifiaaaGreat
open Go.ChangeShapes Go.WideShapes Go.ChangeAt Go.RowKit

section
variable {H : Type} {enc : TypeId × Value → H} {P : Program}

theorem Zpr (hl : laidOutB P = true) {W W' : World} (hb : Below W.heap.size W W') : ∀ {ts : List TypeId} {vs : List Value} {ds : List (DataW H)} {ps : List MemPlace},
  (ts.all fun t => P.readableRec t && decide (t < P.types.size)) = true → DataW.TrodAll enc P W 0 (fun _ => true) true ts vs ds ps → (∀ x ∈ ps, x.block < W.heap.size) →
  DataW.TrodAll enc P W' 0 (fun b => decide (b < W.heap.size)) true ts vs ds ps
 | [], vs, ds, ps, _, h, _ => by
  obtain ⟨rfl, rfl, rfl⟩ := trodAll_nil h
  exact trodAll_mk0
 | t :: ts, vs, ds, ps, ha, h, hlt => by
  obtain ⟨v, vs', d, ds', p, q, rfl, rfl, rfl, h0, r0⟩ := trodAll_cons h
  simp only [List.all_cons, Bool.and_eq_true, decide_eq_true_eq] at ha
  exact trodAll_cons_mk (Below.trod hl ha.1.1 ha.1.2 h0 hb fun x hx => hlt x (List.mem_append_left _ hx))
   (Zpr hl hb (by simpa using ha.2) r0 fun x hx => hlt x (List.mem_append_right _ hx))

theorem Z1x {C : Checked} {os : Os} {F : FuncId} {fn : Func} {s : ChangeSpec} {tb : TypeId}
  (own : ownKnob C.prog.godebug = none) (started : os.Started) (noInit : C.prog.inits.idxOf? F = none) (hfn : C.prog.funcs[F]? = some fn)
  (hv : s.vars = []) (hrt : fn.resultTypes = #[tb]) (hub : C.prog.underlying tb = some .bool)
  (hspec : ∀ ds : List (DataW H), ds.length = fn.params.size → s.fn H ds = { results := [.lit (.bool true)], args := ds })
  (hl : laidOutB C.prog = true) (hr : (fn.params.toList.all fun t => C.prog.readableRec t && decide (t < C.prog.types.size)) = true)
  (witness : ∃ (w : World) (tape : Tape) (i : Input), w.os = os ∧ (w.forCall tape i).Shaped C.prog ∧ i.vars = [] ∧ Input.okWide C.prog (w.forCall tape i) .any w.heap.size F i ∧
   s.pre6 enc C.prog fn [] false (w.forCall tape i).memory i.args ∧ ({} : Assume).holds C.prog (lone (Frame.enter C.prog F i.args .normal) [] (w.forCall tape i)))
  (walk : ∀ (W : World) (base : Nat) (args : Array Value) (ds : List (DataW H)) (p : List MemPlace),
   (∀ (j : Nat) t v, fn.params[j]? = some t → args[j]? = some v → Value.okWide C.prog W .any base t v) →
   DataW.TrodAll enc C.prog W 0 (fun _ => true) true fn.params.toList args.toList ds p → (∀ x ∈ p, x.block < W.heap.size) →
   (DataW.weightsEach C.prog fn.params.toList ds).all (· ≤ reachBytes) = true →
   Calls C.prog F args W (Ret (.bool true) W)) :
  ReturnsInHanded {} C os F .any (s.pre6 enc C.prog fn [] false) (s.post enc C.prog fn false true false false) := by
 refine returnsInHanded_of_change_sized own started noInit hfn witness ?_
 intro W base args ds gs before hval hW _ hsz _
 have hlt : ∀ x ∈ before, x.block < W.heap.size := fun x hx => hW.lt x hx
 obtain ⟨p, q, hA, hV, hps, hfz, hnd⟩ := id hW
 rw [hv] at hV
 obtain ⟨rfl, rfl⟩ := trodVars_none hV
 rw [List.append_nil] at hps
 subst hps
 have hvt : s.plain.varTypes C.prog = [] := by simp [ChangeSpec.plain, DataSpec.varTypes, hv]
 rw [hvt, List.append_nil, List.append_nil] at hsz
 refine (walk W base args ds before hval hA hlt hsz).mono fun e W' ⟨he, hb⟩ => ⟨_, he, ?_⟩
 have hlen : ds.length = fn.params.size := by
  have : ∀ {ts : List TypeId} {vs : List Value} {ds : List (DataW H)} {ps : List MemPlace}, DataW.TrodAll enc C.prog W 0 (fun _ => true) true ts vs ds ps → ds.length = ts.length := by
   intro ts
   induction ts with
   | nil => intro vs ds ps h; obtain ⟨_, rfl, _⟩ := trodAll_nil h; rfl
   | cons t ts ih => intro vs ds ps h; obtain ⟨_, _, _, _, _, _, _, rfl, _, _, r⟩ := trodAll_cons h; simp [ih r]
  simpa using this hA
 have hs := hspec (ds ++ []) (by simpa using hlen)
 refine ⟨ds, [], before, [], before, [], by simpa [hv] using hW, ?_, ?_, ?_, World.keptBut_mono (fun x hx => ⟨hx, .inr (.inl hx)⟩) (hb.frame (· ∈ before)), fun h => by cases h⟩
 ·rw [hs, hrt]
  exact trodAll_mk1 (shut_bool hub true)
 ·rw [hs]
  simpa using Zpr hl hb hr hA hlt
 ·rw [hs, hv]
  rfl
end
end Go.Proofs.YthfohmhipifiaaaGreat
/- A round's frame: what the runner says of code holds there too. -/
namespace Go.Proofs.YthfohmhipifiaaaGreat
open Go.RowKit
namespace Ev
section
variable {P : Program} {ext : FuncId → Option Ext} {r : Option Nat}
end
noncomputable section
structure Cx where
 nt : Nat
 T : Tr Value
 ps : Array Tmp
 asg : Code
 body : Code
end
section
variable {P : Program} {ext : FuncId → Option Ext}
theorem Step.put {ι0 ι : Ren} {h0 h : AH} {w0 W : World} (st : Step P ι0 h0 w0 ι h W) {l : Nat} (hl : w0.heap.size ≤ l) (hn : ∀ k b, Za3 (h k) b = true ∨ ZcP k → ι k = some b → b.1 ≠ l) (o : Obj) : Step P ι0 h0 w0 ι h (W.putObj l o) where
 ext := st.ext
 emb := ⟨fun k c t q hk => by
   obtain ⟨b, q1, hz⟩ := st.emb.obj k c t q hk
   exact ⟨b, q1, hz.imp id fun ⟨q0, C, q2, q3⟩ => ⟨q0, C, q2.on (World.putObj_heap_other (hn k b (.inl (by rw [hk]; exact Zd8 q0)) q1)), q3⟩⟩,
  fun k O hk => by
   obtain ⟨b, q1, q2⟩ := st.emb.ro k O hk
   exact ⟨b, q1, q2.on (World.putObj_heap_other (hn k b (.inl (by rw [hk]; rfl)) q1))⟩, st.emb.inj, fun k b hk => by
   have := st.emb.lt k b hk
   simpa [World.putObj] using this, fun b base id q hq => by
   obtain ⟨m1, m2, m3⟩ := st.emb.mks b base id q hq
   exact ⟨m1, ⟨m2.1.ext (fun _ _ h => h) (World.putObj_heap_other (by rw [← m1]; exact hn _ q (.inr (Zf5 b base id)) hq)), m2.2⟩, m3⟩, st.emb.tb⟩
 os := st.os
 tape := st.tape
 output := st.output
 size := by have := st.size; simpa [World.putObj] using this
 frame := fun b hb hc => (World.putObj_heap_other (by omega)).trans (st.frame b hb hc)
 new := st.new
 alive := st.alive
 kind := st.kind
section
variable {ι0 : Ren} {h0 : AH} {w0 : World} {n0 cn : Nat} {cT : Tr Value} {ac : Act} {l K : Nat} {R : Loop}
end
section
variable {ι0 : Ren} {h0 : AH} {w0 : World} {n0 : Nat} {ac : Act} {l K : Nat} {R : Loop} {cx : Cx}
end
end
section
variable {P : Program} {ext : FuncId → Option Ext}
section
variable {ι0 : Ren} {h0 : AH} {w0 : World} {n0 : Nat} {ac : Act} {l0 K : Nat} {R : Loop} {cx : Cx}
end
end
section
variable {P : Program} {ext : FuncId → Option Ext}
section
variable {ι0 : Ren} {h0 : AH} {w0 : World} {n0 : Nat} {ac : Act} {l0 K : Nat} {R : Loop} {cx : Cx}
end
end
section
variable {P : Program} {ext : FuncId → Option Ext}
end
noncomputable section
end
section
variable {P : Program} {ext : FuncId → Option Ext}
end
noncomputable section
end
section
variable {P : Program}
end
noncomputable section

def Z06 : FuncId → Option Ext := fun f =>
   none

theorem noGo : (Tryz.prog.funcs.toList.all fun fn => !(fn.name == "runtime.NumGoroutine")) = true := by kernel_rfl
theorem mixed : Tryz.prog.follows .mixedOrders = true := by kernel_rfl
section
variable (sp : FuncId → Option (List Value → Option Value))
def Z07 (hp : FuncId → Option (Array Value → St → Out)) : FuncId → Option Ext := fun f => match Z06 f with
  | some e => some e
  | none => match sp f with
    | some g => some (.fn g)
    | none => match hp f with
      | some g => some (.hp g)
      | none => none
def Z08 : Prop := ∀ (f : Nat) (g : List Value → Option Value), sp f = some g → (∃ (fn : Func) (c : Code), Tryz.prog.funcs[f]? = some fn ∧ fn.body = some c) ∧
  ∀ (args : Array Value) (v : Value), Z5 free args.toList = true → g args.toList = some v → ∀ w, TabW w → Calls Tryz.prog f args w fun e w' => e = .returned v ∧ Below w.heap.size w w'
def Zxz (hp : FuncId → Option (Array Value → St → Out)) : Prop := ∀ (f : Nat) (g : Array Value → St → Out), hp f = some g → Zxm Tryz.prog f g
theorem ZmG {f : Nat} {e : Ext} (he : Z06 f = some e) : (∀ (kk : IntKind) (c : Nat), e = .at kk c → ∃ fn : Func, Tryz.prog.funcs[f]? = some fn ∧ fn.body.isNone = true ∧ Extern.findNext fn = none ∧
    (c = 0 ∧ Extern.find fn = some (Extern.Atomic.loadT (.int kk)) ∨ c = 1 ∧ Extern.find fn = some Extern.Atomic.storeT ∨
     c = 2 ∧ Extern.find fn = some (Extern.Atomic.update (Op.intArith .add) kk true) ∨ c = 3 ∧ Extern.find fn = some (Extern.Atomic.casT (.int kk)))) ∧
    (∀ n : Nat, e = .mark n → ∃ fn : Func, Tryz.prog.funcs[f]? = some fn ∧ fn.body.isNone = true ∧ Extern.findNext fn = none ∧
    (n = 0 ∧ (∃ m : Mark, Extern.find fn = some (fun _ => do mark m; pure Extern.Race.none_)) ∨ n = 1 ∧ ∃ m : Addr → Mark, Extern.find fn = some (Extern.Race.marked m))) ∧ (∀ g, e ≠ .fn g) ∧ (∀ g, e ≠ .hp g) ∧ (∀ S, e ≠ .tc S) := by
  unfold Z06 at he
  cases he
theorem Zio {sp : FuncId → Option (List Value → Option Value)} {hp : FuncId → Option (Array Value → St → Out)} {f : Nat} {e : Ext} (h : Z07 sp hp f = some e) : Z06 f = some e ∨ (∃ g, sp f = some g ∧ e = .fn g) ∨ ∃ g, hp f = some g ∧ e = .hp g := by
  unfold Z07 at h
  split at h
  · rename_i e' he'
    injection h with h; subst h
    exact .inl he'
  · split at h
    · rename_i g hg
      injection h with h; subst h
      exact .inr (.inl ⟨g, hg, rfl⟩)
    · split at h
      · rename_i g hg
        injection h with h; subst h
        exact .inr (.inr ⟨g, hg, rfl⟩)
      · cases h
theorem fitH {sp : FuncId → Option (List Value → Option Value)} {hp : FuncId → Option (Array Value → St → Out)} (hsp : Z08 sp) (hhp : Zxz hp) : Fit Tryz.prog (Z07 sp hp) := by
  refine ⟨mixed, fun f fn hf => ?_, fun f g hg => ?_, fun f g hg => ?_, fun f S hS => ?_, fun f n hn => ?_, fun f kk e he => ?_⟩
  · have := List.all_eq_true.1 noGo fn (by
      obtain ⟨h, rfl⟩ := Array.getElem?_eq_some_iff.1 hf
      simp)
    simpa using this
  · rcases Zio hg with h | ⟨g', h, hx⟩ | ⟨g', h, hx⟩
    · exact ((ZmG h).2.2.1 g rfl).elim
    · injection hx with hx; subst hx; exact hsp f g h
    · cases hx
  · rcases Zio hg with h | ⟨g', h, hx⟩ | ⟨g', h, hx⟩
    · exact ((ZmG h).2.2.2.1 g rfl).elim
    · cases hx
    · injection hx with hx; subst hx; exact hhp f g h
  · rcases Zio hS with h | ⟨g', h, hx⟩ | ⟨g', h, hx⟩
    · exact ((ZmG h).2.2.2.2 S rfl).elim
    · cases hx
    · cases hx
  · rcases Zio hn with h | ⟨g', h, hx⟩ | ⟨g', h, hx⟩
    · exact (ZmG h).2.1 n rfl
    · cases hx
    · cases hx
  · rcases Zio he with h | ⟨g', h, hx⟩ | ⟨g', h, hx⟩
    · exact (ZmG h).1 kk e rfl
    · cases hx
    · cases hx
def Z2k : FuncId → Option (List Value → Option Value) := fun _ => none
theorem Z2U : Z08 Z2k := fun f g h => by cases h
def hp0 : FuncId → Option (Array Value → St → Out) := fun f =>
   none
theorem Z3n : Zxz hp0 := by
  intro f g h
  unfold hp0 at h
  cases h
def hp1 : FuncId → Option (Array Value → St → Out) := fun f =>
   hp0 f
theorem Z3o : Zxz hp1 := by
  intro f g h
  unfold hp1 at h
  exact Z3n f g h
def Z2l : FuncId → Option Ext := Z07 sp hp1
end
theorem fitS {sp : FuncId → Option (List Value → Option Value)} (hsp : Z08 sp) : Fit Tryz.prog (Z2l sp) := fitH hsp Z3o
def ext : FuncId → Option Ext := Z2l Z2k
def Z09 (e : FuncId → Option Ext) (tc : FuncId → Bool) : FuncId → Option Ext := fun f => bif tc f then some (.tc (ZcD Tryz.prog f)) else e f
theorem fitT {e : FuncId → Option Ext} {tc : FuncId → Bool} (F : Fit Tryz.prog e) (hb : ∀ f, tc f = true → ∃ (fn : Func) (c : Code), Tryz.prog.funcs[f]? = some fn ∧ fn.body = some c) : Fit Tryz.prog (Z09 e tc) := by
  have cs : ∀ {f : Nat} {x : Ext}, Z09 e tc f = some x → (tc f = true ∧ x = .tc (ZcD Tryz.prog f)) ∨ e f = some x := fun {f x} h => by
    unfold Z09 at h
    cases ht : tc f with
    | true => rw [ht] at h; injection h with h; exact .inl ⟨rfl, h.symm⟩
    | false => rw [ht] at h; exact .inr h
  refine ⟨F.mixed, F.go, fun f g hg => ?_, fun f g hg => ?_, fun f S hS => ?_, fun f n hn => ?_, fun f kk x hx => ?_⟩
  · rcases cs hg with ⟨_, h⟩ | h
    · cases h
    · exact F.fn f g h
  · rcases cs hg with ⟨_, h⟩ | h
    · cases h
    · exact F.hp f g h
  · rcases cs hS with ⟨ht, h⟩ | h
    · injection h with h; subst h; exact ⟨hb f ht, fun _ _ _ _ _ _ h => h⟩
    · exact F.tc f S h
  · rcases cs hn with ⟨_, h⟩ | h
    · cases h
    · exact F.mark f n h
  · rcases cs hx with ⟨_, h⟩ | h
    · cases h
    · exact F.ext f kk x h
def out (r : Out) : Option Value := match r with
  | some (v, s) => match s.ob with
    | [] => bif free v && Nat.ble s.n 1000000000 then some v else none
    | _ => none
  | none => none
end
end Ev
end Go.Proofs.YthfohmhipifiaaaGreat
namespace Go.Proofs.YthfohmhipifiaaaGreat
open Go.ChangeShapes Go.WideShapes Go.ChangeAt Go.RowKit
namespace Ev
section
variable {P : Program} {w : World} {r : Reach} {base : Nat}
theorem Ztg {u : TypeId} {k : IntKind} {c : Value} (hu : P.underlying u = some (.int k)) (h : Cell.okWide P w r base u c) : ∃ n, c = .int k n ∧ k.has n := by
 unfold Cell.okWide Cell.ok at h
 rw [hu] at h
 cases c <;> simp at h
 obtain ⟨rfl, h⟩ := h
 exact ⟨_, rfl, h⟩
theorem Zth {t : TypeId} {v : Value} (hu : (match P.underlying t with | some (.struct _) | some (.array _ _) => true | _ => false) = false) (h : Value.okWide P w r base t v) : Cell.okWide P w r base t v := by
 unfold Value.okWide at h
 split at h
 ·rename_i h1; rw [h1] at hu; cases hu
 ·rename_i h1; rw [h1] at hu; cases hu
 ·exact h
theorem okWide_slice {u e : TypeId} {c : Value} (hu : P.underlying u = some (.slice e)) (h : Cell.okWide P w r base u c) : c.oneCell' = true := by
 unfold Cell.okWide Cell.ok at h
 rw [hu] at h
 cases c <;> first | rfl | (simp at h)
def Z23 : Nat → List (Nat × Bool) → List (Option Bool)
 | _, [] => []
 | n, (i, b) :: l => List.replicate (i - n) none ++ (some b :: Z23 (i + 1) l)
def Z24 : Nat → List (Nat × Int) → List (Option Int)
 | _, [] => []
 | n, (i, b) :: l => List.replicate (i - n) none ++ (some b :: Z24 (i + 1) l)
def ZwE {α : Type} : Nat → List (Nat × α) → List (Option α)
 | _, [] => []
 | n, (i, b) :: l => List.replicate (i - n) none ++ (some b :: ZwE (i + 1) l)
def Za (b : List (Nat × Bool)) (v : List (Nat × Int)) (x : List (Nat × Nat)) (l : List (Nat × List Cell)) (w : List (Nat × Told)) : Orc := ⟨Z23 0 b, Z24 0 v, ZwE 0 x, ZwE 0 l, ZwE 0 w⟩
theorem Zb : ∀ p ∈ ([] : List (Bool × Bool)), p.1 = p.2 := by simp
theorem ZM {a b : Bool} {l : List (Bool × Bool)} (h : a = b) (hl : ∀ q ∈ l, q.1 = q.2) : ∀ q ∈ (a, b) :: l, q.1 = q.2 := by
 intro q hq
 rcases List.mem_cons.1 hq with rfl | hq
 ·exact h
 ·exact hl q hq
theorem Z3p {x : Int} (h : -9223372036854775808 ≤ x ∧ x < 9223372036854775808) : IntKind.i64.wrap x = x := by
 rw [IntKind.wrap_i64]
 omega
theorem Z1y {b : Int} (h : 0 ≤ b) : b = Int.ofNat b.toNat := (Int.toNat_of_nonneg h).symm
theorem Z3q {n m : Nat} (h : n < m) : Nat.blt n m = true := Nat.ble_eq_true_of_le h
end
end Ev
end Go.Proofs.YthfohmhipifiaaaGreat
namespace Go.Proofs.YthfohmhipifiaaaGreat
open Go.RowKit
namespace Ev
/-! ### Where a loop stands -/
def ZX : List Nat → Code → List ZD → Code × List ZD
  | [], .loop a, K => (a, K)
  | 0 :: p, .seq a b, K => ZX p a (.seq b :: K)
  | 1 :: p, .seq _ b, K => ZX p b K
  | 2 :: p, .scope a, K => ZX p a (.scp :: K)
  | 3 :: p, .block i a, K => ZX p a (.blk i :: K)
  | 4 :: p, .cond _ a _, K => ZX p a K
  | 5 :: p, .cond _ _ b, K => ZX p b K
  | (n + 6) :: p, .loop a, K => ZX p a (.rnd n :: K)
  | _, _, K => (.skip, K)
def Zaw (fn : Func) : Code := match fn.body with | some c => c | none => .skip
noncomputable section
def Zti (live : List Nat) (r : Option Stop) : Option (Value × List (Option AObj) × List (Bool × Bool)) :=
  match r with
  | some (.fin u s) => bif Nat.ble s.n 1000000000 then some (u, live.map s.h.get, s.ob) else none
  | _ => none
end
theorem ZyV {live : List Nat} {r : Option Stop} {u : Value} {bl : List (Option AObj)} {ob : List (Bool × Bool)} (h : Zti live r = some (u, bl, ob)) : ∃ s, r = some (.fin u s) ∧ live.map s.h.get = bl ∧ s.ob = ob ∧ s.n ≤ far := by
  unfold Zti at h
  split at h
  · rename_i u' s
    obtain ⟨hn, h⟩ := Zp h
    injection h with h
    simp only [Prod.mk.injEq] at h
    obtain ⟨rfl, rfl, rfl⟩ := h
    exact ⟨s, rfl, rfl, rfl, Nat.le_of_ble_eq_true hn⟩
  · cases h
def ZfX (ρ : Nat → Nat) : AObj → AObj → Prop
  | .ro O, .ro O' => O = O'
  | .ro O true, .ro O' true => O = O'
  | .cells c t, .cells c' t' => t = t' ∧ (∃ r, c.map (Za4 ρ 1) = c' ++ r) ∧ Z5 (Zap 1) c = true
  | .cells c t true, .cells c' t' true => t = t' ∧ c.map (Za4 ρ 1) = c' ∧ Z5 (Zap 1) c = true
  | _, _ => False
def ZS (ρ : Nat → Nat) : List (Option AObj) → List (Option AObj) → Prop
  | _, [] => True
  | some o :: bl, some p :: l => ZfX ρ o p ∧ ZS ρ bl l
  | _ :: bl, none :: l => ZS ρ bl l
  | _, _ => False
def Zdt (ρ : Nat → Nat) : List (Option Value) → List (Nat × Value) → Prop
  | _, [] => True
  | some u :: tv, x :: l => (x.2 = Za4 ρ 3 u ∧ Zap 3 u = true) ∧ Zdt ρ tv l
  | _, _ => False
theorem Zib {ρ : Nat → Nat} {h : AH} : ∀ {live : List Nat} {l : List (Option AObj)}, ZS ρ (live.map h) l → ∀ j o, lkO l j = some o → ∃ k, live[j]? = some k ∧ match o with
      | .ro O m => h k = some (.ro O m)
      | .cells c t q => ∃ c' r, h k = some (.cells c' t q) ∧ c'.map (Za4 ρ 1) = c ++ r ∧ (q = true → r = []) ∧ Z5 (Zap 1) c' = true
  | live, [], _, j, o, hj => by simp [lkO] at hj
  | [], x :: l, hb, j, o, hj => by cases x <;> exact hb.elim
  | k :: live, none :: l, hb, j, o, hj => by
    have hb' : ZS ρ (live.map h) l := by
      simp only [List.map_cons] at hb
      cases hk : h k <;> rw [hk] at hb <;> exact hb
    cases j with
    | zero => simp [lkO] at hj
    | succ j => obtain ⟨k', q1, q2⟩ := Zib hb' j o (by simpa [lkO] using hj); exact ⟨k', by simpa using q1, q2⟩
  | k :: live, some p :: l, hb, j, o, hj => by
    simp only [List.map_cons] at hb
    cases hk : h k with
    | none => rw [hk] at hb; exact hb.elim
    | some o1 =>
      rw [hk] at hb
      cases j with
      | zero =>
        have : p = o := by simpa [lkO] using hj
        subst this
        refine ⟨k, rfl, ?_⟩
        have h1 := hb.1
        cases o1 with
        | cells c1 t1 q1 =>
          cases p with
          | cells c2 t2 q2 =>
            cases q1 <;> cases q2
            · simp only [ZfX] at h1; obtain ⟨rfl, ⟨r, hr⟩, hs⟩ := h1; exact ⟨_, r, hk, hr, (fun e => by cases e), hs⟩
            · exact h1.elim
            · exact h1.elim
            · simp only [ZfX] at h1; obtain ⟨rfl, hr, hs⟩ := h1; exact ⟨_, [], hk, by rw [hr, List.append_nil], fun _ => rfl, hs⟩
          | ro O2 m2 => cases q1 <;> cases m2 <;> exact h1.elim
        | ro O1 m1 =>
          cases p with
          | cells c2 t2 q2 => cases m1 <;> cases q2 <;> exact h1.elim
          | ro O2 m2 =>
            cases m1 <;> cases m2
            · obtain rfl : O1 = O2 := h1; exact hk
            · exact h1.elim
            · exact h1.elim
            · obtain rfl : O1 = O2 := h1; exact hk
      | succ j => obtain ⟨k', q1, q2⟩ := Zib hb.2 j o (by simpa [lkO] using hj); exact ⟨k', by simpa using q1, q2⟩
theorem Zx0 {ρ : Nat → Nat} {T : Tr Value} : ∀ {l : List (Nat × Value)}, Zdt ρ ((l.map (·.1)).map T.get) l → ∀ t v, ZaL t l = some v → v = Za4 ρ 3 ((T.get t).getD undef) ∧ Zap 3 ((T.get t).getD undef) = true
  | [], _, t, v, h => by cases h
  | x :: l, ht, t, v, h => by
    simp only [List.map_cons] at ht
    cases hx : T.get x.1 with
    | none => rw [hx] at ht; exact ht.elim
    | some u =>
      rw [hx] at ht
      unfold ZaL at h
      cases hb : Nat.beq x.1 t with
      | true =>
        rw [hb] at h
        injection h with h
        obtain rfl := Nat.eq_of_beq_eq_true hb
        subst h
        rw [hx]
        exact ht.1
      | false => rw [hb] at h; exact Zx0 ht.2 t v h
section
variable {P : Program} {ext : FuncId → Option Ext}
end
/-! ### Rows of numbers -/
theorem Z2m {a b : Int} (h : 0 ≤ a) : Int.tmod a b = a % b := Int.tmod_eq_emod_of_nonneg h
theorem Z2n {a b : Int} (h : 0 ≤ a) : Int.tdiv a b = a / b := Int.tdiv_eq_ediv_of_nonneg h
theorem wrap_i64 {x : Int} (h : -9223372036854775808 ≤ x ∧ x ≤ 9223372036854775807) : IntKind.i64.wrap x = x := Z3p (by omega)
theorem Zn1 {x : Int} (h : 0 ≤ x ∧ x ≤ 18446744073709551615) : IntKind.u64.wrap x = x := by
  have e : IntKind.u64.wrap x = x % 18446744073709551616 := by simp [IntKind.wrap, IntKind.bits, IntKind.signed]
  rw [e]; omega
theorem Z0 {k o o' n n' c c' : Nat} (h1 : o = o') (h2 : n = n') (h3 : c = c') : Value.slice (some ⟨k, o, none⟩) n c = .slice (some ⟨k, o', none⟩) n' c' := by rw [h1, h2, h3]
theorem Zf {α : Type} {a b : α} {l r : List α} (h : a = b) (t : l = r) : a :: l = b :: r := by rw [h, t]
theorem Zb3 {l r : List Value} (h : l = r) : Value.agg l.toArray = .agg r.toArray := by rw [h]
theorem Za7 {l r : List Value} (h : l = r) : Value.tuple l.toArray = .tuple r.toArray := by rw [h]
/-! ### Rows of bools -/
/-! ### Rows of the caller's -/
section
variable {P : Program} {ext : FuncId → Option Ext}
def preL (κ : List Nat) (n : Nat) (pre : List AObj) : List (Nat × AObj) := κ.zip (pre.map (Zin (kap κ n)))
def Z0A (κ : List Nat) (n : Nat) (ch : List Nat) (post : List (Option AObj)) : List (Nat × Option AObj) := ch.map fun j => (kap κ n j, (lkO post j).map (Zin (kap κ n)))
def Zn2 (m : Nat) : List AObj → Prop
 | [] => True
 | o :: l => Zj0 m o = true ∧ Zn2 m l
def Zj1 (m : Nat) : List (Option AObj) → Prop
 | [] => True
 | some o :: l => Zj0 m o = true ∧ Zj1 m l
 | none :: l => Zj1 m l
theorem Zv0 {m : Nat} : ∀ {l : List AObj}, Zn2 m l → ∀ o ∈ l, Zj0 m o = true
 | x :: l, h, o, ho => by
  rcases List.mem_cons.1 ho with rfl | ho
  ·exact h.1
  ·exact Zv0 h.2 o ho
theorem Zn3 {m : Nat} : ∀ {l : List (Option AObj)}, Zj1 m l → ∀ o, some o ∈ l → Zj0 m o = true
 | some x :: l, h, o, ho => by
  rcases List.mem_cons.1 ho with e | ho
  ·injection e with e; subst e; exact h.1
  ·exact Zn3 h.2 o ho
 | none :: l, h, o, ho => by
  rcases List.mem_cons.1 ho with e | ho
  ·cases e
  ·exact Zn3 (l := l) h o ho
def Zx1 (ch : List Nat) : Nat → List AObj → List (Option AObj) → Prop
 | _, _, [] => True
 | j, o :: l, p :: r => (j ∈ ch ∨ p = some o) ∧ Zx1 ch (j + 1) l r
 | j, [], _ :: r => j ∈ ch ∧ Zx1 ch (j + 1) [] r
theorem Zuo {ch : List Nat} : ∀ {l : List AObj} {r : List (Option AObj)} {j : Nat}, Zx1 ch j l r → ∀ i, i < r.length → j + i ∈ ch ∨ (i < l.length ∧ r[i]? = some l[i]?)
 | o :: l, p :: r, j, h, 0, _ => by
  rcases h.1 with h | h
  ·exact .inl h
  ·exact .inr ⟨by simp, by simp [h]⟩
 | o :: l, p :: r, j, h, i + 1, hi => by
  rcases Zuo h.2 i (by simpa using hi) with q | ⟨q1, q2⟩
  ·exact .inl (by rwa [show j + (i + 1) = j + 1 + i by omega])
  ·exact .inr ⟨by simpa using q1, by simpa using q2⟩
 | [], p :: r, j, h, 0, _ => .inl h.1
 | [], p :: r, j, h, i + 1, hi => by
  rcases Zuo h.2 i (by simpa using hi) with q | ⟨q1, q2⟩
  ·exact .inl (by rwa [show j + (i + 1) = j + 1 + i by omega])
  ·simp at q1
theorem Zx2 {α : Type} {k : Nat} {x : α} : ∀ {ks : List Nat} {l : List α} {j : Nat}, ks.Nodup → ks[j]? = some k → l[j]? = some x → ZaL k (ks.zip l) = some x
 | a :: ks, b :: l, 0, _, h1, h2 => by
  simp at h1 h2
  subst h1 h2
  simp [ZaL]
 | a :: ks, b :: l, j + 1, hn, h1, h2 => by
  have hm : k ∈ ks := List.mem_of_getElem? (by simpa using h1)
  have hne : a ≠ k := fun e => by subst e; exact (List.nodup_cons.1 hn).1 hm
  show ZaL k ((a, b) :: ks.zip l) = _
  unfold ZaL
  rw [Zik hne]
  exact Zx2 (List.nodup_cons.1 hn).2 (by simpa using h1) (by simpa using h2)
 | [], _, j, _, h1, _ => by simp at h1
 | a :: ks, [], j, _, _, h2 => by simp at h2
theorem Zx3 {f : Nat → Nat} {g : Nat → Option AObj} (hf : ∀ i j, f i = f j → i = j) (j : Nat) : ∀ ch : List Nat, ZaL (f j) (ch.map fun i => (f i, g i)) = if j ∈ ch then some (g j) else none
 | [] => rfl
 | a :: ch => by
  show ZaL (f j) ((f a, g a) :: ch.map fun i => (f i, g i)) = _
  unfold ZaL
  by_cases h : a = j
  ·subst h; rw [ZkF rfl]; simp
  ·rw [Zik (fun e => h (hf _ _ e)), cond_false, Zx3 hf j ch]
   simp [show ¬ j = a from fun e => h e.symm]
theorem LSpec.callL {f : FuncId} {A : Array Value} {pre : List AObj} {v : Value} {post : List (Option AObj)} (h : LSpec P f A pre v post) (κ : List Nat) (n : Nat) (ch : List Nat) (hκ : κ.length = pre.length) (hnd : κ.Nodup) (hlt : ∀ k ∈ κ, k < n) (hle : pre.length ≤ post.length) (hch : ∀ j ∈ ch, j < post.length)
  (hA : Z5 (Zbd pre.length 3) A.toList = true) (hpre : Zn2 pre.length pre) (hv : (Zbd post.length 3 v || Zc9 v) = true) (hpost : Zj1 post.length post) (hk : Zx1 ch 0 pre post)
  {A' : Array Value} {pre' : List (Nat × AObj)} {v' : Value} {post' : List (Nat × Option AObj)} {dn : Nat} (eA : A' = Zhn (Za4 (kap κ n) 3) A) (ev : v' = Za4 (kap κ n) 3 v) (edn : pre.length + dn = post.length) (ep : pre' = preL κ n pre) (eq : post' = Z0A κ n ch post) : ZcD P f A' pre' v' post' n dn := by
 have kl : ∀ j, j < pre.length → κ[j]? = some (kap κ n j) := fun j hj => Ztf (by omega)
 have kn : ∀ j, j < pre.length → kap κ n j < n := fun j hj => hlt _ (List.mem_of_getElem? (kl j hj))
 have kg : ∀ j, pre.length ≤ j → kap κ n j = n + (j - pre.length) := fun j hj => by rw [← hκ]; exact Z1w (by omega)
 have kinj : ∀ i j, kap κ n i = kap κ n j → i = j := fun i j hij => by
  rcases Nat.lt_or_ge i pre.length with h1 | h1 <;> rcases Nat.lt_or_ge j pre.length with h2 | h2
  ·have a := kl i h1
   have b := kl j h2
   rw [hij, ← b] at a
   exact (List.getElem?_inj (by omega) hnd).1 a
  ·have := kn i h1; rw [hij, kg j h2] at this; omega
  ·have := kn j h2; rw [← hij, kg i h1] at this; omega
  ·rw [kg i h1, kg j h2] at hij; omega
 have lp : ∀ j o, pre[j]? = some o → ZaL (kap κ n j) pre' = some (Zin (kap κ n) o) := fun j o ho => by
  subst ep
  have hj : j < pre.length := (List.getElem?_eq_some_iff.1 ho).1
  exact Zx2 hnd (kl j hj) (by rw [List.getElem?_map, ho]; rfl)
 have ip : ∀ k o, ZaL k pre' = some o → ∃ j, j < pre.length ∧ k = kap κ n j := fun k o ho => by
  subst ep
  obtain ⟨j, hj1, hj2⟩ := List.getElem_of_mem (List.of_mem_zip (ZkJ ho)).1
  have hj : j < pre.length := by omega
  refine ⟨j, hj, ?_⟩
  have := kl j hj
  rw [List.getElem?_eq_getElem hj1, hj2] at this
  exact Option.some.inj this
 have lq : ∀ j, ZaL (kap κ n j) post' = if j ∈ ch then some ((lkO post j).map (Zin (kap κ n))) else none := fun j => by
  subst eq
  exact Zx3 (g := fun j => (lkO post j).map (Zin (kap κ n))) kinj j ch
 refine h.call κ n hκ hnd hlt hle hA (Zv0 hpre) hv (Zn3 hpost) eA ev edn lp ip (fun j hj => ?_) (fun k o ho => ?_)
 ·unfold behind
  rw [lq j]
  rcases Zuo hk j hj with hc | ⟨h1, h2⟩
  ·rw [Nat.zero_add] at hc
   rw [if_pos hc]
  ·by_cases hc : j ∈ ch
   ·rw [if_pos hc]
   ·rw [if_neg hc]
    have ho : pre[j]? = some pre[j] := List.getElem?_eq_getElem h1
    show ZaL (kap κ n j) pre' = _
    rw [lp j _ ho]
    simp [lkO, h2, ho]
 ·unfold behind at ho
  split at ho
  ·rename_i o' hl
   subst eq
   have := ZkJ hl
   unfold Z0A at this
   obtain ⟨j, hj, he⟩ := List.mem_map.1 this
   injection he with h1 h2
   exact ⟨j, hch j hj, h1.symm⟩
  ·obtain ⟨j, hj, hk⟩ := ip k o ho
   exact ⟨j, by omega, hk⟩
end
theorem Zky {α β : Type} {a a' : α} {b b' : β} (h : a = a') (k : b = b') : (a, b) = (a', b') := by rw [h, k]
theorem ZzO {α : Type} {a a' : α} (h : a = a') : some a = some a' := by rw [h]
theorem ZdG {l r : List Value} (h : l = r) : l.toArray = r.toArray := by rw [h]
section
variable {P : Program} {ext : FuncId → Option Ext}
variable {fn : Func} {pre : List AObj} {v : Value} {po : List (Option AObj)} {X : Type} {m i : Nat} {L : X → List (Nat × Value)} {H : X → List AObj} {μ : X → Nat} {bd : X → List Nat} {Gb : List Nat → Ren → World → (Nat → Act → World → Prop) → Prop} {x : X} {c : Code} {K : List ZD} {T0 : Tr Value} {fu : Nat} {orc : Orc} {live : List Nat} {bl : List (Option AObj)} {ob : List (Bool × Bool)}
end
/-! ### A law -/
theorem Z3r (P : Program) {w : World} (ht : TabW w) : Emb P (ιMk w) (lk []) w := by
 rw [show lk [] = fun _ => none from funext fun k => by simp [lk]]
 exact Z2J P ht
theorem Z2o {v : Value} (h : free v = true) : Zc9 v = false := by
 cases hz : Zc9 v with
 | false => rfl
 | true =>
  unfold Zc9 at hz
  split at hz
  ·simp only [free, Zbv, atom] at h
   simp [h] at hz
  ·cases hz
theorem Z3s {P : Program} {f : FuncId} {A : Array Value} {post : List (Option AObj)} {v : Value} (h : LSpec P f A [] v post) {w : World} {args' : Array Value} (ha : VRs (ιMk w) A args') (hv : free v = true) (ht : TabW w := by first | assumption | (intro x hx; cases hx; done)) : Calls P f args' w (Ret v w) := by
 refine (h (ιMk w) w args' (fun k hk => ?_) ha (Z3r P ht)).mono ?_
 ·cases hq : ιMk w k with
  | none => exact absurd hq hk
  | some q =>
   obtain ⟨b, base, id, rfl, _⟩ := ιMk_inv hq
   exact .inr (Zkx b base id)
 ·rintro e w' (⟨v', ι', rfl, hS, _, hvr⟩ | ⟨ht, _⟩)
  rotate_left
  ·rw [Z2o hv] at ht; cases ht
  have := hvr.eq_of_free hv
  subst this
  exact ⟨rfl, hS.os, hS.tape, hS.output, hS.size, fun b hb => hS.frame b hb fun k c hk => by cases hk⟩
end Ev
end Go.Proofs.YthfohmhipifiaaaGreat
/- Arguments that are slices of structs of ints, opened, over any program. -/
namespace Go.Proofs.YthfohmhipifiaaaGreat
open Go.ChangeShapes Go.WideShapes Go.ChangeAt Go.RowKit Go.Deep
section
variable {H : Type} {enc : TypeId × Value → H} {P : Program} {w : World}

end
end Go.Proofs.YthfohmhipifiaaaGreat
/- Arguments that are rows of numbers: blocks of the caller's, that are read alone. -/
namespace Go.Proofs.YthfohmhipifiaaaGreat
open Go.ChangeShapes Go.WideShapes Go.ChangeAt Go.RowKit
namespace Ev
section
variable {P : Program} {w : World}
theorem ZnU {b o : Nat} {v : Value} (h : w.cell? ⟨b, o, none⟩ = some v) : ∃ C t fr, w.heap[b]? = some (.cells C t fr) ∧ C[o]? = some v := by
 unfold World.cell? at h
 split at h
 ·rename_i c e fr hb
  split at h
  ·cases h
  ·exact ⟨c, e, fr, hb, h⟩
 ·cases h
end
inductive StopC where
 | fin (v : Value) (s : St)
 | head (a : Code) (K : List ZD) (T : Tr Value) (s : St)
 | next (i : Nat) (T : Tr Value) (s : St)
 | cut (b : Code) (K : List ZD) (T : Tr Value) (s : St)
 | thr (u : Value) (s : St)
noncomputable section
def StopC.s : StopC → St
 | .fin _ s => s
 | .head _ _ _ s => s
 | .next _ _ s => s
 | .cut _ _ _ s => s
 | .thr _ s => s
def Zx4 (s : St) : Option Value → Option StopC
 | some v => some (.fin v s)
 | none => none
def Zx5 : Option (Value × Tr Value × St) → Option StopC
 | some (u, _, s) => bif Zc9 u then some (.thr u s) else none
 | none => none
def Z1z (P : Program) (fn : Func) (e : Ex) (T : Tr Value) (s : St) : Option StopC :=
 match e with
 | .exit _ => none
 | .normal => Zx4 s (Z03 P fn T s)
 | .ret => Zx4 s (Z03 P fn T s)
mutual
def ZeE (P : Program) (ext : FuncId → Option Ext) (fn : Func) (nt cd : Nat) : Nat → Nat → Code → List ZD → Tr Value → St → Option StopC
 | 0, _, _, _, _, _ => none
 | fu + 1, cm, c, K, T, s => match c with
  | .seq a b => ZeE P ext fn nt cd fu cm a (.seq b :: K) T s
  | .scope a => ZeE P ext fn nt cd fu cm a (.scp :: K) T s
  | .block id a => ZeE P ext fn nt cd fu cm a (.blk id :: K) T s
  | .cond x a b => match opnd T x with
   | .bool t => match t with
    | true => ZeE P ext fn nt cd fu cm a K T s
    | false => ZeE P ext fn nt cd fu cm b K T s
   | _ => none
  | .loop a => some (.head a K T s)
  | c => match Zbl P ext nt fu c T s with
   | some (e, T', s') => ZcV P ext fn nt cd fu cm K e T' s'
   | none => Zx5 (ZbP P ext nt (Zfl P ext fu) fu c T s)
termination_by structural fu _ _ _ _ _ => fu
def ZcV (P : Program) (ext : FuncId → Option Ext) (fn : Func) (nt cd : Nat) : Nat → Nat → List ZD → Ex → Tr Value → St → Option StopC
 | 0, _, _, _, _, _ => none
 | fu + 1, cm, K, e, T, s => match K with
  | [] => Z1z P fn e T s
  | .seq b :: K => match e with
   | .normal => match Nat.beq K.length cd with
    | false => ZeE P ext fn nt cd fu cm b K T s
    | true => match cm with
     | 0 => some (.cut b K T s)
     | m + 1 => ZeE P ext fn nt cd fu m b K T s
   | .exit i => ZcV P ext fn nt cd fu cm K (.exit i) T s
   | .ret => ZcV P ext fn nt cd fu cm K .ret T s
  | .blk id :: K => match e with
   | .exit i => bif Nat.beq i id then ZcV P ext fn nt cd fu cm K .normal T s else ZcV P ext fn nt cd fu cm K (.exit i) T s
   | .normal => ZcV P ext fn nt cd fu cm K .normal T s
   | .ret => ZcV P ext fn nt cd fu cm K .ret T s
  | .scp :: K => ZcV P ext fn nt cd fu cm K e T s
  | .rnd i :: K => match e with
   | .normal => some (.next i T s)
   | .exit j => ZcV P ext fn nt cd fu cm K (.exit j) T s
   | .ret => ZcV P ext fn nt cd fu cm K .ret T s
termination_by structural fu _ _ _ _ _ => fu
end
end
section
variable {P : Program} {ext : FuncId → Option Ext}
theorem Zx6 {s : St} {o : Option Value} {st : StopC} (h : Zx4 s o = some st) : ∃ v, st = .fin v s ∧ o = some v := by
 cases o with
 | none => cases h
 | some v => injection h with h; exact ⟨v, h.symm, rfl⟩
theorem Zx7 {fn : Func} {e : Ex} {T : Tr Value} {s : St} {st : StopC} (h : Z1z P fn e T s = some st) : ∃ v, st = .fin v s ∧ (match e with | .exit _ => False | _ => True) ∧ (match Zdr P T s fn.results.toList with | some [v] => some v | some vs => some (.tuple vs.toArray) | none => none) = some v := by
 cases e with
 | exit i => cases h
 | normal => obtain ⟨v, h1, h2⟩ := Zx6 h; exact ⟨v, h1, trivial, h2⟩
 | ret => obtain ⟨v, h1, h2⟩ := Zx6 h; exact ⟨v, h1, trivial, h2⟩
theorem Zv1 {o : Option (Value × Tr Value × St)} {st : StopC} (h : Zx5 o = some st) : ∃ u T s, o = some (u, T, s) ∧ Zc9 u = true ∧ st = .thr u s := by
 unfold Zx5 at h
 split at h
 ·rename_i u T s
  obtain ⟨h1, h2⟩ := Zp h
  injection h2 with h2
  exact ⟨u, T, s, rfl, h1, h2.symm⟩
 ·cases h
theorem Zx8 (F : Fit P ext) {fn : Func} {nt cd : Nat} : ∀ fu : Nat, (∀ cm c K T s st, ZeE P ext fn nt cd fu cm c K T s = some st → Up s st.s) ∧ (∀ cm K e T s st, ZcV P ext fn nt cd fu cm K e T s = some st → Up s st.s) := by
 intro fu
 induction fu with
 | zero => exact ⟨fun _ _ _ _ _ _ h => by simp [ZeE] at h, fun _ _ _ _ _ _ h => by simp [ZcV] at h⟩
 | succ fu ih =>
  obtain ⟨ihT, ihB⟩ := ih
  have other : ∀ cm c K T s st, (match Zbl P ext nt fu c T s with | some (e, T', s') => ZcV P ext fn nt cd fu cm K e T' s' | none => Zx5 (ZbP P ext nt (Zfl P ext fu) fu c T s)) = some st → Up s st.s := fun cm c K T s st h => by
   split at h
   ·exact ((ZfL (P := P) (ext := ext) (fun f g hg => (F.hp f g hg).up) fu).1 _ _ _ _ _ _ _ (by assumption)).trans (ihB _ _ _ _ _ _ h)
   ·obtain ⟨u, T', s', hx, _, rfl⟩ := Zv1 h
    exact ZkL F (Z05 F fu) fu _ _ _ _ _ _ hx
  refine ⟨fun cm c K T s st h => ?_, fun cm K e T s st h => ?_⟩
  ·cases c <;> simp only [ZeE] at h
   case seq a b => exact ihT _ _ _ _ _ _ h
   case scope a => exact ihT _ _ _ _ _ _ h
   case block id a => exact ihT _ _ _ _ _ _ h
   case cond x a b =>
    split at h
    ·split at h
     ·exact ihT _ _ _ _ _ _ h
     ·exact ihT _ _ _ _ _ _ h
    ·cases h
   case loop a => injection h with h; subst h; exact Up.refl _
   all_goals exact other _ _ _ _ _ _ h
  ·cases K with
   | nil => simp only [ZcV] at h; obtain ⟨v, rfl, _⟩ := Zx7 h; exact Up.refl _
   | cons k K =>
    cases k <;> simp only [ZcV] at h
    ·cases e <;> simp only at h
     ·split at h
      ·exact ihT _ _ _ _ _ _ h
      ·split at h
       ·injection h with h; subst h; exact Up.refl _
       ·exact ihT _ _ _ _ _ _ h
     ·exact ihB _ _ _ _ _ _ h
     ·exact ihB _ _ _ _ _ _ h
    ·cases e <;> simp only at h
     ·exact ihB _ _ _ _ _ _ h
     ·rename_i id i
      cases hb : Nat.beq i id <;> rw [hb] at h <;> exact ihB _ _ _ _ _ _ h
     ·exact ihB _ _ _ _ _ _ h
    ·exact ihB _ _ _ _ _ _ h
    ·cases e <;> simp only at h
     ·injection h with h; subst h; exact Up.refl _
     ·exact ihB _ _ _ _ _ _ h
     ·exact ihB _ _ _ _ _ _ h
def Zps (P : Program) (fn : Func) (R : Ending → World → Prop) (Nx : Nat → Act → World → Prop) (nt : Nat) (ι : Ren) (a : Act) (w : World) : StopC → Prop
 | .fin v _ => ∀ v', VR ι v v' → R (.returned v') w
 | .head b K T _ => TR ι nt [] T a → (Code.loop b).wp P (post P fn R Nx K) a w
 | .next i T _ => TR ι nt [] T a → Nx i a w
 | .cut b K T _ => TR ι nt [] T a → b.wp P (post P fn R Nx K) a w
 | .thr u _ => Zc9 u = true → R (.panicked (ZgY u)) w
theorem Zip {fn : Func} {R : Ending → World → Prop} {Nx : Nat → Act → World → Prop} {ch : List PanicEntry} {a : Act} {w : World} (ha : a.defers = []) (h : R (.panicked ch) w) : ∀ K : List ZD, post P fn R Nx K (.panic ch) a w
 | [] => ⟨ha, h⟩
 | .seq b :: K => Zip ha h K
 | .blk id :: K => Zip ha h K
 | .scp :: K => Zip ha h K
 | .rnd i :: K => Zip ha h K
theorem Zv2 (F : Fit P ext) {fn : Func} {nt cd : Nat} {R : Ending → World → Prop} {Nx : Nat → Act → World → Prop} : ∀ fu : Nat,
  (∀ cm c K T s st, ZeE P ext fn nt cd fu cm c K T s = some st → (∀ p ∈ st.s.ob, p.1 = p.2) → ∀ ι a w, TR ι nt [] T a → Emb P ι s.h.get w → Fresh ι s.n st.s.n →
   (∀ ι' a' w', Step P ι s.h.get w ι' st.s.h.get w' → Dom ι ι' s.n st.s.n → Zps P fn R Nx nt ι' a' w' st) → c.wp P (post P fn R Nx K) a w) ∧
  (∀ cm K e T s st, ZcV P ext fn nt cd fu cm K e T s = some st → (∀ p ∈ st.s.ob, p.1 = p.2) → ∀ ι a w, TR ι nt [] T a → Emb P ι s.h.get w → Fresh ι s.n st.s.n →
   (∀ ι' a' w', Step P ι s.h.get w ι' st.s.h.get w' → Dom ι ι' s.n st.s.n → Zps P fn R Nx nt ι' a' w' st) → post P fn R Nx K e.out a w) := by
 intro fu
 induction fu with
 | zero => exact ⟨fun _ _ _ _ _ _ h => by simp [ZeE] at h, fun _ _ _ _ _ _ h => by simp [ZcV] at h⟩
 | succ fu ih =>
  obtain ⟨ihT, ihB⟩ := ih
  have other : ∀ cm c K T s st, (match Zbl P ext nt fu c T s with | some (e, T', s') => ZcV P ext fn nt cd fu cm K e T' s' | none => Zx5 (ZbP P ext nt (Zfl P ext fu) fu c T s)) = some st → (∀ p ∈ st.s.ob, p.1 = p.2) → ∀ ι a w, TR ι nt [] T a → Emb P ι s.h.get w → Fresh ι s.n st.s.n →
   (∀ ι' a' w', Step P ι s.h.get w ι' st.s.h.get w' → Dom ι ι' s.n st.s.n → Zps P fn R Nx nt ι' a' w' st) → c.wp P (post P fn R Nx K) a w := fun cm c K T s st h ho ι a w hT he hf hQ => by
   split at h
   ·rename_i e T1 s1 h1
    have u1 := (ZfL (P := P) (ext := ext) (fun f g hg => (F.hp f g hg).up) fu).1 _ _ _ _ _ _ _ h1
    have u2 := (Zx8 F (fn := fn) (nt := nt) fu).2 _ _ _ _ _ _ h
    refine wp_mono (Z21 F h1 (Zd9 u2.ob ho) hT he (hf.mono (Nat.le_refl _) u2.n)) ?_
    rintro ex a1 w1 ⟨rfl, ι1, g1, g2, g3⟩
    exact ihB _ K e T1 s1 st h ho ι1 a1 w1 g3 g1.emb (hf.after g2 u1.n) fun ι' a' w' k1 k2 => hQ ι' a' w' (g1.trans k1) (g2.trans k2 u1.n u2.n)
   ·obtain ⟨u, T', s', hx, ht, rfl⟩ := Zv1 h
    refine wp_mono ((Z1t F (Z05 F fu) fu).1 c T s u T' s' hx ho ι [] a w hT he hf) ?_
    rintro ex a1 w1 ⟨ι1, rfl, g1, g2, g3⟩
    exact Zip g3.2.1 (hQ ι1 a1 w1 g1 g2 ht) K
  refine ⟨fun cm c K T s st h ho ι a w hT he hf hQ => ?_, fun cm K e T s st h ho ι a w hT he hf hQ => ?_⟩
  ·have h0 := h
   cases c <;> simp only [ZeE] at h
   case seq x y => exact wp_seq (ihT _ x (.seq y :: K) T s st h ho ι a w hT he hf hQ)
   case scope x => exact wp_scope_straight (ihT _ x (.scp :: K) T s st h ho ι a w hT he hf hQ)
   case block id x => exact wp_block (ihT _ x (.blk id :: K) T s st h ho ι a w hT he hf hQ)
   case cond x y z =>
    split at h
    ·rename_i t ht
     have hx : a.eval x = .bool t := Zkl ((ht ▸ hT.opnd x : VR ι (.bool t) (ZeD a x)).bool_inv)
     split at h
     ·exact wp_cond_true hx (ihT _ y K T s st h ho ι a w hT he hf hQ)
     ·exact wp_cond_false hx (ihT _ z K T s st h ho ι a w hT he hf hQ)
    ·cases h
   case loop x =>
    injection h with h
    subst h
    exact hQ ι a w (Step.refl he) Dom.refl hT
   all_goals exact other _ _ K T s st h ho ι a w hT he hf hQ
  ·cases K with
   | nil =>
    simp only [ZcV] at h
    obtain ⟨v, rfl, hne, hr⟩ := Zx7 h
    obtain ⟨v', hrun, hv⟩ := Zma hT he hr
    have := hQ ι a w (Step.refl he) Dom.refl v' hv
    cases e with
    | normal => exact ⟨hT.2.1, v', hrun, this⟩
    | ret => exact ⟨hT.2.1, v', hrun, this⟩
    | exit i => exact hne.elim
   | cons k K =>
    cases k with
    | seq b =>
     simp only [ZcV] at h
     cases e with
     | normal =>
      simp only at h
      split at h
      ·exact ihT _ b K T s st h ho ι a w hT he hf hQ
      ·split at h
       ·injection h with h
        subst h
        exact hQ ι a w (Step.refl he) Dom.refl hT
       ·exact ihT _ b K T s st h ho ι a w hT he hf hQ
     | exit i => exact ihB _ K (.exit i) T s st h ho ι a w hT he hf hQ
     | ret => exact ihB _ K .ret T s st h ho ι a w hT he hf hQ
    | blk id =>
     simp only [ZcV] at h
     cases e with
     | normal => exact ihB _ K .normal T s st h ho ι a w hT he hf hQ
     | ret => exact ihB _ K .ret T s st h ho ι a w hT he hf hQ
     | exit i =>
      simp only at h
      show if i = id then _ else _
      cases hb : Nat.beq i id with
      | true =>
       rw [hb] at h
       rw [if_pos (Nat.eq_of_beq_eq_true hb)]
       exact ihB _ K .normal T s st h ho ι a w hT he hf hQ
      | false =>
       rw [hb] at h
       rw [if_neg (fun e => by rw [ZkF e] at hb; cases hb)]
       exact ihB _ K (.exit i) T s st h ho ι a w hT he hf hQ
    | scp =>
     simp only [ZcV] at h
     have := ihB _ K e T s st h ho ι a w hT he hf hQ
     cases e <;> exact this
    | rnd i =>
     simp only [ZcV] at h
     cases e with
     | normal =>
      injection h with h
      subst h
      exact hQ ι a w (Step.refl he) Dom.refl hT
     | exit j => exact ihB _ K (.exit j) T s st h ho ι a w hT he hf hQ
     | ret => exact ihB _ K .ret T s st h ho ι a w hT he hf hQ
end
noncomputable section
def Zkz (live : List Nat) (r : Option StopC) : Option (Value × List (Option AObj) × List (Bool × Bool)) :=
 match r with
 | some (.fin u s) => bif Nat.ble s.n 500000000 then some (u, live.map s.h.get, s.ob) else none
 | _ => none
def Zn4 (i : Nat) (live temps : List Nat) (r : Option StopC) : Option (List (Option Value) × List (Option AObj) × List (Bool × Bool)) :=
 match r with
 | some (.next j T s) => bif Nat.beq j i && Nat.ble s.n 500000000 then some (temps.map T.get, live.map s.h.get, s.ob) else none
 | _ => none
def ZhE (live temps : List Nat) (r : Option StopC) : Option ((Code × List ZD) × List (Option Value) × List (Option AObj) × List (Bool × Bool)) :=
 match r with
 | some (.head b K T s) => bif Nat.ble s.n 500000000 then some ((b, K), temps.map T.get, live.map s.h.get, s.ob) else none
 | _ => none
def Ztj (live temps : List Nat) (r : Option StopC) : Option ((Code × List ZD) × List (Option Value) × List (Option AObj) × List (Bool × Bool)) :=
 match r with
 | some (.cut b K T s) => bif Nat.ble s.n 500000000 then some ((b, K), temps.map T.get, live.map s.h.get, s.ob) else none
 | _ => none
end
theorem Zpt {live : List Nat} {r : Option StopC} {u : Value} {bl : List (Option AObj)} {ob : List (Bool × Bool)} (h : Zkz live r = some (u, bl, ob)) : ∃ s, r = some (.fin u s) ∧ live.map s.h.get = bl ∧ s.ob = ob ∧ s.n ≤ 500000000 := by
 unfold Zkz at h
 split at h
 ·rename_i u' s
  obtain ⟨hn, h⟩ := Zp h
  injection h with h
  simp only [Prod.mk.injEq] at h
  obtain ⟨rfl, rfl, rfl⟩ := h
  exact ⟨s, rfl, rfl, rfl, Nat.le_of_ble_eq_true hn⟩
 ·cases h
theorem ZvI {i : Nat} {live temps : List Nat} {r : Option StopC} {tv : List (Option Value)} {bl : List (Option AObj)} {ob : List (Bool × Bool)} (h : Zn4 i live temps r = some (tv, bl, ob)) : ∃ T s, r = some (.next i T s) ∧ temps.map T.get = tv ∧ live.map s.h.get = bl ∧ s.ob = ob ∧ s.n ≤ 500000000 := by
 unfold Zn4 at h
 split at h
 ·rename_i j T s
  obtain ⟨hn, h⟩ := Zp h
  simp only [Bool.and_eq_true] at hn
  injection h with h
  simp only [Prod.mk.injEq] at h
  obtain ⟨rfl, rfl, rfl⟩ := h
  exact ⟨T, s, by rw [Nat.eq_of_beq_eq_true hn.1], rfl, rfl, rfl, Nat.le_of_ble_eq_true hn.2⟩
 ·cases h
theorem ZjB {live temps : List Nat} {r : Option StopC} {bK : Code × List ZD} {tv : List (Option Value)} {bl : List (Option AObj)} {ob : List (Bool × Bool)} (h : ZhE live temps r = some (bK, tv, bl, ob)) : ∃ T s, r = some (.head bK.1 bK.2 T s) ∧ temps.map T.get = tv ∧ live.map s.h.get = bl ∧ s.ob = ob ∧ s.n ≤ 500000000 := by
 unfold ZhE at h
 split at h
 ·rename_i b K T s
  obtain ⟨hn, h⟩ := Zp h
  injection h with h
  simp only [Prod.mk.injEq] at h
  obtain ⟨rfl, rfl, rfl, rfl⟩ := h
  exact ⟨T, s, rfl, rfl, rfl, rfl, Nat.le_of_ble_eq_true hn⟩
 ·cases h
theorem ZyW {live temps : List Nat} {r : Option StopC} {bK : Code × List ZD} {tv : List (Option Value)} {bl : List (Option AObj)} {ob : List (Bool × Bool)} (h : Ztj live temps r = some (bK, tv, bl, ob)) : ∃ T s, r = some (.cut bK.1 bK.2 T s) ∧ temps.map T.get = tv ∧ live.map s.h.get = bl ∧ s.ob = ob ∧ s.n ≤ 500000000 := by
 unfold Ztj at h
 split at h
 ·rename_i b K T s
  obtain ⟨hn, h⟩ := Zp h
  injection h with h
  simp only [Prod.mk.injEq] at h
  obtain ⟨rfl, rfl, rfl, rfl⟩ := h
  exact ⟨T, s, rfl, rfl, rfl, rfl, Nat.le_of_ble_eq_true hn⟩
 ·cases h
section
variable {P : Program} {ext : FuncId → Option Ext}
theorem Z10 (F : Fit P ext) {f : FuncId} {fn : Func} {c : Code} (hfn : P.funcs[f]? = some fn) (hb : fn.body = some c) {A : Array Value} {pre : List AObj} {v : Value} {post : List (Option AObj)} (hA : Nat.ble A.size fn.ntmps = true) {fu : Nat} {orc : Orc} {cd cm : Nat} {st : StopC}
  (hev : ZeE P ext fn fn.ntmps cd fu cm c [] (ZgX 0 A.toList .nil) ⟨Zh4 0 pre, pre.length, [], orc, []⟩ = some st) (ho : ∀ p ∈ st.s.ob, p.1 = p.2) (hn : st.s.n ≤ far)
  (hto : ∀ ι0 w0, (∀ k, ι0 k ≠ none → k < pre.length ∨ ZcP k) → ∀ ι' a' w', Step P ι0 (lk pre) w0 ι' st.s.h.get w' → Dom ι0 ι' pre.length st.s.n → Zps P fn (Fin P ι0 pre w0 v post) (fun _ _ _ => False) fn.ntmps ι' a' w' st) : LSpec P f A pre v post := by
 intro ι w args' hd ha he
 refine calls_of_wp hfn hb ?_
 have := (Zv2 F (R := Fin P ι pre w v post) (Nx := fun _ _ _ => False) fu).1 cm c [] _ _ st hev ho ι _ w (Zq6 ha (Nat.le_of_ble_eq_true hA)) (by show Emb P ι (Zh4 0 pre).get w; rw [Zn0]; exact he)
  ⟨hn, fun k h1 h2 => by
   cases hk : ι k with
   | none => rfl
   | some b => exact absurd (hd k (by rw [hk]; simp)) (by have h3 : pre.length ≤ k := h1; have h4 : st.s.n ≤ 1000000000 := hn; have h5 : k < st.s.n := h2; unfold ZcP; omega)⟩
  (fun ι' a' w' g1 g2 => hto ι w hd ι' a' w' (by have := g1; simp only [Zn0] at this; exact this) g2)
 exact this
end
noncomputable section
def Zj : List ZD → List Nat
  | [] => []
  | .rnd i :: K => i :: Zj K
  | .seq _ :: K => Zj K
  | .blk _ :: K => Zj K
  | .scp :: K => Zj K
def Zcj {X R : Type} (step : X → Option (X ⊕ R)) : Nat → X → Option R
  | 0, _ => none
  | n + 1, x => match step x with
    | none => none
    | some (.inl y) => Zcj step n y
    | some (.inr r) => some r
def goM {X R : Type} (step : X → Option (X ⊕ R)) (n : Nat) (o : Option (X ⊕ R)) : Option R :=
  match o with
  | none => none
  | some (.inl y) => Zcj step n y
  | some (.inr r) => some r
theorem Zu (n : Nat) (h : Nat.ble n 1000000000 = true) : n ≤ far := Nat.le_of_ble_eq_true h
theorem Zv3 {P : Program} {c : Code} {Q : Exit → Act → World → Prop} : ∀ (n m : Nat), n ≤ m → ∀ a w, Code.rounds P c Q n a w → Code.rounds P c Q m a w
  | 0, _, _, _, _, h => h.elim
  | n + 1, 0, hm, _, _, _ => by omega
  | n + 1, m + 1, hm, a, w, h => by
    rw [rounds_succ] at h ⊢
    refine wp_mono h ?_
    intro e a' w' h'
    cases e with
    | normal => exact Zv3 n m (by omega) a' w' h'
    | exit i => exact h'
    | goto l => exact h'
    | ret => exact h'
    | panic ch => exact h'
    | outgrown => exact h'
theorem Zht {P : Program} {fn : Func} {R : Ending → World → Prop} {Nx Nx' : Nat → Act → World → Prop} : ∀ {K : List ZD}, (∀ j ∈ Zj K, Nx' j = Nx j) → post P fn R Nx' K = post P fn R Nx K
  | [], _ => rfl
  | .seq b :: K, h => by simp only [post]; rw [Zht (K := K) h]
  | .blk id :: K, h => by simp only [post]; rw [Zht (K := K) h]
  | .scp :: K, h => by simp only [post]; rw [Zht (K := K) h]
  | .rnd j :: K, h => by
    simp only [post]
    rw [Zht (K := K) fun j hj => h j (List.mem_cons_of_mem _ hj), h j (List.mem_cons_self ..)]
def Ziq : Nat → List (Option AObj) → Tr AObj
  | _, [] => .nil
  | i, none :: l => Ziq (i + 1) l
  | i, some o :: l => (Ziq (i + 1) l).set i (some o)
theorem Zpu : ∀ (l : List (Option AObj)) (i k : Nat), (Ziq i l).get k = if i ≤ k then (l[k - i]?).join else none
  | [], i, k => by
    show (Tr.nil : Tr AObj).get k = _
    rw [Tr.get_nil]
    split <;> simp
  | none :: l, i, k => by
    show (Ziq (i + 1) l).get k = _
    rw [Zpu l (i + 1) k]
    by_cases h : i + 1 ≤ k
    · rw [if_pos h, if_pos (by omega)]
      have : k - i = (k - (i + 1)) + 1 := by omega
      rw [this, List.getElem?_cons_succ]
    · rw [if_neg h]
      by_cases hk : i ≤ k
      · rw [if_pos hk, show k - i = 0 by omega]; rfl
      · rw [if_neg hk]
  | some o :: l, i, k => by
    show ((Ziq (i + 1) l).set i (some o)).get k = _
    rw [Tr.get_set]
    by_cases hk : k = i
    · subst hk; rw [Zo, if_pos (Nat.le_refl _)]; simp
    · rw [Zh hk, Zpu l (i + 1) k]
      by_cases h : i + 1 ≤ k
      · rw [if_pos h, if_pos (by omega)]
        have : k - i = (k - (i + 1)) + 1 := by omega
        rw [this, List.getElem?_cons_succ]
      · rw [if_neg h, if_neg (by omega)]
theorem ZrT (l : List (Option AObj)) : (Ziq 0 l).get = lkO l := funext fun k => by rw [Zpu]; simp [lkO]
theorem ZkN {nt m : Nat} {lt : List (Nat × Value)} {H : List (Option AObj)} {T : Tr Value} {s : St} {live : List Nat} (hl : live.length = m) (hn : live.Nodup) (ht : Zdt (rho live far) ((lt.map (·.1)).map T.get) lt) (hb : ZS (rho live far) (live.map s.h.get) H) : Into nt m (fun t => ZaL t lt) (Ziq 0 H) T s live := by
  refine ⟨hl, hn, fun t v _ h => Zx0 ht t v h, fun j o ho => ?_⟩
  rw [ZrT] at ho
  exact Zib hb j o ho
/-! ### A slice of no room may stand for a nil one -/
def WkV (x y : Value) : Prop := x = y ∨ (x = .slice none 0 0 ∧ ∃ A : Addr, y = .slice (some A) 0 0)
def WkC : List Value → List Value → Prop
  | [], [] => True
  | x :: l, y :: m => WkV x y ∧ WkC l m
  | _, _ => False
def WkO (a b : Option AObj) : Prop := a = b ∨ (∃ c c' t q, a = some (.cells c t q) ∧ b = some (.cells c' t q) ∧ WkC c c') ∨ ∃ c c' t, a = some (.cells c t) ∧ b = some (.cells c' t true) ∧ WkC c c'
def WkL : List (Option AObj) → List (Option AObj) → Prop
  | [], [] => True
  | a :: l, b :: m => WkO a b ∧ WkL l m
  | _, _ => False
theorem WkL.refl : ∀ l, WkL l l
  | [] => trivial
  | _ :: l => ⟨.inl rfl, WkL.refl l⟩
theorem WkL.len : ∀ {l m}, WkL l m → l.length = m.length
  | [], [], _ => rfl
  | _ :: l, _ :: m, h => congrArg (· + 1) h.2.len
  | [], _ :: _, h => h.elim
  | _ :: _, [], h => h.elim
theorem WkL.at_ : ∀ {l m}, WkL l m → ∀ k, WkO (lkO l k) (lkO m k)
  | [], [], _, k => .inl rfl
  | a :: l, b :: m, h, 0 => by simpa [lkO] using h.1
  | a :: l, b :: m, h, k + 1 => by
    have := h.2.at_ k
    simpa [lkO] using this
  | [], _ :: _, h, _ => h.elim
  | _ :: _, [], h, _ => h.elim
theorem WkV.vr {ι : Ren} {x y r : Value} (h : WkV x y) (hv : VR ι x r) : VR ι y r := by
  rcases h with rfl | ⟨rfl, A, rfl⟩
  · exact hv
  · cases hv with
    | atom h => exact .slice0 fun _ => rfl
theorem WkC.cells : ∀ {c c' : List Value}, WkC c c' → c.length = c'.length ∧ ∀ (i : Nat) y, c'[i]? = some y → ∃ x, c[i]? = some x ∧ WkV x y
  | [], [], _ => ⟨rfl, fun i y h => by simp at h⟩
  | x :: l, y :: m, h => by
    obtain ⟨h1, h2⟩ := h.2.cells
    refine ⟨congrArg (· + 1) h1, fun i z hz => ?_⟩
    cases i with
    | zero => exact ⟨x, rfl, by have : y = z := by simpa using hz
                                exact this ▸ h.1⟩
    | succ i =>
      obtain ⟨x', q1, q2⟩ := h2 i z (by simpa using hz)
      exact ⟨x', by simpa using q1, q2⟩
  | [], _ :: _, h => h.elim
  | _ :: _, [], h => h.elim
theorem WkC.nil {c c' : List Value} (h : WkC c c') : c'.isEmpty = c.isEmpty := by
  cases c <;> cases c' <;> first | rfl | exact h.elim
theorem WkO.kind {a b : Option AObj} (h : WkO a b) : (∀ d, Zag b d = true → Zag a d = true) ∧ ∀ d, Za3 b d = true → Za3 a d = true := by
  rcases h with rfl | ⟨c, c', t, q, rfl, rfl, hw⟩ | ⟨c, c', t, rfl, rfl, hw⟩
  · exact ⟨fun _ h => h, fun _ h => h⟩
  · have e1 : isC (some (.cells c' t q)) = isC (some (.cells c t q)) := by
      cases q with
      | false => rfl
      | true => show (!c'.isEmpty) = (!c.isEmpty); rw [hw.nil]
    have e2 : sol (some (.cells c' t q)) = sol (some (.cells c t q)) := e1
    exact ⟨fun d h => by unfold Zag at h ⊢; rw [e1] at h; exact h, fun d h => by unfold Za3 at h ⊢; rw [e2] at h; exact h⟩
  · exact ⟨fun _ _ => rfl, fun _ _ => rfl⟩
theorem Emb.weaken {P : Program} {ι : Ren} {h h' : AH} {w : World} (e : Emb P ι h w) (hw : ∀ k, WkO (h k) (h' k)) : Emb P ι h' w where
  obj := fun k c t q hk => by
    rcases hw k with z | ⟨c1, c2, t1, q1, z1, z2, z3⟩ | ⟨c1, c2, t1, z1, z2, z3⟩
    · exact e.obj k c t q (z.trans hk)
    · rw [z2] at hk
      injection hk with hk
      injection hk with hc ht hq
      subst hc ht hq
      obtain ⟨b, hb, ⟨y1, y2, y3⟩ | ⟨y1, C, r2, r3, r4⟩⟩ := e.obj k c1 t1 q1 z1
      · subst y2
        refine ⟨b, hb, .inl ⟨y1, ?_, y3⟩⟩
        cases c2 with
        | nil => rfl
        | cons x l => exact z3.elim
      · obtain ⟨l1, l2⟩ := z3.cells
        refine ⟨b, hb, .inr ⟨?_, C, r2, ⟨l1 ▸ r3.1, fun i x y hx hy => ?_⟩, r4⟩⟩
        · have e1 : isC (some (.cells c2 t1 q1)) = isC (some (.cells c1 t1 q1)) := by
            cases q1 with
            | false => rfl
            | true => show (!c2.isEmpty) = (!c1.isEmpty); rw [z3.nil]
          unfold Zag at y1 ⊢
          rw [e1]; exact y1
        · obtain ⟨x', w1, w2⟩ := l2 i x hx
          exact w2.vr (r3.2 i x' y w1 hy)
    · rw [z2] at hk
      injection hk with hk
      injection hk with hc ht hq
      subst hc ht hq
      obtain ⟨b, C, hb, r2, r3, r4⟩ := e.objF k c1 t1 z1
      obtain ⟨l1, l2⟩ := z3.cells
      by_cases hz : c2 = [] ∧ b.2 = 0
      · exact ⟨b, hb, .inl ⟨rfl, hz.1, hz.2⟩⟩
      refine ⟨b, hb, .inr ⟨?_, C, r2, ⟨l1 ▸ r3.1, fun i x y hx hy => ?_⟩, r4⟩⟩
      · cases c2 with
        | nil =>
          have hb2 : b.2 ≠ 0 := fun h => hz ⟨rfl, h⟩
          show (false || (true && !Nat.beq b.2 0)) = true
          cases hq : Nat.beq b.2 0 with
          | true => exact absurd (Nat.eq_of_beq_eq_true hq) hb2
          | false => rfl
        | cons x l => rfl
      · obtain ⟨x', w1, w2⟩ := l2 i x hx
        exact w2.vr (r3.2 i x' y w1 hy)
  ro := fun {m} k O hk => by
    rcases hw k with q | ⟨c1, c2, t1, q1, z1, z2, z3⟩ | ⟨c1, c2, t1, z1, z2, z3⟩
    · exact e.ro k O (q.trans hk)
    · rw [z2] at hk; injection hk with hk; cases hk
    · rw [z2] at hk; injection hk with hk; cases hk
  inj := fun k k' b b' h1 h2 h3 h4 h5 => e.inj k k' b b' ((hw k).kind.1 _ h1) ((hw k').kind.2 _ h2) h3 h4 h5
  lt := e.lt
  mks := fun b base id q hq => by
    obtain ⟨m1, m2, m3⟩ := e.mks b base id q hq
    exact ⟨m1, m2, fun k d hk hd => m3 k d ((hw k).kind.1 _ hk) hd⟩
  tb := e.tb
theorem Step.weaken {P : Program} {ι ι' : Ren} {h h1 h2 : AH} {w w' : World} (s : Step P ι h w ι' h1 w') (hw : ∀ k, WkO (h1 k) (h2 k)) : Step P ι h w ι' h2 w' where
  ext := s.ext
  emb := s.emb.weaken hw
  os := s.os
  tape := s.tape
  output := s.output
  size := s.size
  frame := s.frame
  new := fun k b h1 h2 h3 => s.new k b h1 h2 (h3.imp (fun h => (hw k).kind.2 b h) id)
  alive := fun k b hk hi => s.alive k b ((hw k).kind.2 b hk) hi
  kind := fun k b hk hi => s.kind k b ((hw k).kind.1 b hk) hi
theorem Step.ph {P : Program} {ι0 ι : Ren} {h0 h : AH} {w0 w : World} (S : Step P ι0 h0 w0 ι h w) {j i : Nat} (t : TypeId) (hjf : j < 1000000000) (hj : ι j = none) (hh : h j = none) (hi : isC (h i) = true) : ∃ b, Step P ι0 h0 w0 (upd ι j (some b)) (upd h j (some (.cells [] t true))) w := by
  obtain ⟨bi, hbi⟩ := S.emb.live (Z1Q hi)
  have hx : ∀ k b, ι k = some b → upd ι j (some (bi.1, 0)) k = some b := fun k b hk => by
    rw [Zh]; · exact hk
    · intro e; subst e; rw [hj] at hk; cases hk
  have ne : ∀ k o, upd h j (some (AObj.cells [] t true)) k = some o → k ≠ j → h k = some o := fun k o hk hkj => by rwa [Zh hkj] at hk
  have neC : ∀ k b, Zag (upd h j (some (AObj.cells [] t true)) k) b = true → upd ι j (some (bi.1, 0)) k = some b → k ≠ j ∧ Zag (h k) b = true := fun k b hk hb => by
    by_cases hkj : k = j
    · subst hkj; rw [Zo] at hk hb; injection hb with hb; subst hb; cases hk
    · exact ⟨hkj, by rwa [Zh hkj] at hk⟩
  have neS : ∀ k b, Za3 (upd h j (some (AObj.cells [] t true)) k) b = true → upd ι j (some (bi.1, 0)) k = some b → k ≠ j ∧ Za3 (h k) b = true := fun k b hk hb => by
    by_cases hkj : k = j
    · subst hkj; rw [Zo] at hk hb; injection hb with hb; subst hb; cases hk
    · exact ⟨hkj, by rwa [Zh hkj] at hk⟩
  refine ⟨(bi.1, 0), fun k b hk => hx k b (S.ext k b hk), ⟨fun k c t' q hk => ?_, fun k O hk => ?_, fun k k' b b' h1 h2 h3 h4 h5 => ?_, fun k b hk => ?_, fun b base id q hq => ?_, fun x hx' => (S.emb.tb x hx').imp fun q hq => hx _ _ hq⟩, S.os, S.tape, S.output, S.size, S.frame, fun k b h1 h2 h3 => ?_, fun k b h1 h2 => S.alive k b (neS k b h1 (hx k b (S.ext k b h2))).2 h2, fun k b h1 h2 => S.kind k b (neC k b h1 (hx k b (S.ext k b h2))).2 h2⟩
  · by_cases hkj : k = j
    · subst hkj
      rw [Zo] at hk
      injection hk with hk
      injection hk with q1 q2 q3
      subst q1 q2 q3
      exact ⟨_, Zo, .inl ⟨rfl, rfl, rfl⟩⟩
    · obtain ⟨b, hb, hz⟩ := S.emb.obj k c t' q (ne k _ hk hkj)
      exact ⟨b, hx k b hb, hz.imp id fun ⟨z1, C, z2, z3, z4⟩ => ⟨z1, C, z2, z3.ext hx, z4⟩⟩
  · by_cases hkj : k = j
    · subst hkj; rw [Zo] at hk; injection hk with hk; cases hk
    · obtain ⟨b, hb, hB⟩ := S.emb.ro k O (ne k _ hk hkj)
      exact ⟨b, hx k b hb, hB⟩
  · obtain ⟨g1, g2⟩ := neC k b h1 h3
    obtain ⟨g3, g4⟩ := neS k' b' h2 h4
    rw [Zh g1] at h3
    rw [Zh g3] at h4
    exact S.emb.inj k k' b b' g2 g4 h3 h4 h5
  · by_cases hkj : k = j
    · subst hkj; rw [Zo] at hk; injection hk with hk; subst hk; exact S.emb.lt i bi hbi
    · rw [Zh hkj] at hk; exact S.emb.lt k b hk
  · obtain ⟨m1, m2, m3⟩ := S.emb.mks b base id q (ZkG hjf _ _ _ _ hq)
    refine ⟨m1, ⟨m2.1.ext hx rfl, fun o c hc => hx _ _ (m2.2 o c hc)⟩, fun k d hk hd => ?_⟩
    obtain ⟨g1, g2⟩ := neC k d hk hd
    rw [Zh g1] at hd
    exact m3 k d g2 hd
  · by_cases hkj : k = j
    · subst hkj
      rw [Zo] at h2
      injection h2 with h2
      subst h2
      cases hi0 : ι0 i with
      | none => exact S.new i bi hi0 hbi (.inl (ZmC (Zug hi)))
      | some c =>
        have := S.ext i c hi0
        rw [hbi] at this
        injection this with this
        subst this
        exact .inr ⟨i, _, S.kind i _ (ZfV hi) hi0, hi0, rfl⟩
    · rw [Zh hkj] at h2
      exact S.new k b h1 h2 (h3.imp (fun h => by rwa [Zh hkj] at h) id)
def Zq9 : List (Nat × TypeId) → List (Option AObj) → List (Option AObj)
  | [], H => H
  | x :: js, H => Zq9 js (H.set x.1 (some (.cells [] x.2 true)))
def Z2p (live : List Nat) (H : List (Option AObj)) (js : List (Nat × TypeId)) : Bool :=
  Z5 (fun x => (match live[x.1]? with | some k => Nat.ble 500000000 k | none => false) && (match H[x.1]? with | some none => true | _ => false)) js && decide (js.map (·.1)).Nodup
theorem Zv4 : ∀ (js : List (Nat × TypeId)) (H : List (Option AObj)), (Zq9 js H).length = H.length
  | [], _ => rfl
  | x :: js, H => by show (Zq9 js _).length = _; rw [Zv4 js]; simp
theorem ZzP {H : List (Option AObj)} {j : Nat} {o : Option AObj} (hj : j < H.length) : lkO (H.set j o) = upd (lkO H) j o := funext fun k => by
  unfold lkO
  by_cases hk : k = j
  · subst hk; rw [Zo]; simp [hj]
  · rw [Zh hk, List.getElem?_set_ne (fun e => hk e.symm)]
theorem Zx9 {P : Program} {ι0 : Ren} {h0 : AH} {w0 w : World} {i : Nat} : ∀ (js : List (Nat × TypeId)) (H : List (Option AObj)) (ι : Ren), H.length ≤ far → (∀ x ∈ js, H[x.1]? = some none ∧ ι x.1 = none) → (js.map (·.1)).Nodup → (js = [] ∨ isC (lkO H i) = true) → Step P ι0 h0 w0 ι (lkO H) w →
    ∃ ι', (∀ k b, ι k = some b → ι' k = some b) ∧ Step P ι0 h0 w0 ι' (lkO (Zq9 js H)) w ∧ ∀ k, H.length ≤ k → ι k = none → ι' k = none
  | [], H, ι, _, _, _, _, S => ⟨ι, fun _ _ h => h, S, fun _ _ h => h⟩
  | x :: js, H, ι, hl, hx, hn, hi, S => by
    obtain ⟨h1, h2⟩ := hx x (List.mem_cons_self ..)
    have hlt : x.1 < H.length := (List.getElem?_eq_some_iff.1 h1).1
    have hC : isC (lkO H i) = true := by rcases hi with h | h; cases h; exact h
    have hn1 : lkO H x.1 = none := by unfold lkO; rw [h1]; rfl
    obtain ⟨b, S1⟩ := S.ph x.2 (Nat.lt_of_lt_of_le hlt hl) h2 hn1 hC
    rw [← ZzP hlt] at S1
    have hnd := List.nodup_cons.1 hn
    have hix : i ≠ x.1 := fun e => by subst e; rw [hn1] at hC; cases hC
    obtain ⟨ι', q1, q2, q3⟩ := Zx9 (i := i) js (H.set x.1 (some (.cells [] x.2 true))) _ (by simpa using hl) (fun y hy => by
      have hne : y.1 ≠ x.1 := fun e => hnd.1 (List.mem_map.2 ⟨y, hy, e⟩)
      obtain ⟨g1, g2⟩ := hx y (List.mem_cons_of_mem _ hy)
      exact ⟨by rw [List.getElem?_set_ne (fun e => hne e.symm)]; exact g1, by rw [Zh hne]; exact g2⟩) hnd.2 (.inr (by rw [ZzP hlt, Zh hix]; exact hC)) S1
    refine ⟨ι', fun k c hk => q1 k c (by rw [Zh (fun e => by subst e; rw [h2] at hk; cases hk)]; exact hk), q2, fun k hk hk2 => q3 k (by simpa using hk) (by rw [Zh (by omega)]; exact hk2)⟩
def Zpv : List Nat → Code → List ZD → Code × List ZD
  | [], c, K => (c, K)
  | 0 :: p, .seq a b, K => Zpv p a (.seq b :: K)
  | 1 :: p, .seq _ b, K => Zpv p b K
  | 2 :: p, .scope a, K => Zpv p a (.scp :: K)
  | 3 :: p, .block i a, K => Zpv p a (.blk i :: K)
  | 4 :: p, .cond _ a _, K => Zpv p a K
  | 5 :: p, .cond _ _ b, K => Zpv p b K
  | (n + 6) :: p, .loop a, K => Zpv p a (.rnd n :: K)
  | _, _, K => (.skip, K)
structure Mach where
  fn : Func
  pre : List AObj
  X : Type
  R : Type
  step : X → Option (X ⊕ R)
  hd : X → Nat
  code : Nat → Code × List ZD
  isL : Nat → Bool
  L : X → List (Nat × Value)
  H : X → List (Option AObj)
  V : R → Value
  Po : R → List (Option AObj)
namespace Mach
section
variable (M : Mach)
def after (n : Nat) : M.X ⊕ M.R → Option M.R
  | .inl y => Zcj M.step n y
  | .inr r => some r
def KK (i : Nat) : List ZD := match M.isL i with | true => .rnd i :: (M.code i).2 | false => (M.code i).2
def IntoM (y : M.X) (T : Tr Value) (s : St) : Prop :=
  ∃ live H0 js, WkL (Zq9 js H0) (M.H y) ∧ Z2p live H0 js = true ∧ (js = [] ∨ ∃ i, isC (lkO H0 i) = true) ∧ ZcU M.pre.length live = true ∧ Into M.fn.ntmps H0.length (fun t => ZaL t (M.L y)) (Ziq 0 H0) T s live
def To (K0 : List ZD) : StopC → M.X ⊕ M.R → Prop
  | .fin u s, .inr r => ∃ live, ZwC M.pre.length (M.V r) (M.Po r) u s live
  | .next j T s, .inl y => j = M.hd y ∧ M.isL j = true ∧ j ∈ Zj K0 ∧ M.IntoM y T s
  | .head b K T s, .inl y => M.isL (M.hd y) = true ∧ (b, K) = M.code (M.hd y) ∧ (∀ j ∈ Zj K, j ∈ Zj K0) ∧ M.IntoM y T s
  | .cut b K T s, .inl y => M.isL (M.hd y) = false ∧ (b, K) = M.code (M.hd y) ∧ (∀ j ∈ Zj K, j ∈ Zj K0) ∧ M.IntoM y T s
  | .thr u _, .inr r => M.V r = u ∧ Zc9 u = true ∧ M.Po r = M.pre.map fun _ => none
  | _, _ => False
def Start (x : M.X) (gv : Nat → Value) (P : Program) (ext : FuncId → Option Ext) (cd cm fu : Nat) (orc : Orc) : Option StopC :=
  ZeE P ext M.fn M.fn.ntmps cd fu cm (M.code (M.hd x)).1 (M.KK (M.hd x)) (tmps M.fn.ntmps (fun t => ZaL t (M.L x)) gv) ⟨Ziq 0 (M.H x), (M.H x).length, [], orc, []⟩
def Ok (P : Program) (ext : FuncId → Option Ext) (x : M.X) (o : Option (M.X ⊕ M.R)) : Prop :=
  ∀ y, o = some y → ∀ gv, ∃ cd cm fu orc st, M.Start x gv P ext cd cm fu orc = some st ∧ (∀ p ∈ st.s.ob, p.1 = p.2) ∧ st.s.n ≤ 500000000 ∧ M.To (M.KK (M.hd x)) st y
def AtM (P : Program) (ι0 : Ren) (w0 : World) (y : M.X) (gv : Nat → Value) (a : Act) (w : World) : Prop :=
  At P M.fn.ntmps (tmps M.fn.ntmps (fun t => ZaL t (M.L y)) gv) (Ziq 0 (M.H y)).get (M.H y).length far ι0 (lk M.pre) w0 a w
end
section
variable {P : Program} {ext : FuncId → Option Ext}
section
variable (M : Mach) (P : Program) (r : M.R) (ι0 : Ren) (w0 : World) (n : Nat)
def Good (x : M.X) (Nx : Nat → Act → World → Prop) (a : Act) (w : World) : Prop :=
  match M.isL (M.hd x) with
  | true => Code.rounds P (M.code (M.hd x)).1 (post P M.fn (Fin P ι0 M.pre w0 (M.V r) (M.Po r)) Nx (M.code (M.hd x)).2) n a w
  | false => (M.code (M.hd x)).1.wp P (post P M.fn (Fin P ι0 M.pre w0 (M.V r) (M.Po r)) Nx (M.code (M.hd x)).2) a w
def Outer (js : List Nat) (Nx : Nat → Act → World → Prop) : Prop :=
  ∀ m z, m < n → Zcj M.step m z = some r → M.isL (M.hd z) = true → M.hd z ∈ js → ∀ gv a w, M.AtM P ι0 w0 z gv a w → Nx (M.hd z) a w
end
theorem ZyX {n : Nat} (h : n ≤ far) : ZcU n (List.range n) = true := by
  unfold ZcU
  rw [Bool.and_eq_true]
  constructor
  · rw [List.take_of_length_le (by simp)]; exact beq_self_eq_true _
  · have : ∀ l : List Nat, (∀ k ∈ l, k < 1000000000) → Z5 (fun k => Nat.blt k 1000000000) l = true := by
      intro l
      induction l with
      | nil => intro _; rfl
      | cons x l ih =>
        intro hl
        show (Nat.blt x 1000000000 && Z5 _ l) = true
        rw [ih fun k hk => hl k (List.mem_cons_of_mem _ hk), Bool.and_true, Nat.blt_eq]
        exact hl x (List.mem_cons_self ..)
    exact this _ fun k hk => Nat.lt_of_lt_of_le (List.mem_range.1 hk) h
section
variable (M : Mach)
theorem into_atM (hH : ∀ x, (M.H x).length ≤ far) {y : M.X} {T : Tr Value} {s : St} (h : M.IntoM y T s) {ι0 ι : Ren} {w0 w : World} {a : Act} (hd : ∀ k, ι0 k ≠ none → k < M.pre.length ∨ ZcP k) (hT : TR ι M.fn.ntmps [] T a) (hS : Step P ι0 (lk M.pre) w0 ι s.h.get w) (hF : ∀ k, 500000000 ≤ k → k < far → ι k = none) : ∃ gv, M.AtM P ι0 w0 y gv a w := by
  obtain ⟨live, H0, js, hwk, hph, hi, hk, h1, h2, h3, h4⟩ := h
  have hlen : H0.length = (M.H y).length := by rw [← hwk.len, Zv4]
  obtain ⟨gv, ι', a1, a2, a3, _, a5⟩ := Zxw hT hS live H0.length far rfl (ZrQ hk) h1 (hlen ▸ hH y) h2 (fun k hk2 => (hd k hk2).imp (Ztd hk) id) (fun t => ZaL t (M.L y)) h3 (Ziq 0 H0).get h4
  rw [ZrT] at a2
  unfold Z2p at hph
  rw [Bool.and_eq_true] at hph
  obtain ⟨i, hi'⟩ : ∃ i, js = [] ∨ isC (lkO H0 i) = true := by
    rcases hi with h | ⟨i, h⟩
    · exact ⟨0, .inl h⟩
    · exact ⟨i, .inr h⟩
  obtain ⟨ι2, b1, b2, b3⟩ := Zx9 (i := i) js H0 ι' (hlen ▸ hH y) (fun x hx => by
    have hq := ZaG hph.1 x hx
    rw [Bool.and_eq_true] at hq
    obtain ⟨g1, g2⟩ := hq
    constructor
    · split at g2
      · assumption
      · cases g2
    · split at g1
      · rename_i k hlk
        rw [a5 x.1 k hlk]
        exact hF k (Nat.le_of_ble_eq_true g1) (ZrQ hk k (List.mem_of_getElem? hlk))
      · cases g1) (of_decide_eq_true hph.2) hi' a2
  refine ⟨gv, ι2, a1.on b1, ?_, fun k hk1 hk2 => b3 k (hlen ▸ hk1) (a3 k (hlen ▸ hk1) hk2)⟩
  rw [ZrT]
  exact b2.weaken hwk.at_
theorem run1 (hH : ∀ x, (M.H x).length ≤ far) (hPo : ∀ r, (M.Po r).length ≤ far) (r : M.R) {ι0 : Ren} {w0 : World} (hd0 : ∀ k, ι0 k ≠ none → k < M.pre.length ∨ ZcP k) (n : Nat)
    (ih : ∀ m, m ≤ n → ∀ x, Zcj M.step m x = some r → ∀ Nx, M.Outer P r ι0 w0 m (Zj (M.code (M.hd x)).2) Nx → ∀ gv a w, M.AtM P ι0 w0 x gv a w → M.Good P r ι0 w0 m x Nx a w)
    {K0 : List ZD} {Nx : Nat → Act → World → Prop} (hNx : M.Outer P r ι0 w0 (n + 1) (Zj K0) Nx) {st : StopC} {y : M.X ⊕ M.R} (hto : M.To K0 st y) (hy : M.after n y = some r)
    {ι : Ren} {a : Act} {w : World} (hS : Step P ι0 (lk M.pre) w0 ι st.s.h.get w) (hF : ∀ k, 500000000 ≤ k → k < far → ι k = none) : Zps P M.fn (Fin P ι0 M.pre w0 (M.V r) (M.Po r)) Nx M.fn.ntmps ι a w st := by
  have sub : ∀ {K : List ZD}, (∀ j ∈ Zj K, j ∈ Zj K0) → M.Outer P r ι0 w0 n (Zj K) Nx := fun {K} hs m z hm hz hl hj gv a w hat => hNx m z (by omega) hz hl (hs _ hj) gv a w hat
  cases st with
  | fin u s =>
    cases y with
    | inl y => exact hto.elim
    | inr r' =>
      obtain ⟨live, hto⟩ := hto
      obtain rfl : r' = r := Option.some.inj hy
      exact fun v' hv => Zxy (hPo r') hd0 hto hS hv
  | next j T s =>
    cases y with
    | inr r' => exact hto.elim
    | inl y =>
      obtain ⟨rfl, hl, hj, hin⟩ := hto
      intro hT
      obtain ⟨gv, hat⟩ := M.into_atM hH hin hd0 hT hS hF
      exact hNx n y (by omega) hy hl hj gv a w hat
  | head b K T s =>
    cases y with
    | inr r' => exact hto.elim
    | inl y =>
      obtain ⟨hl, hc, hsub, hin⟩ := hto
      intro hT
      obtain ⟨gv, hat⟩ := M.into_atM hH hin hd0 hT hS hF
      have e1 : b = (M.code (M.hd y)).1 := congrArg Prod.fst hc
      have e2 : K = (M.code (M.hd y)).2 := congrArg Prod.snd hc
      subst e1 e2
      have := ih n (Nat.le_refl _) y hy Nx (sub hsub) gv a w hat
      unfold Good at this
      rw [hl] at this
      exact wp_loop_rounds n this
  | thr u s =>
    cases y with
    | inl y => exact hto.elim
    | inr r' =>
      obtain ⟨hv, ht, hpo⟩ := hto
      obtain rfl : r' = r := Option.some.inj hy
      intro _
      have hl : (M.Po r').length = M.pre.length := by rw [hpo, List.length_map]
      have hfar : M.pre.length ≤ far := hl ▸ hPo r'
      have hf := Zxy (v := .bool true) (u := .bool true) (v' := .bool true) (post := M.Po r') (s := s) (live := List.range M.pre.length) (hPo r') hd0 ⟨by rw [hl, List.length_range], List.nodup_range, ZyX hfar, ⟨rfl, rfl⟩, fun j o hj => by
        rw [hpo] at hj
        exfalso
        unfold lkO at hj
        rw [List.getElem?_map] at hj
        cases hx : M.pre[j]? <;> rw [hx] at hj <;> cases hj⟩ hS (.atom rfl)
      rcases hf with ⟨v', ι', _, g2, g3, _⟩ | ⟨hz, _⟩
      · rw [← hv] at ht ⊢
        exact .inr ⟨ht, ι', rfl, g2, g3⟩
      · cases hz
  | cut b K T s =>
    cases y with
    | inr r' => exact hto.elim
    | inl y =>
      obtain ⟨hl, hc, hsub, hin⟩ := hto
      intro hT
      obtain ⟨gv, hat⟩ := M.into_atM hH hin hd0 hT hS hF
      have e1 : b = (M.code (M.hd y)).1 := congrArg Prod.fst hc
      have e2 : K = (M.code (M.hd y)).2 := congrArg Prod.snd hc
      subst e1 e2
      have := ih n (Nat.le_refl _) y hy Nx (sub hsub) gv a w hat
      unfold Good at this
      rw [hl] at this
      exact this
theorem rounds (F : Fit P ext) (M : Mach) (hH : ∀ x, (M.H x).length ≤ far) (hPo : ∀ r, (M.Po r).length ≤ far) (hK : ∀ x, M.isL (M.hd x) = true → M.hd x ∉ Zj (M.code (M.hd x)).2) (ok : ∀ x, M.Ok P ext x (M.step x)) (r : M.R) {ι0 : Ren} {w0 : World} (hd0 : ∀ k, ι0 k ≠ none → k < M.pre.length ∨ ZcP k) :
    ∀ (n : Nat) (x : M.X), Zcj M.step n x = some r → ∀ Nx, M.Outer P r ι0 w0 n (Zj (M.code (M.hd x)).2) Nx → ∀ gv a w, M.AtM P ι0 w0 x gv a w → M.Good P r ι0 w0 n x Nx a w := by
  intro n
  induction n using Nat.strongRecOn with
  | ind n ih =>
    intro x hx Nx hNx gv a w hat
    cases n with
    | zero => cases hx
    | succ n =>
      have hat0 := hat
      obtain ⟨ι, hT, hS, hfr⟩ := hat
      cases hy : M.step x with
      | none => simp only [Zcj, hy] at hx; cases hx
      | some y =>
        obtain ⟨cd, cm, fu, orc, st, hev, ho, hn, hto⟩ := ok x y hy gv
        have hyr : M.after n y = some r := by
          cases y <;> (simp only [Zcj, hy] at hx; exact hx)
        have hn' : st.s.n ≤ far := Nat.le_trans hn (by decide)
        have fresh : Fresh ι (M.H x).length st.s.n := ⟨hn', fun k h1 h2 => hfr k h1 (Nat.lt_of_lt_of_le h2 hn')⟩
        have ih' : ∀ m, m ≤ n → ∀ x, Zcj M.step m x = some r → ∀ Nx, M.Outer P r ι0 w0 m (Zj (M.code (M.hd x)).2) Nx → ∀ gv a w, M.AtM P ι0 w0 x gv a w → M.Good P r ι0 w0 m x Nx a w := fun m hm => ih m (by omega)
        have go : ∀ Nx', M.Outer P r ι0 w0 (n + 1) (Zj (M.KK (M.hd x))) Nx' → (M.code (M.hd x)).1.wp P (post P M.fn (Fin P ι0 M.pre w0 (M.V r) (M.Po r)) Nx' (M.KK (M.hd x))) a w := fun Nx' hNx' =>
          (Zv2 F (R := Fin P ι0 M.pre w0 (M.V r) (M.Po r)) (Nx := Nx') fu).1 cm _ _ _ _ st hev ho ι a w hT hS.emb fresh fun ι' a' w' g1 g2 => run1 M hH hPo r hd0 n ih' hNx' hto hyr (hS.trans g1) (fun k h1 h2 => by
            cases hik : ι' k with
            | none => rfl
            | some c =>
              rcases g2 k (by rw [hik]; simp) with h | ⟨_, h⟩ | h
              · exact absurd (hfr k (by have : (M.H x).length ≤ st.s.n := ((Zx8 F (fn := M.fn) (nt := M.fn.ntmps) (cd := cd) fu).1 _ _ _ _ _ _ hev).n; omega) h2) h
              · omega
              · omega)
        unfold Good
        cases hl : M.isL (M.hd x) with
        | false =>
          have e : M.KK (M.hd x) = (M.code (M.hd x)).2 := by unfold KK; rw [hl]
          rw [e] at go
          exact go Nx hNx
        | true =>
          have e : M.KK (M.hd x) = .rnd (M.hd x) :: (M.code (M.hd x)).2 := by unfold KK; rw [hl]
          rw [e] at go
          show Code.rounds P _ _ (n + 1) a w
          rw [rounds_succ]
          let Nx' : Nat → Act → World → Prop := fun j => if j = M.hd x then Code.rounds P (M.code (M.hd x)).1 (post P M.fn (Fin P ι0 M.pre w0 (M.V r) (M.Po r)) Nx (M.code (M.hd x)).2) n else Nx j
          have n1 : Nx' (M.hd x) = Code.rounds P (M.code (M.hd x)).1 (post P M.fn (Fin P ι0 M.pre w0 (M.V r) (M.Po r)) Nx (M.code (M.hd x)).2) n := if_pos rfl
          have n2 : ∀ j, j ≠ M.hd x → Nx' j = Nx j := fun j hj => if_neg hj
          have hp : post P M.fn (Fin P ι0 M.pre w0 (M.V r) (M.Po r)) Nx' (M.code (M.hd x)).2 = post P M.fn (Fin P ι0 M.pre w0 (M.V r) (M.Po r)) Nx (M.code (M.hd x)).2 := Zht fun j hj => n2 j fun e => by subst e; exact hK x hl hj
          have := go Nx' fun m z hm hz hlz hj gv a w hat => by
            by_cases hzx : M.hd z = M.hd x
            · rw [hzx, n1]
              have := ih m (by omega) z hz Nx (fun m' z' h1 h2 h3 h4 => hNx m' z' (by omega) h2 h3 (by rw [hzx] at h4; exact h4)) gv a w hat
              unfold Good at this
              rw [hlz] at this
              rw [hzx] at this
              exact Zv3 m n (by omega) a w this
            · rw [n2 _ hzx]
              rcases List.mem_cons.1 hj with h | h
              · exact absurd h hzx
              · exact hNx m z (by omega) hz hlz h gv a w hat
          simp only [post, hp, n1] at this
          exact this
def Enter (P : Program) (ext : FuncId → Option Ext) (A : Array Value) (o : Option (M.X ⊕ M.R)) : Prop :=
  ∀ y, o = some y → ∃ cd cm fu orc st, ZeE P ext M.fn M.fn.ntmps cd fu cm (Zaw M.fn) [] (ZgX 0 A.toList .nil) ⟨Zh4 0 M.pre, M.pre.length, [], orc, []⟩ = some st ∧ (∀ p ∈ st.s.ob, p.1 = p.2) ∧ st.s.n ≤ 500000000 ∧ M.To [] st y
end
theorem spec (F : Fit P ext) (M : Mach) {f : FuncId} (hfn : P.funcs[f]? = some M.fn) (hb : M.fn.body = some (Zaw M.fn)) {A : Array Value} (hA : Nat.ble A.size M.fn.ntmps = true) (hH : ∀ x, (M.H x).length ≤ far) (hPo : ∀ r, (M.Po r).length ≤ far) (hK : ∀ x, M.isL (M.hd x) = true → M.hd x ∉ Zj (M.code (M.hd x)).2)
    (ok : ∀ x, M.Ok P ext x (M.step x)) {o : Option (M.X ⊕ M.R)} (en : M.Enter P ext A o) {n : Nat} {r : M.R} (h : goM M.step n o = some r) : LSpec P f A M.pre (M.V r) (M.Po r) := by
  cases o with
  | none => cases h
  | some y =>
    obtain ⟨cd, cm, fu, orc, st, hev, ho, hn, hto⟩ := en y rfl
    refine Z10 F hfn hb hA hev ho (Nat.le_trans hn (by decide)) fun ι0 w0 hd ι' a' w' hS hD => ?_
    exact run1 M hH hPo r hd n (fun m _ => rounds F M hH hPo hK ok r hd m) (K0 := []) (fun m z _ _ _ hj => by cases hj) hto (by cases y <;> exact h) hS (fun k h1 h2 => by
      cases hik : ι' k with
      | none => rfl
      | some c =>
        rcases hD k (by rw [hik]; simp) with h | ⟨_, h⟩ | h
        · rcases hd k h with h | h
          · have : M.pre.length ≤ st.s.n := ((Zx8 F (fn := M.fn) (nt := M.fn.ntmps) (cd := cd) fu).1 _ _ _ _ _ _ hev).n; omega
          · unfold ZcP at h; unfold far at h2; omega
        · omega
        · omega)
end
/-! ### How leaves are written -/
section
variable {P : Program} {ext : FuncId → Option Ext} {M : Mach} {x : M.X} {cd cm fu : Nat} {orc : Orc} {live : List Nat} {bl : List (Option AObj)} {ob : List (Bool × Bool)}
theorem ok_none : M.Ok P ext x none := fun _ h => by cases h
theorem ok_ite {c : Prop} [Decidable c] {A B : Option (M.X ⊕ M.R)} (h1 : c → M.Ok P ext x A) (h2 : ¬ c → M.Ok P ext x B) : M.Ok P ext x (if c then A else B) := by
  by_cases h : c
  · rw [if_pos h]; exact h1 h
  · rw [if_neg h]; exact h2 h
theorem ok_bind {α : Type} {o : Option α} {k : α → Option (M.X ⊕ M.R)} (h : ∀ r, o = some r → M.Ok P ext x (k r)) : M.Ok P ext x (o.bind k) := by
  cases o with
  | none => exact ok_none
  | some r => exact h r rfl
theorem ok_fin {r : M.R} {u : Value} (hev : ∀ gv, Zkz live (M.Start x gv P ext cd cm fu orc) = some (u, bl, ob)) (ho : ∀ p ∈ ob, p.1 = p.2) (hl : live.length = (M.Po r).length) (hn : live.Nodup) (hk : ZcU M.pre.length live = true) (hv : M.V r = Za4 (rho live far) 3 u ∧ Zap 3 u = true) (hbl : ZS (rho live far) bl (M.Po r)) : M.Ok P ext x (some (.inr r)) := by
  intro y hy gv
  obtain rfl := Option.some.inj hy
  obtain ⟨s, h1, rfl, rfl, h4⟩ := Zpt (hev gv)
  exact ⟨cd, cm, fu, orc, _, h1, ho, h4, live, hl, hn, hk, hv, Zib hbl⟩
theorem ok_next {y : M.X} {tv : (Nat → Value) → List (Option Value)} (hL : M.isL (M.hd y) = true) (hr : M.hd y ∈ Zj (M.KK (M.hd x))) (hev : ∀ gv, Zn4 (M.hd y) live ((M.L y).map (·.1)) (M.Start x gv P ext cd cm fu orc) = some (tv gv, bl, ob)) (ho : ∀ p ∈ ob, p.1 = p.2) (hl : live.length = (M.H y).length) (hn : live.Nodup) (hk : ZcU M.pre.length live = true) (ht : ∀ gv, Zdt (rho live far) (tv gv) (M.L y)) (hbl : ZS (rho live far) bl (M.H y)) : M.Ok P ext x (some (.inl y)) := by
  intro y' hy gv
  obtain rfl := Option.some.inj hy
  obtain ⟨T, s, h1, h2, rfl, rfl, h4⟩ := ZvI (hev gv)
  exact ⟨cd, cm, fu, orc, _, h1, ho, h4, rfl, hL, hr, live, M.H y, [], WkL.refl _, rfl, .inl rfl, hk, ZkN hl hn (h2 ▸ ht gv) hbl⟩
theorem Z2V {y : M.X} {tv : (Nat → Value) → List (Option Value)} {bK : Code × List ZD} (hL : M.isL (M.hd y) = true) (hr : bK = M.code (M.hd y)) (hsub : ∀ j ∈ Zj (M.code (M.hd y)).2, j ∈ Zj (M.KK (M.hd x))) (hev : ∀ gv, ZhE live ((M.L y).map (·.1)) (M.Start x gv P ext cd cm fu orc) = some (bK, tv gv, bl, ob)) (ho : ∀ p ∈ ob, p.1 = p.2) (hl : live.length = (M.H y).length) (hn : live.Nodup) (hk : ZcU M.pre.length live = true) (ht : ∀ gv, Zdt (rho live far) (tv gv) (M.L y)) (hbl : ZS (rho live far) bl (M.H y)) : M.Ok P ext x (some (.inl y)) := by
  intro y' hy gv
  obtain rfl := Option.some.inj hy
  obtain ⟨T, s, h1, h2, rfl, rfl, h4⟩ := ZjB (hev gv)
  exact ⟨cd, cm, fu, orc, _, h1, ho, h4, hL, hr, by rw [hr]; exact hsub, live, M.H y, [], WkL.refl _, rfl, .inl rfl, hk, ZkN hl hn (h2 ▸ ht gv) hbl⟩
theorem Z3t {y : M.X} {tv : (Nat → Value) → List (Option Value)} {bK : Code × List ZD} (hL : M.isL (M.hd y) = false) (hr : bK = M.code (M.hd y)) (hsub : ∀ j ∈ Zj (M.code (M.hd y)).2, j ∈ Zj (M.KK (M.hd x))) (hev : ∀ gv, Ztj live ((M.L y).map (·.1)) (M.Start x gv P ext cd cm fu orc) = some (bK, tv gv, bl, ob)) (ho : ∀ p ∈ ob, p.1 = p.2) (hl : live.length = (M.H y).length) (hn : live.Nodup) (hk : ZcU M.pre.length live = true) (ht : ∀ gv, Zdt (rho live far) (tv gv) (M.L y)) (hbl : ZS (rho live far) bl (M.H y)) : M.Ok P ext x (some (.inl y)) := by
  intro y' hy gv
  obtain rfl := Option.some.inj hy
  obtain ⟨T, s, h1, h2, rfl, rfl, h4⟩ := ZyW (hev gv)
  exact ⟨cd, cm, fu, orc, _, h1, ho, h4, hL, hr, by rw [hr]; exact hsub, live, M.H y, [], WkL.refl _, rfl, .inl rfl, hk, ZkN hl hn (h2 ▸ ht gv) hbl⟩
variable {A : Array Value}
def startE (M : Mach) (P : Program) (ext : FuncId → Option Ext) (A : Array Value) (cd cm fu : Nat) (orc : Orc) : Option StopC :=
  ZeE P ext M.fn M.fn.ntmps cd fu cm (Zaw M.fn) [] (ZgX 0 A.toList .nil) ⟨Zh4 0 M.pre, M.pre.length, [], orc, []⟩
theorem en_none : M.Enter P ext A none := fun _ h => by cases h
theorem en_ite {c : Prop} [Decidable c] {B C : Option (M.X ⊕ M.R)} (h1 : c → M.Enter P ext A B) (h2 : ¬ c → M.Enter P ext A C) : M.Enter P ext A (if c then B else C) := by
  by_cases h : c
  · rw [if_pos h]; exact h1 h
  · rw [if_neg h]; exact h2 h
theorem en_bind {α : Type} {o : Option α} {k : α → Option (M.X ⊕ M.R)} (h : ∀ r, o = some r → M.Enter P ext A (k r)) : M.Enter P ext A (o.bind k) := by
  cases o with
  | none => exact en_none
  | some r => exact h r rfl
theorem en_fin {r : M.R} {u : Value} (hev : Zkz live (M.startE P ext A cd cm fu orc) = some (u, bl, ob)) (ho : ∀ p ∈ ob, p.1 = p.2) (hl : live.length = (M.Po r).length) (hn : live.Nodup) (hk : ZcU M.pre.length live = true) (hv : M.V r = Za4 (rho live far) 3 u ∧ Zap 3 u = true) (hbl : ZS (rho live far) bl (M.Po r)) : M.Enter P ext A (some (.inr r)) := by
  intro y hy
  obtain rfl := Option.some.inj hy
  obtain ⟨s, h1, rfl, rfl, h4⟩ := Zpt hev
  exact ⟨cd, cm, fu, orc, _, h1, ho, h4, live, hl, hn, hk, hv, Zib hbl⟩
theorem en_head {y : M.X} {tv : List (Option Value)} {bK : Code × List ZD} (hL : M.isL (M.hd y) = true) (hr : bK = M.code (M.hd y)) (hsub : Zj (M.code (M.hd y)).2 = []) (hev : ZhE live ((M.L y).map (·.1)) (M.startE P ext A cd cm fu orc) = some (bK, tv, bl, ob)) (ho : ∀ p ∈ ob, p.1 = p.2) (hl : live.length = (M.H y).length) (hn : live.Nodup) (hk : ZcU M.pre.length live = true) (ht : Zdt (rho live far) tv (M.L y)) (hbl : ZS (rho live far) bl (M.H y)) : M.Enter P ext A (some (.inl y)) := by
  intro y' hy
  obtain rfl := Option.some.inj hy
  obtain ⟨T, s, h1, rfl, rfl, rfl, h4⟩ := ZjB hev
  exact ⟨cd, cm, fu, orc, _, h1, ho, h4, hL, hr, (fun j hj => by rw [show bK.2 = (M.code (M.hd y)).2 from congrArg Prod.snd hr, hsub] at hj; cases hj), live, M.H y, [], WkL.refl _, rfl, .inl rfl, hk, ZkN hl hn ht hbl⟩
theorem en_headW {y : M.X} (H0 : List (Option AObj)) (js : List (Nat × TypeId)) (i : Nat) (hw : WkL (Zq9 js H0) (M.H y)) (hp : Z2p live H0 js = true) (hi : isC (lkO H0 i) = true) {tv : List (Option Value)} {bK : Code × List ZD} (hL : M.isL (M.hd y) = true) (hr : bK = M.code (M.hd y)) (hsub : Zj (M.code (M.hd y)).2 = []) (hev : ZhE live ((M.L y).map (·.1)) (M.startE P ext A cd cm fu orc) = some (bK, tv, bl, ob)) (ho : ∀ p ∈ ob, p.1 = p.2) (hl : live.length = H0.length) (hn : live.Nodup) (hk : ZcU M.pre.length live = true) (ht : Zdt (rho live far) tv (M.L y)) (hbl : ZS (rho live far) bl H0) : M.Enter P ext A (some (.inl y)) := by
  intro y' hy
  obtain rfl := Option.some.inj hy
  obtain ⟨T, s, h1, rfl, rfl, rfl, h4⟩ := ZjB hev
  exact ⟨cd, cm, fu, orc, _, h1, ho, h4, hL, hr, (fun j hj => by rw [show bK.2 = (M.code (M.hd y)).2 from congrArg Prod.snd hr, hsub] at hj; cases hj), live, H0, js, hw, hp, .inr ⟨i, hi⟩, hk, ZkN hl hn ht hbl⟩
end
end Mach
/-! ### Functions without loops -/
section
variable {P : Program} {ext : FuncId → Option Ext} {fn : Func} {pre : List AObj} {A : Array Value} {R : Type} {V : R → Value} {Po : R → List (Option AObj)} {live : List Nat} {bl : List (Option AObj)} {ob : List (Bool × Bool)} {fu : Nat} {orc : Orc}
section
variable (P : Program) (ext : FuncId → Option Ext) (fn : Func) (pre : List AObj) (A : Array Value)
def ZxA (fu : Nat) (orc : Orc) : Option Stop :=
  ZhD P ext fn fn.ntmps fu (Zaw fn) [] (ZgX 0 A.toList .nil) ⟨Zh4 0 pre, pre.length, [], orc, []⟩
def Fx {R : Type} (V : R → Value) (Po : R → List (Option AObj)) (o : Option R) : Prop :=
  ∀ r, o = some r → ∃ fu orc u s, ZxA P ext fn pre A fu orc = some (.fin u s) ∧ (∀ p ∈ s.ob, p.1 = p.2) ∧ s.n ≤ far ∧ ∃ live, ZwC pre.length (V r) (Po r) u s live
end
theorem Zq : Fx P ext fn pre A V Po none := fun _ h => by cases h
theorem Ze {c : Prop} [Decidable c] {B C : Option R} (h1 : c → Fx P ext fn pre A V Po B) (h2 : ¬ c → Fx P ext fn pre A V Po C) : Fx P ext fn pre A V Po (if c then B else C) := by
  by_cases h : c
  · rw [if_pos h]; exact h1 h
  · rw [if_neg h]; exact h2 h
theorem Zz {α : Type} {o : Option α} {k : α → Option R} (h : ∀ r, o = some r → Fx P ext fn pre A V Po (k r)) : Fx P ext fn pre A V Po (o.bind k) := by
  cases o with
  | none => exact Zq
  | some r => exact h r rfl
theorem Z3u {r : R} {u : Value} (hev : Zti live (ZxA P ext fn pre A fu orc) = some (u, bl, ob)) (ho : ∀ p ∈ ob, p.1 = p.2) (hl : live.length = (Po r).length) (hn : live.Nodup) (hk : ZcU pre.length live = true) (hv : V r = Za4 (rho live far) 3 u ∧ Zap 3 u = true) (hbl : ZS (rho live far) bl (Po r)) : Fx P ext fn pre A V Po (some r) := by
  intro r' hr
  obtain rfl := Option.some.inj hr
  obtain ⟨s, h1, rfl, rfl, h4⟩ := ZyV hev
  exact ⟨fu, orc, u, s, h1, ho, h4, live, hl, hn, hk, hv, Zib hbl⟩
theorem Zax (F : Fit P ext) {f : FuncId} (hfn : P.funcs[f]? = some fn) (hb : fn.body = some (Zaw fn)) (hA : Nat.ble A.size fn.ntmps = true) (hPo : ∀ r, (Po r).length ≤ far) {o : Option R} (h : Fx P ext fn pre A V Po o) {r : R} (hr : o = some r) : LSpec P f A pre (V r) (Po r) := by
  obtain ⟨fu, orc, u, s, h1, h2, h3, live, h4⟩ := h r hr
  exact Z1v F hfn hb hA h1 h2 h3 (hPo r) live h4
end
theorem ZzQ {P : Program} {f : FuncId} {A A' : Array Value} {pre : List (Nat × AObj)} {v : Value} {post : List (Nat × Option AObj)} {n dn : Nat} (e : A = A') (h : ZcD P f A' pre v post n dn) : ZcD P f A pre v post n dn := e ▸ h
end
noncomputable section
def ZeF : List Cell → Bool
 | [] => true
 | .any :: _ => false
 | .i _ :: l => ZeF l
 | .b _ :: l => ZeF l
 | .k _ _ :: l => ZeF l
 | .s _ :: l => ZeF l
 | .m _ _ _ _ :: l => ZeF l
structure Enc (α : Type) where
 cel : α → List Cell
 w : Nat
 dflt : α
 clen : ∀ a, (cel a).length = w
 sure : ∀ a, ZeF (cel a) = true
def Enc.enc {α : Type} (E : Enc α) (a : α) : List Value := Zw (E.cel a)
theorem Enc.len {α : Type} (E : Enc α) (a : α) : (E.enc a).length = E.w := by unfold Enc.enc Zw; rw [List.length_map, E.clen]
def ZeG : Value → Bool
 | .pointer (some ⟨_, _, some _⟩) => true
 | .slice (some ⟨_, _, some _⟩) _ _ => true
 | v => atom v
theorem Ztk : ∀ l : List Cell, ZeF l = true → Z5 ZeG (Zw l) = true
 | [], _ => rfl
 | c :: l, h => by
  show (ZeG (ZdO c) && Z5 ZeG (Zw l)) = true
  cases c with
  | any => cases h
  | _ => rw [Ztk l h]; rfl
theorem Enc.atoms {α : Type} (E : Enc α) (a : α) : Z5 ZeG (E.enc a) = true := Ztk _ (E.sure a)
def Zd {α : Type} (E : Enc α) (L : List α) : List Value := L.flatMap E.enc
def Zak {α : Type} (E : Enc α) (L : List α) : List Cell := L.flatMap E.cel
section
variable {α : Type} {E : Enc α}
theorem Zg0 : Zd E [] = [] := rfl
theorem Zdi (x : α) (L : List α) : Zd E (x :: L) = E.enc x ++ Zd E L := rfl
theorem ZkO (L M : List α) : Zd E (L ++ M) = Zd E L ++ Zd E M := by simp [Zd]
theorem ZdH : ∀ L : List α, (Zd E L).length = L.length * E.w
 | [] => by simp [Zg0]
 | x :: L => by rw [Zdi, List.length_append, ZdH L, E.len, List.length_cons, Nat.add_mul, Nat.one_mul, Nat.add_comm]
theorem Zpw : ∀ (i : Nat) (L : List α), (Zd E L).drop (i * E.w) = Zd E (L.drop i)
 | 0, L => by simp
 | i + 1, [] => by simp [Zg0]
 | i + 1, x :: L => by
  rw [Zdi, List.drop_succ_cons, ← Zpw i L, Nat.add_mul, Nat.one_mul, Nat.add_comm, ← List.drop_drop, ← E.len x, List.drop_left]
theorem Zl8 : ∀ (i : Nat) (L : List α), (Zd E L).take (i * E.w) = Zd E (L.take i)
 | 0, L => by simp [Zg0]
 | i + 1, [] => by simp [Zg0]
 | i + 1, x :: L => by
  rw [Zdi, List.take_succ_cons, Zdi, ← Zl8 i L, Nat.add_mul, Nat.one_mul, Nat.add_comm, List.take_append, E.len]
  rw [List.take_of_length_le (by rw [E.len]; omega), Nat.add_sub_cancel_left]
theorem Zpx {L : List α} {i : Nat} (h : i < L.length) (d : α) : L.drop i = L.getD i d :: L.drop (i + 1) := by
 rw [List.getD_eq_getElem?_getD, List.getElem?_eq_getElem h, Option.getD_some]
 exact List.drop_eq_getElem_cons h
theorem ZzR {L : List α} {o i q : Nat} (hi : i < L.length) (ho : o = i * E.w + q) (hq : q ≤ E.w) : (Zd E L).drop o = (E.enc (L.getD i E.dflt)).drop q ++ Zd E (L.drop (i + 1)) := by
 subst ho
 rw [← List.drop_drop, Zpw, Zpx hi E.dflt, Zdi, List.drop_append, E.len, Nat.sub_eq_zero_of_le hq, List.drop_zero]
theorem ZfB {β : Type} : ∀ (m : Nat) (l : List β), m ≤ l.length → ZO m l = some (l.take m)
 | 0, l, _ => by simp [ZO]
 | m + 1, [], h => by simp at h
 | m + 1, x :: l, h => by
  simp only [ZO]
  rw [ZfB m l (by simpa using h)]
  rfl
theorem ZxB {L : List α} {o i q m : Nat} (hi : i < L.length) (ho : o = i * E.w + q) (hq : q + m ≤ E.w) : ZO m ((Zd E L).drop o) = some (((E.enc (L.getD i E.dflt)).drop q).take m) := by
 have hl := E.len (L.getD i E.dflt)
 rw [ZzR hi ho (by omega), ZfB _ _ (by simp only [List.length_append, List.length_drop, hl]; omega), List.take_append]
 have : m - ((E.enc (L.getD i E.dflt)).drop q).length = 0 := by simp only [List.length_drop, hl]; omega
 rw [this, List.take_zero, List.append_nil]
theorem Zdy : ∀ {cs : List Cell}, ZeF cs = true → ZdD (Zw cs) cs = true
 | [], _ => rfl
 | c :: l, h => by
  cases c with
  | any => cases h
  | i n => show ((n == n) && ZdD (Zw l) l) = true; rw [Zdy (cs := l) h]; simp
  | b q => show ((q == q) && ZdD (Zw l) l) = true; rw [Zdy (cs := l) h]; simp
  | s x => show (dP (x = x) && ZdD (Zw l) l) = true; rw [Zdy (cs := l) h]; simp [dP]
  | m id o n c =>
   show (dP (ZdO (.m id o n c) = ZdO (.m id o n c)) && ZdD (Zw l) l) = true
   rw [Zdy (cs := l) h, Z1 rfl]; rfl
  | k kk n =>
   by_cases hk : kk = .i64
   ·subst hk; show ((decide (IntKind.i64 = IntKind.i64) && (n == n)) && ZdD (Zw l) l) = true; rw [Zdy (cs := l) h]; simp
   ·have e : ZdD (.int kk n :: Zw l) (.k kk n :: l) = ((decide (kk = kk) && (n == n)) && ZdD (Zw l) l) := by cases kk <;> rfl
    show ZdD (.int kk n :: Zw l) (.k kk n :: l) = true
    rw [e, Zdy (cs := l) h]; simp
theorem Z11 {L : List α} {o i q m : Nat} {cs : List Cell} (hi : i < L.length) (ho : o = i * E.w + q) (hq : q + m ≤ E.w) (hs : ZeF cs = true) (hc : ((E.enc (L.getD i E.dflt)).drop q).take m = Zw cs) : Ze8 (ZO m ((Zd E L).drop o)) cs = true := by
 rw [ZxB hi ho hq, hc]
 exact Zdy hs
theorem Zdu {L : List α} {o i q : Nat} {l : List Value} (x : α) (hi : i < L.length) (ho : o = i * E.w + q) (hq : q + l.length ≤ E.w) (hx : Zgr (E.enc (L.getD i E.dflt)) q l = E.enc x) : o + l.length ≤ (Zd E L).length ∧ Zgr (Zd E L) o l = Zd E (L.set i x) := by
 have hl := E.len (L.getD i E.dflt)
 have hle : o + l.length ≤ (Zd E L).length := by
  have : (i + 1) * E.w ≤ L.length * E.w := Nat.mul_le_mul_right _ hi
  rw [Nat.add_mul, Nat.one_mul] at this
  rw [ZdH]; omega
 refine ⟨hle, ?_⟩
 have e1 : L.set i x = L.take i ++ x :: L.drop (i + 1) := by rw [List.set_eq_take_append_cons_drop, if_pos hi]
 rw [e1, ZkO, Zdi, ← hx]
 unfold Zgr
 have h1 : (Zd E L).take o = Zd E (L.take i) ++ (E.enc (L.getD i E.dflt)).take q := by
  have hd : Zd E L = Zd E (L.take i) ++ (E.enc (L.getD i E.dflt) ++ Zd E (L.drop (i + 1))) := by
   rw [← Zdi, ← Zpx hi, ← ZkO, List.take_append_drop]
  rw [hd, List.take_append]
  have hlen : (Zd E (L.take i)).length = i * E.w := by rw [ZdH, List.length_take]; rw [Nat.min_eq_left (by omega)]
  rw [List.take_of_length_le (by omega), hlen, show o - i * E.w = q by omega, List.take_append]
  rw [show q - (E.enc (L.getD i E.dflt)).length = 0 by omega, List.take_zero, List.append_nil]
 have h2 : (Zd E L).drop (o + l.length) = (E.enc (L.getD i E.dflt)).drop (q + l.length) ++ Zd E (L.drop (i + 1)) := ZzR hi (by omega) hq
 rw [h1, h2]
 simp
theorem Z2q {L R : List α} {o a n m : Nat} (ha : a + n ≤ L.length) (ho : o = a * E.w) (hm : m = n * E.w) (hR : (L.drop a).take n = R) : ZO m ((Zd E L).drop o) = some (Zd E R) := by
 subst ho hm hR
 rw [Zpw, ZfB, Zl8]
 rw [ZdH, List.length_drop]
 exact Nat.mul_le_mul_right _ (by omega)
theorem Zbf {L M R : List α} {n m : Nat} (hm : m = n * E.w) (hn : n ≤ L.length) (hR : L.take n ++ M = R) : m ≤ (Zd E L).length ∧ (Zd E L).take m ++ Zd E M = Zd E R := by
 subst hm hR
 refine ⟨by rw [ZdH]; exact Nat.mul_le_mul_right _ hn, ?_⟩
 rw [Zl8, ZkO]
/-! ### The same, as told cells -/
theorem Zn5 : Zak E [] = [] := rfl
theorem Zj2 (x : α) (L : List α) : Zak E (x :: L) = E.cel x ++ Zak E L := rfl
theorem ZkP : ∀ L : List α, (Zak E L).length = L.length * E.w
 | [] => by simp [Zn5]
 | x :: L => by rw [Zj2, List.length_append, ZkP L, E.clen, List.length_cons, Nat.add_mul, Nat.one_mul, Nat.add_comm]
theorem Zpy : ∀ (i : Nat) (L : List α), (Zak E L).drop (i * E.w) = Zak E (L.drop i)
 | 0, L => by simp
 | i + 1, [] => by simp [Zn5]
 | i + 1, x :: L => by
  rw [Zj2, List.drop_succ_cons, ← Zpy i L, Nat.add_mul, Nat.one_mul, Nat.add_comm, ← List.drop_drop, ← E.clen x, List.drop_left]
theorem Zv5 : ∀ (i : Nat) (L : List α), (Zak E L).take (i * E.w) = Zak E (L.take i)
 | 0, L => by simp [Zn5]
 | i + 1, [] => by simp [Zn5]
 | i + 1, x :: L => by
  rw [Zj2, List.take_succ_cons, Zj2, ← Zv5 i L, Nat.add_mul, Nat.one_mul, Nat.add_comm, List.take_append, E.clen]
  rw [List.take_of_length_le (by rw [E.clen]; omega), Nat.add_sub_cancel_left]
theorem ZzS {L : List α} {o i q : Nat} (hi : i < L.length) (ho : o = i * E.w + q) (hq : q ≤ E.w) : (Zak E L).drop o = (E.cel (L.getD i E.dflt)).drop q ++ Zak E (L.drop (i + 1)) := by
 subst ho
 rw [← List.drop_drop, Zpy, Zpx hi E.dflt, Zj2, List.drop_append, E.clen, Nat.sub_eq_zero_of_le hq, List.drop_zero]
theorem Z2r {L : List α} {o i q m : Nat} (hi : i < L.length) (ho : o = i * E.w + q) (hq : q + m ≤ E.w) : ZO m ((Zak E L).drop o) = some (((E.cel (L.getD i E.dflt)).drop q).take m) := by
 have hl := E.clen (L.getD i E.dflt)
 rw [ZzS hi ho (by omega), ZfB _ _ (by simp only [List.length_append, List.length_drop, hl]; omega), List.take_append]
 have : m - ((E.cel (L.getD i E.dflt)).drop q).length = 0 := by simp only [List.length_drop, hl]; omega
 rw [this, List.take_zero, List.append_nil]
theorem Z2s {L R : List α} {o a n m : Nat} (ha : a + n ≤ L.length) (ho : o = a * E.w) (hm : m = n * E.w) (hR : (L.drop a).take n = R) : ZO m ((Zak E L).drop o) = some (Zak E R) := by
 subst ho hm hR
 rw [Zpy, ZfB, Zv5]
 rw [ZkP, List.length_drop]
 exact Nat.mul_le_mul_right _ (by omega)
theorem Z12 {L : List α} (j : Nat) (hw : 0 < E.w) : (Zak E L)[j]? = if h : j / E.w < L.length then (E.cel (L[j / E.w]'h))[j % E.w]? else none := by
 by_cases h : j / E.w < L.length
 ·rw [dif_pos h]
  have hj : j = (j / E.w) * E.w + j % E.w := by rw [Nat.mul_comm]; exact (Nat.div_add_mod j E.w).symm
  have hr : j % E.w < E.w := Nat.mod_lt _ hw
  have := ZzS (E := E) h hj (Nat.le_of_lt hr)
  have h0 : ((Zak E L).drop j)[0]? = (Zak E L)[j]? := by rw [List.getElem?_drop]; rfl
  rw [← h0, this, List.getElem?_append_left (by rw [List.length_drop, E.clen]; omega), List.getElem?_drop, Nat.add_zero]
  rw [List.getD_eq_getElem?_getD, List.getElem?_eq_getElem h, Option.getD_some]
 ·rw [dif_neg h, List.getElem?_eq_none]
  rw [ZkP]
  have : L.length ≤ j / E.w := by omega
  exact (Nat.le_div_iff_mul_le hw).1 this
/-! ### Such a row is a row of atoms -/
theorem Zj3 : ∀ L : List α, Z5 ZeG (Zd E L) = true
 | [] => rfl
 | x :: L => by
  have app : ∀ (a b : List Value), Z5 ZeG a = true → Z5 ZeG b = true → Z5 ZeG (a ++ b) = true := by
   intro a b ha hb
   induction a with
   | nil => exact hb
   | cons y a ih =>
    simp only [Z5, Bool.and_eq_true] at ha
    show (ZeG y && Z5 ZeG (a ++ b)) = true
    rw [ha.1, ih ha.2]; rfl
  rw [Zdi]
  exact app _ _ (E.atoms x) (Zj3 L)
theorem Zn6 {p q : Value → Bool} (h : ∀ v, p v = true → q v = true) : ∀ {l : List Value}, Z5 p l = true → Z5 q l = true
 | [], _ => rfl
 | x :: l, hl => by
  simp only [Z5, Bool.and_eq_true] at hl ⊢
  exact ⟨h x hl.1, Zn6 h hl.2⟩
theorem Zji {v : Value} (h : ZeG v = true) : (∃ k o z, v = .pointer (some ⟨k, o, some z⟩)) ∨ (∃ k o z n c, v = .slice (some ⟨k, o, some z⟩) n c) ∨ atom v = true := by
 unfold ZeG at h
 split at h
 ·exact .inl ⟨_, _, _, rfl⟩
 ·exact .inr (.inl ⟨_, _, _, _, _, rfl⟩)
 ·exact .inr (.inr h)
theorem ZxC (d : Nat) {v : Value} (h : ZeG v = true) : Zap d v = true := by
 rcases Zji h with ⟨k, o, z, rfl⟩ | ⟨k, o, z, n, c, rfl⟩ | h
 ·cases d <;> rfl
 ·cases d <;> rfl
 ·cases v with
  | agg => simp [atom] at h
  | tuple => simp [atom] at h
  | func f a b =>
   cases f with
   | func f =>
    simp only [atom, Bool.and_eq_true, Array.isEmpty_iff] at h
    obtain ⟨rfl, rfl⟩ := h
    cases d <;> rfl
   | _ => simp [atom] at h
  | _ => cases d <;> rfl
theorem Z0B (m d : Nat) {v : Value} (h : ZeG v = true) : Zbd m d v = true := by
 rcases Zji h with ⟨k, o, z, rfl⟩ | ⟨k, o, z, n, c, rfl⟩ | h
 ·cases d <;> rfl
 ·cases d <;> rfl
 ·cases v with
  | agg => simp [atom] at h
  | tuple => simp [atom] at h
  | pointer a => cases a with
   | none => cases d <;> exact h
   | some a => simp [atom] at h
  | slice a n c => cases a with
   | none => cases d <;> exact h
   | some a => simp [atom] at h
  | map a => cases a with
   | none => cases d <;> exact h
   | some a => simp [atom] at h
  | _ => cases d <;> exact h
theorem Z0C {v : Value} (h : ZeG v = true) : Zbw v = true := by
 rcases Zji h with ⟨k, o, z, rfl⟩ | ⟨k, o, z, n, c, rfl⟩ | h
 ·rfl
 ·rfl
 ·cases v <;> first | rfl | simp [atom] at h
theorem Z0D {ρ : Nat → Nat} (d : Nat) {v : Value} (h : ZeG v = true) : Za4 ρ d v = v := by
 rcases Zji h with ⟨k, o, z, rfl⟩ | ⟨k, o, z, n, c, rfl⟩ | h
 ·cases d <;> rfl
 ·cases d <;> rfl
 ·exact Zjz d h
theorem ZqA (ρ : Nat → Nat) (d : Nat) (L : List α) : (Zd E L).map (Za4 ρ d) = Zd E L := by
 have : ∀ l : List Value, Z5 ZeG l = true → l.map (Za4 ρ d) = l := fun l => by
  induction l with
  | nil => intro _; rfl
  | cons y l ih =>
   intro h
   simp only [Z5, Bool.and_eq_true] at h
   rw [List.map_cons, ih h.2, Z0D d h.1]
 exact this _ (Zj3 L)
theorem Zrs (d : Nat) (L : List α) : Z5 (Zap d) (Zd E L) = true := Zn6 (fun _ => ZxC d) (Zj3 L)
theorem Zdj (m d : Nat) (L : List α) : Z5 (Zbd m d) (Zd E L) = true := Zn6 (fun _ => Z0B m d) (Zj3 L)
theorem Z13 (L : List α) : Z5 Zbw (Zd E L) = true := Zn6 (fun _ => Z0C) (Zj3 L)
theorem ZdI (ρ : Nat → Nat) (L : List α) (t : TypeId) : ZfX ρ (.cells (Zd E L) t) (.cells (Zd E L) t) := ⟨rfl, ⟨[], by rw [ZqA, List.append_nil]⟩, Zrs 1 L⟩
theorem Zae (ρ : Nat → Nat) {c : List Value} {L : List α} (t : TypeId) (h : c = Zd E L) : ZfX ρ (.cells c t) (.cells (Zd E L) t) := h ▸ ZdI ρ L t
theorem ZkQ (ρ : Nat → Nat) (L : List α) (t : TypeId) : AObj.cells (Zd E L) t = Zin ρ (.cells (Zd E L) t) := by
 show _ = AObj.cells ((Zd E L).map (Za4 ρ 1)) t
 rw [ZqA]
theorem Zup {L R : List α} {o a n m : Nat} (ha : a + n ≤ L.length) (ho : o = a * E.w) (hm : m = n * E.w) (hR : (L.drop a).take n = R) : ZO m ((Zd E L).drop o) = some (Zd E R) ∧ Z5 Zbw (Zd E R) = true := ⟨Z2q ha ho hm hR, Z13 R⟩
end
theorem Z3v {b : Bool} (h : ¬ (b = true)) : (!b) = true := by cases b <;> simp_all
theorem Z3w {b : Bool} (h : b = true) : (!b) = false := by subst h; rfl
def ZiU (k : IntKind) : Enc Int := ⟨fun n => match k with | .i64 => [.i n] | k => [.k k n], 1, 0, fun _ => by cases k <;> rfl, fun _ => by cases k <;> rfl⟩
abbrev eI : Enc Int := ZiU .i64
abbrev vi (x : Int) : Value := .int .i64 x
abbrev vs (k o n c : Nat) : Value := .slice (some ⟨k, o, none⟩) n c
abbrev vp (k o : Nat) : Value := .pointer (some ⟨k, o, none⟩)
/-! ### Rows that never change -/
def mc {α : Type} (E : Enc α) (L : List α) : Cell := .m (code (Zak E L)) 0 L.length L.length
abbrev ms {α : Type} (E : Enc α) (L : List α) : Value := .slice (some ⟨code (Zak E L), 0, some 0⟩) L.length L.length
abbrev mp {α : Type} (E : Enc α) (L : List α) (o : Nat) : Value := .pointer (some ⟨code (Zak E L), o, some 0⟩)
def ZR {α : Type} (E : Enc α) : Enc (List α) := ⟨fun l => [mc E l], 1, [], fun _ => rfl, fun _ => rfl⟩
theorem Z2t {α : Type} {E : Enc α} {L : List α} {o i q m : Nat} {cs : List Cell} (hi : i < L.length) (ho : o = i * E.w + q) (hq : q + m ≤ E.w) (hc : ((E.cel (L.getD i E.dflt)).drop q).take m = cs) : Zay (code (Zak E L)) o m = some cs := by
 unfold Zay
 rw [Zdw]
 show ZO m ((Zak E L).drop o) = some cs
 rw [Z2r hi ho hq, hc]
theorem ZxD {α : Type} {E : Enc α} {L R : List α} {o a n m : Nat} (ha : a + n ≤ L.length) (ho : o = a * E.w) (hm : m = n * E.w) (hR : (L.drop a).take n = R) : Zay (code (Zak E L)) o m = some (Zak E R) := by
 unfold Zay
 rw [Zdw]
 exact Z2s ha ho hm hR
theorem Zir {α : Type} {E : Enc α} (L : List α) : Zd E L = Zw (Zak E L) := by
 unfold Zd Zak Zw Enc.enc Zw
 rw [List.map_flatMap]
theorem Z25 {α : Type} {E : Enc α} {L R : List α} {l h size : Nat} (h1 : l ≤ h) (h2 : h ≤ L.length) (hs : size = E.w) (hR : R = (L.drop l).take (h - l)) :
  l ≤ h ∧ h ≤ L.length ∧ Zay (code (Zak E L)) (0 + l * size) (Zak E R).length = some (Zak E R) ∧ (h - l) * size = (Zak E R).length ∧ R.length = h - l := by
 have hl : R.length = h - l := by rw [hR, List.length_take, List.length_drop]; omega
 have hc : (Zak E R).length = (h - l) * size := by rw [ZkP, hl, hs]
 refine ⟨h1, h2, ?_, hc.symm, hl⟩
 rw [hc]
 exact ZxD (a := l) (n := h - l) (by omega) (by rw [hs]; omega) (by rw [hs]) hR.symm
theorem ZdE {α : Type} {E : Enc α} {L : List α} {n size : Nat} (hn : L.length = n) (hs : size = E.w) (h0 : n * size ≠ 0) :
  (n * size = 0 ∧ Zd E L = []) ∨ ∃ c, n * size ≠ 0 ∧ Zay (code (Zak E L)) 0 (n * size) = some c ∧ Zd E L = Zw c := by
 subst hn hs
 exact .inr ⟨_, h0, ZxD (a := 0) (n := L.length) (by omega) (by omega) rfl (by simp), Zir L⟩
theorem ZvJ {α : Type} {E : Enc α} {L : List α} {n m : Nat} {cs : List Cell} (hn : L.length = n) (hm : m = n * E.w) (hs : ZeF cs = true) (hc : Zd E ((List.range n).map fun i => L.getD i E.dflt) = Zw cs) : Ze8 (ZO m (List.drop 0 (Zd E L))) cs = true := by
 have e : (List.range n).map (fun i => L.getD i E.dflt) = L := by
  apply List.ext_getElem?
  intro i
  by_cases hi : i < n
  ·rw [List.getElem?_map, List.getElem?_range hi, Option.map_some, List.getD_eq_getElem?_getD, List.getElem?_eq_getElem (by omega), Option.getD_some]
  ·rw [List.getElem?_eq_none (by simp; omega), List.getElem?_eq_none (by omega)]
 rw [e] at hc
 rw [List.drop_zero, ZfB _ _ (by rw [ZdH, hn, hm]; exact Nat.le_refl _), List.take_of_length_le (by rw [ZdH, hn, hm]; exact Nat.le_refl _), hc]
 exact Zdy hs
/-! ### Bytes as strings -/
end
end Ev
end Go.Proofs.YthfohmhipifiaaaGreat
namespace Go.Proofs.YthfohmhipifiaaaGreat
open Go.ChangeShapes Go.WideShapes Go.ChangeAt Go.RowKit Go.Deep
namespace Ev
section
variable {H : Type} {enc : TypeId × Value → H} {P : Program} {w : World}
def Trd (enc : TypeId × Value → H) (P : Program) (w : World) (t : TypeId) (cs : List Value) : Prop := ∃ n y, DataW.trod enc P w 0 (fun _ => true) true n t cs = some y
def Elems (enc : TypeId × Value → H) (P : Program) (w : World) (e : TypeId) (O : Obj) (o cap : Nat) : Prop :=
 ∀ i, i < cap → ∃ C t fr cs, O = .cells C t fr ∧ cs.length = P.cellsOf e ∧ (∀ j, j < P.cellsOf e → C[o + (i * P.cellsOf e + j)]? = cs[j]?) ∧ Trd enc P w e cs
theorem Z2W {t : TypeId} {k : IntKind} {cs : List Value} (ht : P.underlying t = some (.int k)) (h : Trd enc P w t cs) : ∃ z, cs = [.int k z] ∧ k.min ≤ z ∧ z ≤ k.max := by
 obtain ⟨n, y, h⟩ := h
 obtain ⟨z, e0, _, wx⟩ := DataW.trod_int ht h
 simp only [Lit.wf, Bool.and_eq_true, decide_eq_true_eq] at wx
 exact ⟨z, e0, wx.1, wx.2⟩
theorem Z14 {t e : TypeId} {cs : List Value} (ht : P.underlying t = some (.slice e)) (hpos : 0 < P.cellsOf e) (h : Trd enc P w t cs) :
  (∃ a, cs = [.slice a 0 0]) ∨ ∃ (b o len cap : Nat) (O : Obj), cs = [.slice (some ⟨b, o, none⟩) len cap] ∧ 0 < cap ∧ len ≤ cap ∧ cap ≤ 9223372036854775807 ∧ w.heap[b]? = some O ∧ Elems enc P w e O o cap := by
 obtain ⟨n0, y, h⟩ := h
 rcases open_slice ht h with ⟨hcs, _⟩ | ⟨a, len, cap, m, n, D, Pl, hcs, hb, hl, hm, hmm, hx, hi⟩
 ·exact .inl ⟨_, hcs⟩
 ·simp only [if_true] at hmm
  subst hmm
  rcases Nat.eq_zero_or_pos m with h0 | h0
  ·subst h0
   obtain rfl : len = 0 := by omega
   exact .inl ⟨_, hcs⟩
  ·right
   obtain ⟨cs0, hc0, _⟩ := hi 0 h0
   obtain ⟨_, hcl0, hat0⟩ := World.cells?_some hc0
   have h1 := hat0 0 hpos
   rw [Nat.zero_mul] at h1
   have ha0 : (a.add 0).add 0 = a := by simp [Addr.add]
   rw [ha0] at h1
   have h2 : w.cell? a = some (cs0[0]'(by omega)) := h1.trans (List.getElem?_eq_getElem (by omega))
   obtain ⟨b, o, spot⟩ := a
   have hspot : spot = none := by
    unfold World.cell? at h2
    split at h2
    ·cases spot with
     | none => rfl
     | some z => simp at h2
    ·cases h2
   subst hspot
   obtain ⟨C, el, fr, hB, _⟩ := ZnU h2
   refine ⟨b, o, len, m, _, hcs, h0, hl, by unfold maxLen at hm; omega, hB, fun i hi' => ?_⟩
   obtain ⟨cs', hc, ht'⟩ := hi i hi'
   obtain ⟨_, hcl, hat⟩ := World.cells?_some hc
   refine ⟨C, el, fr, cs', rfl, hcl, fun j hj => ?_, n, _, ht'⟩
   have h1 := hat j hj
   rw [Go.Deep.add_add] at h1
   have h2 : w.cell? ⟨b, o + (i * P.cellsOf e + j), none⟩ = some (cs'[j]'(by omega)) := by
    have : (⟨b, o, none⟩ : Addr).add (i * P.cellsOf e + j) = ⟨b, o + (i * P.cellsOf e + j), none⟩ := Go.WideShapes.add_plain b o _
    rw [← this, h1]
    exact List.getElem?_eq_getElem (by omega)
   obtain ⟨C', t', fr', hB', hv'⟩ := ZnU h2
   rw [hB] at hB'
   injection hB' with hB'
   injection hB' with e1 e2 e3
   subst e1
   rw [hv']
   exact (List.getElem?_eq_getElem (by omega)).symm
def DecL (w : World) (cs : List Value) (l : List Cell) : Prop := cs.length = l.length ∧ ∀ (i : Nat) x y, l[i]? = some x → cs[i]? = some y → DecC w x y
theorem Z2X {w : World} {cs : List Value} {l : List Cell} (hl : cs.length = l.length) (h : ∀ (i : Nat) x, l[i]? = some x → ∃ y, cs[i]? = some y ∧ DecC w x y) : DecL w cs l :=
 ⟨hl, fun i x y hx hy => by
  obtain ⟨y', h1, h2⟩ := h i x hx
  rw [hy] at h1
  injection h1 with h1
  subst h1
  exact h2⟩
theorem Z3x {w : World} {cs : List Value} {k : Nat} : ∀ (j : Nat) x, ([] : List Cell)[j]? = some x → ∃ y, cs[k + j]? = some y ∧ DecC w x y := fun j x h => by simp at h
theorem Z2Y {w : World} {cs : List Value} {b : Cell} {l : List Cell} {k : Nat} {y : Value} (hx : cs[k]? = some y) (hd : DecC w b y) (t : ∀ (j : Nat) x, l[j]? = some x → ∃ y, cs[k + 1 + j]? = some y ∧ DecC w x y) :
  ∀ (j : Nat) x, (b :: l)[j]? = some x → ∃ y, cs[k + j]? = some y ∧ DecC w x y := fun j x h => by
 cases j with
 | zero => injection h with h; subst h; exact ⟨y, hx, hd⟩
 | succ j =>
  obtain ⟨y', h1, h2⟩ := t j x (by simpa using h)
  exact ⟨y', by rw [show k + (j + 1) = k + 1 + j by omega]; exact h1, h2⟩
theorem DecL.vr {w : World} {cs : List Value} {l : List Cell} (h : DecL w cs l) : VRs (ιMk w) (Zw l).toArray cs.toArray :=
 ⟨by simp [Zw, h.1], fun i x y hx hy => by
  have hx' : (Zw l)[i]? = some x := by simpa using hx
  have hy' : cs[i]? = some y := by simpa using hy
  unfold Zw at hx'
  rw [List.getElem?_map] at hx'
  cases hb : l[i]? with
  | none => rw [hb] at hx'; cases hx'
  | some z =>
   rw [hb] at hx'
   injection hx' with hx'
   subst hx'
   exact (h.2 i z y hb hy').vr⟩
theorem pick1 {α : Type} {n : Nat} (d : α) {R : Nat → α → Prop} (h : ∀ i, i < n → ∃ x, R i x) : ∃ f : Nat → α, ∀ i, i < n → R i (f i) := by
 classical
 refine ⟨fun i => if hi : i < n then (h i hi).choose else d, fun i hi => ?_⟩
 simp only [hi, dite_true]
 exact (h i hi).choose_spec
theorem Z15 {α : Type} {E : Enc α} {Q : α → Prop} {t e : TypeId} {cs : List Value} (ht : P.underlying t = some (.slice e)) (hw : P.cellsOf e = E.w) (hpos : 0 < E.w)
  (hel : ∀ cs, cs.length = E.w → Trd enc P w e cs → ∃ x : α, DecL w cs (E.cel x) ∧ Q x) (h : Trd enc P w t cs) : ∃ (L : List α) (v : Value), cs = [v] ∧ DecC w (mc E L) v ∧ L.length ≤ 9223372036854775807 ∧ ∀ x ∈ L, Q x := by
 rcases Z14 ht (by omega) h with ⟨a, rfl⟩ | ⟨b, o, len, cap, O, rfl, h0, hl, hm, hB, hE⟩
 ·exact ⟨[], _, rfl, .m0, by simp, fun x hx => by cases hx⟩
 ·have each : ∀ i, i < len → ∃ x : α, (∃ C t fr, O = .cells C t fr ∧ ∀ j y, (E.cel x)[j]? = some y → ∃ v, C[o + (i * E.w + j)]? = some v ∧ DecC w y v) ∧ Q x := fun i hi => by
   obtain ⟨C, t, fr, cs, hO, hcl, hc, htr⟩ := hE i (by omega)
   obtain ⟨x, hd, hq⟩ := hel cs (by omega) htr
   refine ⟨x, ⟨C, t, fr, hO, fun j y hy => ?_⟩, hq⟩
   have hj : j < cs.length := by rw [hd.1]; exact (List.getElem?_eq_some_iff.1 hy).1
   rw [← hw]
   refine ⟨cs[j], ?_, hd.2 j y _ hy (List.getElem?_eq_getElem hj)⟩
   rw [hc j (by omega)]
   exact List.getElem?_eq_getElem hj
  obtain ⟨G, hG⟩ := pick1 E.dflt each
  obtain ⟨C, t, fr, cs0, hO, _⟩ := hE 0 h0
  subst hO
  refine ⟨(List.range len).map G, _, rfl, ?_, by simp; omega, fun x hx => ?_⟩
  ·have hlen : ((List.range len).map G).length = len := by simp
   unfold mc
   rw [hlen]
   refine .m (base := o) (.mk (Zdw _) hB (fun hp => ?_) fun i x y hx hy => ?_) (Nat.le_refl _) hl
   ·rw [ZkP, hlen] at hp ⊢
    have hlen0 : 0 < len := by
     rcases Nat.eq_zero_or_pos len with e0 | e0
     ·subst e0; simp at hp
     ·exact e0
    obtain ⟨⟨C', t', fr', hO', hx'⟩, _⟩ := hG (len - 1) (by omega)
    injection hO' with e1 e2 e3
    subst e1
    have hw1 : (E.cel (G (len - 1))).length = E.w := E.clen _
    obtain ⟨v, hv, _⟩ := hx' (E.w - 1) _ (List.getElem?_eq_getElem (by omega))
    have := (Array.getElem?_eq_some_iff.1 hv).1
    have e2 : (len - 1) * E.w + E.w = len * E.w := by rw [← Nat.succ_mul]; congr 1; omega
    omega
   ·rw [Z12 i hpos] at hx
    split at hx
    ·rename_i hlt
     rw [List.getElem_map, List.getElem_range] at hx
     obtain ⟨⟨C', t', fr', hO', hx'⟩, _⟩ := hG (i / E.w) (by rw [hlen] at hlt; exact hlt)
     injection hO' with e1 e2 e3
     subst e1
     obtain ⟨v, hv, hd⟩ := hx' (i % E.w) x hx
     have e : i / E.w * E.w + i % E.w = i := by rw [Nat.mul_comm]; exact Nat.div_add_mod i E.w
     rw [e, hy] at hv
     injection hv with hv
     subst hv
     exact hd
    ·cases hx
  ·obtain ⟨i, hi, rfl⟩ := List.mem_map.1 hx
   exact (hG i (List.mem_range.1 hi)).2
theorem ZyY {cs : List Value} {j m : Nat} {v : Value} (h : (cs.drop j).take m = [v]) (hm : m = 1) : cs[j]? = some v := by
 subst hm
 have : ((cs.drop j).take 1)[0]? = some v := by rw [h]; rfl
 rwa [List.getElem?_take_of_lt (by decide), List.getElem?_drop, Nat.add_zero] at this
/-! ### Parts of a value, by where they lie among its cells -/
def ZwF (enc : TypeId × Value → H) (P : Program) (w : World) (t : TypeId) (cs : List Value) (o : Nat) : Prop := Trd enc P w t ((cs.drop o).take (P.cellsOf t))
theorem Z3y {t : TypeId} {cs : List Value} {c : Nat} (hc : P.cellsOf t = c) (hl : cs.length = c) (h : Trd enc P w t cs) : ZwF enc P w t cs 0 := by
 unfold ZwF
 rw [List.drop_zero, List.take_of_length_le (by omega)]
 exact h
theorem Z2u {cs : List Value} {o : Nat} {v : Value} (h : (cs.drop o).take 1 = [v]) : cs[o]? = some v := ZyY h rfl
theorem Z3z {t : TypeId} {k : IntKind} {cs : List Value} {o : Nat} (ht : P.underlying t = some (.int k)) (hc : P.cellsOf t = 1) (h : ZwF enc P w t cs o) : ∃ z, cs[o]? = some (.int k z) ∧ k.min ≤ z ∧ z ≤ k.max := by
 unfold ZwF at h
 rw [hc] at h
 obtain ⟨z, h1, h2⟩ := Z2W ht h
 exact ⟨z, Z2u h1, h2⟩
theorem Z2Z {t : TypeId} {v : Value} {d : DataW H} {p : List MemPlace} (h : DataW.Trod enc P w 0 (fun _ => true) true t v d p) : Trd enc P w t v.cells.toList := by
 obtain ⟨fuel, hf⟩ := h
 exact ⟨fuel, _, hf⟩
end
end Ev
end Go.Proofs.YthfohmhipifiaaaGreat
namespace Go.Proofs.YthfohmhipifiaaaGreat
open Go.RowKit
namespace Ev
section
variable {P : Program} {ext : FuncId → Option Ext} {pre : List AObj} {A : Array Value} {R : Type} {V : R → Value} {Po : R → List (Option AObj)} {live : List Nat} {bl : List (Option AObj)} {ob : List (Bool × Bool)} {fu : Nat} {orc : Orc}
variable {f : FuncId}
end
set_option linter.unusedVariables false
section
variable {P : Program}
end
section
variable {P : Program} {ext : FuncId → Option Ext} {f : FuncId} {pre : List AObj} {A : Array Value} {R : Type} {V : R → Value} {Po : R → List (Option AObj)} {live : List Nat} {bl : List (Option AObj)} {ob : List (Bool × Bool)} {orc : Orc}
end
set_option linter.unusedVariables false
section
variable {P : Program}
theorem VR.cutV {ι ι2 : Ren} {m : Nat} (hι : ∀ k b, k < m ∨ ZcP k → ι k = some b → ι2 k = some b) : ∀ (d : Nat) (v v' : Value), VR ι v v' → Zbd m d v = true → VR ι2 v v'
 | d, v, v', h, hd => by
  cases h with
  | atom h => exact .atom h
  | glob h => exact .glob h
  | ptr h => cases d <;> exact .ptr (hι _ _ (.inl (Nat.le_of_ble_eq_true hd)) h)
  | map h => cases d <;> exact .map (hι _ _ (.inl (Nat.le_of_ble_eq_true hd)) h)
  | slice h hn hc hq => cases d <;> exact .slice (hι _ _ (.inl (Nat.le_of_ble_eq_true hd)) h) hn hc hq
  | slice0 h => exact .slice0 h
  | mptr h => exact .mptr (hι _ _ (.inr (Zkx _ _ _)) h)
  | mslice h hn hc => exact .mslice (hι _ _ (.inr (Zkx _ _ _)) h) hn hc
  | func hs ht h1 h2 =>
   rename_i fn a a' b b'
   have ha : Ev.atom (.func fn a b) = true := by cases d <;> exact hd
   have e := VR.eq_of_atom ha (.func hs ht h1 h2)
   rw [e]
   exact .atom ha
  | agg hs h1 =>
   cases d with
   | zero => simp [Zbd, Ev.atom] at hd
   | succ d =>
    simp only [Zbd] at hd
    exact .agg hs fun i x y hx hy => VR.cutV hι d x y (h1 i x y hx hy) (ZbH hd i x hx)
  | tuple hs h1 =>
   cases d with
   | zero => simp [Zbd, Ev.atom] at hd
   | succ d =>
    simp only [Zbd] at hd
    exact .tuple hs fun i x y hx hy => VR.cutV hι d x y (h1 i x y hx hy) (ZbH hd i x hx)
def Zl9 (m : Nat) : List (Option AObj) → Prop
 | [] => True
 | o :: l => (match o with | some x => Zj0 m x = true | none => True) ∧ Zl9 m l
theorem Ztl {m : Nat} : ∀ {H : List (Option AObj)}, Zl9 m H → ∀ k o, lkO H k = some o → Zj0 m o = true
 | [], _, k, o, hk => by simp [lkO] at hk
 | x :: H, h, 0, o, hk => by
  have e : x = some o := by simpa [lkO] using hk
  subst e
  exact h.1
 | x :: H, h, k + 1, o, hk => Ztl h.2 k o (by simpa [lkO] using hk)
noncomputable def ιTv (ι : Ren) (m : Nat) : Ren := fun k => @ite _ (k < m ∨ ZcP k) (Classical.propDecidable _) (ι k) none
theorem ιTv_yes {ι : Ren} {m k : Nat} (h : k < m ∨ ZcP k) : ιTv ι m k = ι k := by unfold ιTv; rw [if_pos h]
theorem ιTv_inv {ι : Ren} {m k : Nat} {q : Nat × Nat} (h : ιTv ι m k = some q) : (k < m ∨ ZcP k) ∧ ι k = some q := by
 by_cases hk : k < m ∨ ZcP k
 ·rw [ιTv_yes hk] at h; exact ⟨hk, h⟩
 ·unfold ιTv at h
  rw [if_neg hk] at h; cases h
theorem Z16 {post : List (Option AObj)} {k : Nat} {o : AObj} (h : lkO post k = some o) : k < post.length := by
 unfold lkO at h
 cases hx : post[k]? with
 | none => rw [hx] at h; cases h
 | some y => exact (List.getElem?_eq_some_iff.1 hx).1
theorem Step.letgo {ι ι' : Ren} {w w' : World} {pre : List AObj} {post : List (Option AObj)} (hd : ∀ k, ι k ≠ none → k < pre.length ∨ ZcP k) (hpre : pre.length ≤ post.length) (hUA : Zl9 post.length post) (hS : Step P ι (lk pre) w ι' (lkO post) w') : Step P ι (lk pre) w (ιTv ι' post.length) (lkO post) w' := by
 have hι : ∀ k b, k < post.length ∨ ZcP k → ι' k = some b → (ιTv ι' post.length) k = some b := fun k b hk h => (ιTv_yes hk).trans h
 have hmk : ∀ b base id q, ι' (Zai b base id) = some q → (ιTv ι' post.length) (Zai b base id) = some q := fun b base id q h => hι _ _ (.inr (Zkx _ _ _)) h
 refine ⟨fun k b hb' => hι k b ((hd k (by rw [hb']; simp)).imp (fun q => by omega) id) (hS.ext k b hb'), ⟨fun k c' t' q' hk => ?_, fun {m} k O hk => ?_, fun k k' b b' h1 h2 h3 h4 h5 => hS.emb.inj k k' b b' h1 h2 (ιTv_inv h3).2 (ιTv_inv h4).2 h5, fun k b h => hS.emb.lt k b (ιTv_inv h).2, fun b base id q hq => ?_, fun x hx => (hS.emb.tb x hx).imp fun q hq => hmk _ _ _ _ hq⟩, hS.os, hS.tape, hS.output, hS.size, hS.frame, fun k b h1 h2 h3 => hS.new k b h1 (ιTv_inv h2).2 h3, hS.alive, hS.kind⟩
 ·obtain ⟨b, r1, hz⟩ := hS.emb.obj k c' t' q' hk
  have hcs : Z5 (Zbd post.length 1) c' = true := Ztl hUA k (.cells c' t' q') hk
  exact ⟨b, hι k b (.inl (Z16 hk)) r1, hz.imp id fun ⟨q0, D, r2, r3, r4⟩ => ⟨q0, D, r2, ⟨r3.1, fun i x y hx hy => VR.cutV hι 1 x y (r3.2 i x y hx hy) (ZaG hcs x (List.mem_of_getElem? hx))⟩, r4⟩⟩
 ·obtain ⟨b, r1, r2⟩ := hS.emb.ro k O hk
  exact ⟨b, hι k b (.inl (Z16 hk)) r1, r2⟩
 ·obtain ⟨m1, m2, m3⟩ := hS.emb.mks b base id q (ιTv_inv hq).2
  exact ⟨m1, ⟨m2.1.on hmk, fun o c' hc => hmk _ _ _ _ (m2.2 o c' hc)⟩, fun k d hk hd2 => m3 k d hk (ιTv_inv hd2).2⟩
theorem Z2v {post : List (Option AObj)} {o : AObj} : lkO (post ++ [some o]) post.length = some o := by simp [lkO]
theorem Z2w {post : List (Option AObj)} {o : AObj} : upd (lkO (post ++ [some o])) post.length none = lkO post := by
 funext k
 by_cases hk : k = post.length
 ·subst hk
  rw [Zo]
  simp [lkO]
 ·rw [Zh hk]
  unfold lkO
  rcases Nat.lt_or_ge k post.length with h | h
  ·rw [List.getElem?_append_left h]
  ·rw [List.getElem?_eq_none (by simp; omega), List.getElem?_eq_none h]
theorem Zg1 {p : Option Addr} {n n' c c' : Nat} (h2 : n = n') (h3 : c = c') : Value.slice p n c = .slice p n' c' := by rw [h2, h3]
theorem LSpec.frzv {α : Type} {E : Enc α} {L : List α} {f : FuncId} {A : Array Value} {pre : List AObj} {v v2 : Value} {post : List (Option AObj)} {t : TypeId} (h : LSpec P f A pre v (post ++ [some (.cells (Zd E L) t)])) (hpre : pre.length ≤ post.length) (hle : post.length < 1000000000) (hUA : Zl9 post.length post) (hz : Zc9 v = false)
  (h2 : ZoQ post.length (code (Zak E L)) 3 v = v2) (hu : Zbd post.length 3 v2 = true) : LSpec P f A pre v2 post := by
 subst h2
 intro ι w args' hd ha he
 refine (h ι w args' hd ha he).mono fun e w' hf => ?_
 rcases hf with ⟨v', ι', rfl, hS, hdm, hvr⟩ | ⟨hz', _⟩
 rotate_left
 ·rw [hz] at hz'; cases hz'
 rw [Zir] at hS
 obtain ⟨ι2, g1, g2, g3⟩ := Step.frz hS.emb Z2v
 rw [Z2w] at g1
 have hT := Step.letgo hd hpre hUA (hS.trans g1)
 refine .inl ⟨v', _, rfl, hT, fun k hk => ?_, VR.cutV (fun k b hk h => (ιTv_yes hk).trans h) 3 _ _ (Zuh g1.ext g2 3 hvr) hu⟩
 cases hq : ιTv ι2 post.length k with
 | none => exact absurd hq hk
 | some q => exact (ιTv_inv hq).1.imp id fun h => h.1
theorem LSpec.nlv {f : FuncId} {A : Array Value} {pre : List AObj} {v v2 : Value} {post : List (Option AObj)} (h : LSpec P f A pre v post) (hz : Zc9 v = false) (h2 : nlV 3 v = v2) : LSpec P f A pre v2 post := by
 subst h2
 intro ι w args' hd ha he
 refine (h ι w args' hd ha he).mono fun e w' hf => ?_
 rcases hf with ⟨v', ι', rfl, hS, hdm, hvr⟩ | ⟨hz', _⟩
 ·exact .inl ⟨v', ι', rfl, hS, hdm, Z0Z 3 hvr⟩
 ·rw [hz] at hz'; cases hz'
end
set_option linter.unusedVariables false
section
variable {α : Type} {E : Enc α}
theorem Z17 (ρ : Nat → Nat) (L : List α) (t : TypeId) : ZfX ρ (.cells (Zd E L) t true) (.cells (Zd E L) t true) := ⟨rfl, by rw [ZqA], Zrs 1 L⟩
theorem Zv6 (ρ : Nat → Nat) (L : List α) (t : TypeId) : AObj.cells (Zd E L) t true = Zin ρ (.cells (Zd E L) t true) := by
 show _ = AObj.cells ((Zd E L).map (Za4 ρ 1)) t true
 rw [ZqA]
theorem wk_c {c c' : List Value} {t : TypeId} (h : WkC c c') : WkO (some (.cells c t)) (some (.cells c' t)) := .inr (.inl ⟨_, _, _, _, rfl, rfl, h⟩)
end
end Ev
end Go.Proofs.YthfohmhipifiaaaGreat
/- The heap's cells and rows, Zbd names. -/
namespace Go.Proofs.YthfohmhipifiaaaGreat
open Go.RowKit
namespace Ev
set_option linter.unusedVariables false
noncomputable section
def nth : List Nat → Nat → Nat
 | [], _ => 0
 | a :: _, 0 => a
 | _ :: l, j + 1 => nth l j
end
end Ev
end Go.Proofs.YthfohmhipifiaaaGreat
namespace Go.Proofs.YthfohmhipifiaaaGreat
open Go.RowKit
namespace Ev
set_option linter.unusedVariables false
def rg : Nat → Nat → List Nat → List Nat
 | _, 0, l => l
 | a, n + 1, l => a :: rg (a + 1) n l
def oq : List Nat → List (Nat × Bool)
 | [] => []
 | a :: l => (a / 2, Nat.beq (a % 2) 1) :: oq l
abbrev Ob (l : List (Bool × Bool)) : Prop := ∀ q ∈ l, q.1 = q.2
section
variable {l : List (Bool × Bool)}
theorem kX (t b : Bool) (h : t = b) (hl : Ob l) : Ob ((t, b) :: l) := ZM h hl
theorem hT {a b : Int} (h : a = b) (hl : Ob l) : Ob ((a == b, true) :: l) := ZM (beq_iff_eq.2 h) hl
theorem hF {a b : Int} (h : ¬ a = b) (hl : Ob l) : Ob ((a == b, false) :: l) := ZM (beq_eq_false_iff_ne.2 h) hl
theorem hD {a b : Int} (h : ¬ a = b) (hl : Ob l) : Ob ((a != b, true) :: l) := ZM (bne_iff_ne.2 h) hl
theorem hE {a b : Int} (h : a = b) (hl : Ob l) : Ob ((a != b, false) :: l) := ZM (bne_eq_false_iff_eq.2 h) hl
theorem hY {p : Prop} [Decidable p] (h : p) (hl : Ob l) : Ob ((decide p, true) :: l) := ZM (decide_eq_true h) hl
theorem hN {p : Prop} [Decidable p] (h : ¬ p) (hl : Ob l) : Ob ((decide p, false) :: l) := ZM (decide_eq_false h) hl
section
variable (a b : Int)
theorem kT (hl : Ob l) (h : a = b := by omega) : Ob ((a == b, true) :: l) := hT h hl
theorem kF (hl : Ob l) (h : ¬ a = b := by omega) : Ob ((a == b, false) :: l) := hF h hl
theorem kE (hl : Ob l) (h : a = b := by omega) : Ob ((a != b, false) :: l) := hE h hl
theorem kY (p : Prop) [Decidable p] (hl : Ob l) (h : p := by omega) : Ob ((decide p, true) :: l) := hY h hl
theorem kN (p : Prop) [Decidable p] (hl : Ob l) (h : ¬ p := by omega) : Ob ((decide p, false) :: l) := hN h hl
theorem kR {α : Type} (a : α) (hl : Ob l) : Ob ((dP (a = a), true) :: l) := ZM (Z1 rfl) hl
theorem kC {p : Prop} (h : p) (hl : Ob l) : Ob ((dP p, true) :: l) := ZM (Z1 h) hl
theorem kB (a b : Nat) (hl : Ob l) (h : a < b := by first | omega | (simp only [List.length_set, List.length_append, List.length_cons, List.length_nil, List.length_replicate, List.length_take, List.length_drop] at * <;> omega)) : Ob ((Nat.blt a b, true) :: l) := ZM (Z3q h) hl
theorem kI (hl : Ob l) (h : a = b := by first | rfl | exact Z1y (by omega)) : Ob ((a == b, true) :: l) := hT h hl
theorem kM (hl : Ob l) (h : 0 ≤ a := by omega) : Ob ((Int.tmod a b == a % b, true) :: l) := hT (Z2m h) hl
theorem kV (hl : Ob l) (h : 0 ≤ a := by omega) (h' : -9223372036854775808 ≤ a / b ∧ a / b ≤ 9223372036854775807 := by omega) : Ob ((IntKind.i64.wrap (Int.tdiv a b) == a / b, true) :: l) := hT (by rw [Z2n h]; exact wrap_i64 h') hl
theorem kW (hl : Ob l) (h : -9223372036854775808 ≤ a ∧ a ≤ 9223372036854775807 := by first | omega | (simp only [List.length_set, List.length_append, List.length_cons, List.length_nil, List.length_replicate, List.length_take, List.length_drop] at * <;> omega)) (h' : a = b := by first | rfl | omega) : Ob ((IntKind.i64.wrap a == b, true) :: l) := hT ((wrap_i64 h).trans h') hl
end
theorem kZ (t : Bool) (hl : Ob l) (h : t = true := by first | (simp only [beq_self_eq_true, Bool.and_self]; done) | (simp only [Bool.and_true, Bool.and_eq_true, beq_iff_eq] <;> first | omega | (simp_all; done) | grind)) : Ob ((t, true) :: l) := ZM h hl
theorem kO (t : Bool) (hl : Ob l) (h : t = false := by exact Bool.eq_false_iff.2 (by simp only [ne_eq, Bool.and_true, Bool.and_eq_true, beq_iff_eq]; first | omega | (intro hh; simp_all; done) | (intro hh; grind))) : Ob ((t, false) :: l) := ZM h hl
theorem kS (b : Int) (n : Nat) (k : IntKind) (hl : Ob l) (h : b = Int.ofNat n := by first | rfl | exact Z1y (by omega)) (h' : n ≤ IntKind.bits k := by (show _ ≤ 64); omega) : Ob ((dP (b = Int.ofNat n ∧ n ≤ IntKind.bits k), true) :: l) := kC ⟨h, h'⟩ hl
section
variable {α : Type} (E : Enc α) (L : List α)
theorem ZxE {L : List α} {o i q m : Nat} (hi : i < L.length) (ho : o = i * E.w + q) (hq : q + m ≤ E.w) : Ze8 (ZO m ((Zd E L).drop o)) (((E.cel (L.getD i E.dflt)).drop q).take m) = true := by
 rw [ZxB hi ho hq]
 have e : ((E.enc (L.getD i E.dflt)).drop q).take m = Zw (((E.cel (L.getD i E.dflt)).drop q).take m) := by
  unfold Enc.enc Zw; rw [List.map_take, List.map_drop]
 rw [e]
 refine Zdy ?_
 have hs := E.sure (L.getD i E.dflt)
 have h1 : ∀ (cs : List Cell) (n : Nat), ZeF cs = true → ZeF (cs.drop n) = true := fun cs => by
  induction cs with
  | nil => intro n _; simp [ZeF]
  | cons c cs ih =>
   intro n h
   cases n with
   | zero => exact h
   | succ n => rw [List.drop_succ_cons]; exact ih n (by cases c <;> first | cases h; done | exact h)
 have h2 : ∀ (cs : List Cell) (n : Nat), ZeF cs = true → ZeF (cs.take n) = true := fun cs => by
  induction cs with
  | nil => intro n _; simp [ZeF]
  | cons c cs ih =>
   intro n h
   cases n with
   | zero => rfl
   | succ n =>
    rw [List.take_succ_cons]
    cases c with
    | any => cases h
    | _ => exact ih n h
 exact h2 _ _ (h1 _ _ hs)
theorem kL (i q m : Nat) (hl : Ob l) (h : i < L.length := by first | omega | (simp only [List.length_set, List.length_append, List.length_cons, List.length_nil, List.length_replicate, List.length_take, List.length_drop] at * <;> omega)) (hq : q + m ≤ E.w := by decide) : Ob ((Ze8 (ZO m (List.drop ((0 + (i * E.w)) + q) (Zd E L))) (((E.cel (L.getD i E.dflt)).drop q).take m), true) :: l) := ZM (ZxE E h (by omega) hq) hl
theorem kLn (i q m : Nat) (hl : Ob l) (h : i < L.length := by first | omega | (simp only [List.length_set, List.length_append, List.length_cons, List.length_nil, List.length_replicate, List.length_take, List.length_drop] at * <;> omega)) (hq : q + m ≤ E.w := by decide) : Ob ((Ze8 (ZO m (List.drop (0 + (i * E.w)) (Zd E L))) (((E.cel (L.getD i E.dflt)).drop 0).take m), true) :: l) := ZM (ZxE E (q := 0) h (by omega) (by omega)) hl
theorem kG (o i q m w : Nat) (hl : Ob l) (h : i < L.length := by first | omega | (simp only [List.length_set, List.length_append, List.length_cons, List.length_nil, List.length_replicate, List.length_take, List.length_drop] at * <;> omega)) (ho : o = i * w + q := by omega) (hw : w = E.w := by rfl) (hq : q + m ≤ E.w := by decide) : Ob ((dP (Zay (code (Zak E L)) o m = some (((E.cel (L.getD i E.dflt)).drop q).take m)), true) :: l) := kC (Z2t h (by rw [← hw]; exact ho) hq rfl) hl
theorem kA (x : α) (hl : Ob l) (h : L.length ≤ 100000 := by first | omega | (simp only [List.length_set, List.length_append, List.length_cons, List.length_nil, List.length_replicate, List.length_take, List.length_drop] at * <;> omega)) (h1 : Z5 Zbw (E.enc x) = true := by rfl) : Ob ((dP ((1 = 1 ∧ ZO (1 * E.w) (List.drop 0 (E.enc x)) = some (E.enc x) ∧ Z5 Zbw (E.enc x) = true) ∧ 0 < 1 ∧ 1 ≤ 100000 ∧ L.length < L.length + 1 ∧ L.length ≤ 100000 ∧ L.length * E.w ≤ (List.length (Zd E L)) ∧ List.take (L.length * E.w) (Zd E L) ++ E.enc x = Zd E (L ++ [x])), true) :: l) := by
 refine kC ⟨⟨rfl, ?_, h1⟩, by omega, by omega, by omega, h, by rw [ZdH]; exact Nat.le_refl _, ?_⟩ hl
 ·rw [Nat.one_mul, List.drop_zero, ← E.len x, ZfB _ _ (Nat.le_refl _), List.take_length]
 ·rw [List.take_of_length_le (by rw [ZdH]; exact Nat.le_refl _), ZkO]
  show _ = _ ++ Zd E (x :: [])
  rw [Zdi, Zg0, List.append_nil]
theorem kA' (n : Nat) (x : α) (hl : Ob l) (hn : n = L.length := by first | rfl | omega | (simp only [List.length_append, List.length_cons, List.length_nil, List.length_take, List.length_drop, List.length_set] <;> omega)) (h : n ≤ 100000 := by first | omega | (simp only [List.length_set, List.length_append, List.length_cons, List.length_nil, List.length_replicate, List.length_take, List.length_drop] at * <;> omega)) (h1 : Z5 Zbw (E.enc x) = true := by rfl) : Ob ((dP ((1 = 1 ∧ ZO (1 * E.w) (List.drop 0 (E.enc x)) = some (E.enc x) ∧ Z5 Zbw (E.enc x) = true) ∧ 0 < 1 ∧ 1 ≤ 100000 ∧ n < n + 1 ∧ n ≤ 100000 ∧ n * E.w ≤ (List.length (Zd E L)) ∧ List.take (n * E.w) (Zd E L) ++ E.enc x = Zd E (L ++ [x])), true) :: l) := by
 subst hn
 exact kA E L x hl h h1
end
end
section
variable {ρ : Nat → Nat} {bl H : List (Option AObj)}
theorem bE : ZS ρ [] [] := trivial
theorem b1 {b : Option AObj} (h : ZS ρ bl H) : ZS ρ (b :: bl) (none :: H) := h
theorem bN (h : ZS ρ bl H) : ZS ρ (none :: bl) (none :: H) := h
theorem bC {o p : AObj} (h : ZfX ρ o p) (hb : ZS ρ bl H) : ZS ρ (some o :: bl) (some p :: H) := ⟨h, hb⟩
theorem bM (o : AObj) {p : AObj} (hb : ZS ρ bl H) (h : ZfX ρ o p := by exact ⟨rfl, ⟨[], by kernel_rfl⟩, by kernel_rfl⟩) : ZS ρ (some o :: bl) (some p :: H) := ⟨h, hb⟩
theorem bS (c : List Value) {t : TypeId} {c' : List Value} (hb : ZS ρ bl H) (h : c.map (Za4 ρ 1) = c' ++ [] := by rfl) (hs : Z5 (Zap 1) c = true := by rfl) : ZS ρ (some (.cells c t) :: bl) (some (.cells c' t) :: H) := ⟨⟨rfl, ⟨[], h⟩, hs⟩, hb⟩
theorem bR {α : Type} {E : Enc α} {L : List α} {t : TypeId} (hb : ZS ρ bl H) : ZS ρ (some (.cells (Zd E L) t) :: bl) (some (.cells (Zd E L) t) :: H) := ⟨ZdI _ L _, hb⟩
theorem bQ {α : Type} {E : Enc α} {L : List α} {t : TypeId} (hb : ZS ρ bl H) : ZS ρ (some (.cells (Zd E L) t true) :: bl) (some (.cells (Zd E L) t true) :: H) := ⟨Z17 _ L _, hb⟩
end
section
variable {P : Program} {ext : FuncId → Option Ext} {f : FuncId} {fn : Func} {pre : List AObj} {A : Array Value} {R : Type} {V : R → Value} {Po : R → List (Option AObj)} {bl : List (Option AObj)} {ob : List (Bool × Bool)}
theorem fxC (orc : Orc) (live : List Nat) (u : Value) {r : R} (ho : Ob ob) (hbl : ZS (rho live far) bl (Po r)) (hv : V r = Za4 (rho live far) 3 u ∧ Zap 3 u = true := by exact ⟨by rfl, by rfl⟩) (hev : Zti live (ZxA P ext fn pre A 4000 orc) = some (u, bl, ob) := by as_aux_lemma => kernel_rfl) (hl : live.length = (Po r).length := by rfl) (hn : live.Nodup := by decide +kernel) (hk : ZcU pre.length live = true := by rfl) : Fx P ext fn pre A V Po (some r) :=
 Z3u hev ho hl hn hk hv hbl
end
namespace Mach
section
variable {P : Program} {ext : FuncId → Option Ext} {M : Mach} {x : M.X} {A : Array Value} {bl : List (Option AObj)} {ob : List (Bool × Bool)}
section
variable (orc : Orc) (live : List Nat)
theorem okF (u : Value) {r : M.R} (ho : Ob ob) (hbl : ZS (rho live far) bl (M.Po r)) (hv : M.V r = Za4 (rho live far) 3 u ∧ Zap 3 u = true := by exact ⟨by rfl, by rfl⟩) (hev : ∀ gv, Zkz live (M.Start x gv P ext 1000000 0 4000 orc) = some (u, bl, ob) := by intro gv; kernel_rfl) (hl : live.length = (M.Po r).length := by rfl) (hn : live.Nodup := by decide +kernel) (hk : ZcU M.pre.length live = true := by rfl) : M.Ok P ext x (some (.inr r)) :=
 ok_fin hev ho hl hn hk hv hbl
theorem enF (u : Value) {r : M.R} (ho : Ob ob) (hbl : ZS (rho live far) bl (M.Po r)) (hv : M.V r = Za4 (rho live far) 3 u ∧ Zap 3 u = true := by exact ⟨by rfl, by rfl⟩) (hev : Zkz live (M.startE P ext A 1000000 0 4000 orc) = some (u, bl, ob) := by kernel_rfl) (hl : live.length = (M.Po r).length := by rfl) (hn : live.Nodup := by decide +kernel) (hk : ZcU M.pre.length live = true := by rfl) : M.Enter P ext A (some (.inr r)) :=
 en_fin hev ho hl hn hk hv hbl
theorem okN (tv : List (Option Value)) {y : M.X} (ho : Ob ob) (ht : Zdt (rho live far) tv (M.L y)) (hbl : ZS (rho live far) bl (M.H y)) (hr : M.hd y ∈ Zj (M.KK (M.hd x))) (hev : ∀ gv, Zn4 (M.hd y) live ((M.L y).map (·.1)) (M.Start x gv P ext 1000000 0 4000 orc) = some (tv, bl, ob) := by intro gv; kernel_rfl) (hL : M.isL (M.hd y) = true := by rfl) (hl : live.length = (M.H y).length := by rfl) (hn : live.Nodup := by decide +kernel) (hk : ZcU M.pre.length live = true := by rfl) : M.Ok P ext x (some (.inl y)) :=
 ok_next (tv := fun _ => tv) hL hr hev ho hl hn hk (fun _ => ht) hbl
end
theorem okC (bK : Code × List ZD) (cd cm : Nat) (orc : Orc) (live : List Nat) (tv : List (Option Value)) {y : M.X} (ho : Ob ob) (ht : Zdt (rho live far) tv (M.L y)) (hbl : ZS (rho live far) bl (M.H y)) (hsub : ∀ j ∈ Zj (M.code (M.hd y)).2, j ∈ Zj (M.KK (M.hd x))) (hev : ∀ gv, Ztj live ((M.L y).map (·.1)) (M.Start x gv P ext cd cm 4000 orc) = some (bK, tv, bl, ob) := by intro gv; kernel_rfl) (hr : bK = M.code (M.hd y) := by rfl) (hL : M.isL (M.hd y) = false := by rfl) (hl : live.length = (M.H y).length := by rfl) (hn : live.Nodup := by decide +kernel) (hk : ZcU M.pre.length live = true := by rfl) : M.Ok P ext x (some (.inl y)) :=
 Z3t (tv := fun _ => tv) hL hr hsub hev ho hl hn hk (fun _ => ht) hbl
section
variable (bK : Code × List ZD) (orc : Orc) (live : List Nat) (tv : List (Option Value))
theorem okH {y : M.X} (ho : Ob ob) (ht : Zdt (rho live far) tv (M.L y)) (hbl : ZS (rho live far) bl (M.H y)) (hsub : ∀ j ∈ Zj (M.code (M.hd y)).2, j ∈ Zj (M.KK (M.hd x))) (hev : ∀ gv, ZhE live ((M.L y).map (·.1)) (M.Start x gv P ext 1000000 0 4000 orc) = some (bK, tv, bl, ob) := by intro gv; kernel_rfl) (hr : bK = M.code (M.hd y) := by rfl) (hL : M.isL (M.hd y) = true := by rfl) (hl : live.length = (M.H y).length := by rfl) (hn : live.Nodup := by decide +kernel) (hk : ZcU M.pre.length live = true := by rfl) : M.Ok P ext x (some (.inl y)) :=
 Z2V (tv := fun _ => tv) hL hr hsub hev ho hl hn hk (fun _ => ht) hbl
theorem enH {y : M.X} (ho : Ob ob) (ht : Zdt (rho live far) tv (M.L y)) (hbl : ZS (rho live far) bl (M.H y)) (hsub : Zj (M.code (M.hd y)).2 = []) (hev : ZhE live ((M.L y).map (·.1)) (M.startE P ext A 1000000 0 4000 orc) = some (bK, tv, bl, ob) := by kernel_rfl) (hr : bK = M.code (M.hd y) := by rfl) (hL : M.isL (M.hd y) = true := by rfl) (hl : live.length = (M.H y).length := by rfl) (hn : live.Nodup := by decide +kernel) (hk : ZcU M.pre.length live = true := by rfl) : M.Enter P ext A (some (.inl y)) :=
 en_head hL hr hsub hev ho hl hn hk ht hbl
end
end
theorem oi {P : Program} {ext : FuncId → Option Ext} {M : Mach} {x : M.X} {c : Prop} [Decidable c] {A : Option (M.X ⊕ M.R)} (h : c → M.Ok P ext x A) : M.Ok P ext x (if c then A else none) := ok_ite h fun _ => ok_none
end Mach
theorem tE {ρ : Nat → Nat} : Zdt ρ [] [] := trivial
theorem tC {ρ : Nat → Nat} {u : Value} {tv : List (Option Value)} {x : Nat × Value} {l : List (Nat × Value)} (ht : Zdt ρ tv l) (h : x.2 = Za4 ρ 3 u ∧ Zap 3 u = true := by exact ⟨by rfl, by rfl⟩) : Zdt ρ (some u :: tv) (x :: l) := ⟨h, ht⟩
section
variable {l : List (Bool × Bool)}
end
theorem bU {ρ : Nat → Nat} {bl H : List (Option AObj)} (c : List Value) (j : Nat) {x y : Value} (hxy : x = y) {t : TypeId} {c' : List Value} (hb : ZS ρ bl H) (h1 : c.map (Za4 ρ 1) = c'.set j x := by rfl) (h2 : c'.set j y = c' := by rfl) (hs : Z5 (Zap 1) c = true := by rfl) : ZS ρ (some (.cells c t) :: bl) (some (.cells c' t) :: H) := ⟨⟨rfl, ⟨[], by rw [h1, hxy, h2, List.append_nil]⟩, hs⟩, hb⟩
theorem bU2 {ρ : Nat → Nat} {bl H : List (Option AObj)} (c : List Value) (j : Nat) {x y : Value} (hxy : x = y) (j' : Nat) {x' y' : Value} (hxy' : x' = y') {t : TypeId} {c' : List Value} (hb : ZS ρ bl H) (h1 : c.map (Za4 ρ 1) = (c'.set j x).set j' x' := by rfl) (h2 : (c'.set j y).set j' y' = c' := by rfl) (hs : Z5 (Zap 1) c = true := by rfl) : ZS ρ (some (.cells c t) :: bl) (some (.cells c' t) :: H) := ⟨⟨rfl, ⟨[], by rw [h1, hxy, hxy', h2, List.append_nil]⟩, hs⟩, hb⟩
section
variable {P : Program} {ext : FuncId → Option Ext} {f : FuncId} {fn : Func} {pre : List AObj} {A : Array Value} {R : Type} {V : R → Value} {Po : R → List (Option AObj)} {bl : List (Option AObj)} {ob : List (Bool × Bool)}
end
structure ToldS where
 A : Array Value
 pt : List (Nat × AObj)
 gv : Value
 qt : List (Nat × Option AObj)
 dn : Nat
noncomputable def ToldS.t (S : ToldS) : Told := .call S.pt S.gv S.qt S.dn
def ToldS.P (S : ToldS) (P : Program) (f : FuncId) (n : Nat) : Prop := ZcD P f S.A S.pt S.gv S.qt n S.dn
noncomputable def ZwG : List (Nat × AObj) → List (Bool × Bool) → List (Bool × Bool)
 | [], l => l
 | (_, .cells c _ _) :: r, l => (dP (c = c), true) :: ZwG r l
 | (_, .ro O _) :: r, l => (dP (O = O), true) :: ZwG r l
theorem ZrU : ∀ (r : List (Nat × AObj)) {l : List (Bool × Bool)}, Ob l → Ob (ZwG r l)
 | [], _, h => h
 | (_, .cells _ _ _) :: r, _, h => kR _ (ZrU r h)
 | (_, .ro _ _) :: r, _, h => kR _ (ZrU r h)
theorem kK {P : Program} {f : FuncId} {S : ToldS} {n : Nat} (h : S.P P f n) {l : List (Bool × Bool)} (hl : Ob l) : Ob ((dP (ZcD P f S.A S.pt S.gv S.qt n S.dn), true) :: ZwG S.pt l) := ZM (Z1 h) (ZrU _ hl)
theorem kKa {P : Program} {f : FuncId} {S : ToldS} {n : Nat} (h : S.P P f n) {l : List (Bool × Bool)} (hl : Ob l) : Ob ((dP (ZcD P f S.A S.pt S.gv S.qt n S.dn), true) :: l) := ZM (Z1 h) hl
theorem kKb {P : Program} {f : FuncId} {S : ToldS} {n : Nat} {A : Array Value} (e : A = S.A) (h : S.P P f n) {l : List (Bool × Bool)} (hl : Ob l) : Ob ((dP (ZcD P f A S.pt S.gv S.qt n S.dn), true) :: l) := ZM (Z1 (e ▸ h)) hl
theorem ZcO {P : Program} {f : FuncId} {A : Array Value} {pre : List AObj} {v : Value} {post : List (Option AObj)} (h : LSpec P f A pre v post) (κ : List Nat) (n : Nat) (ch : List Nat) {S : ToldS} (hnd : κ.Nodup) (hlt : ∀ k ∈ κ, k < n) (hκ : κ.length = pre.length := by rfl) (hle : Nat.ble pre.length post.length = true := by rfl) (hch : Z5 (fun j => Nat.blt j post.length) ch = true := by rfl)
  (hA : Z5 (Zbd pre.length 3) A.toList = true := by rfl) (hpre : Zn2 pre.length pre := by repeat' (first | exact trivial | apply And.intro | exact Zdj _ _ _ | rfl)) (hv : (Zbd post.length 3 v || Zc9 v) = true := by rfl) (hpost : Zj1 post.length post := by repeat' (first | exact trivial | apply And.intro | exact Zdj _ _ _ | rfl)) (hk : Zx1 ch 0 pre post := by repeat' (first | exact trivial | apply And.intro | exact Or.inl (by decide) | exact Or.inr rfl | decide))
  (eA : S.A = Zhn (Za4 (kap κ n) 3) A := by rfl) (ev : S.gv = Za4 (kap κ n) 3 v := by rfl) (edn : pre.length + S.dn = post.length := by rfl) (ep : S.pt = preL κ n pre := by repeat' (first | refine Zf (Zky rfl ?_) ?_ | exact ZkQ _ _ _ | exact Zv6 _ _ _ | rfl)) (eq : S.qt = Z0A κ n ch post := by repeat' (first | refine Zf (Zky rfl ?_) ?_ | refine ZzO ?_ | exact ZkQ _ _ _ | exact Zv6 _ _ _ | rfl)) : S.P P f n :=
 LSpec.callL h κ n ch hκ hnd hlt (Nat.le_of_ble_eq_true hle) (fun j hj => Nat.le_of_ble_eq_true (ZaG hch j hj)) hA hpre hv hpost hk eA ev edn ep eq
def tP {P : Program} {f : FuncId} {A : Array Value} {v : Value} {post : List (Option AObj)} (_h : LSpec P f A [] v post) : ToldS := ⟨A, [], v, [], 0⟩
theorem tQ {P : Program} {f : FuncId} {A : Array Value} {v : Value} {post : List (Option AObj)} (h : LSpec P f A [] v post) (n : Nat) (hp : post = [] := by rfl) (hA : Z5 (Zbd 0 3) A.toList = true := by rfl) (hv : (Zbd 0 3 v || Zc9 v) = true := by rfl) (eA : A = Zhn (Za4 (kap [] n) 3) A := by rfl) (ev : v = Za4 (kap [] n) 3 v := by rfl) : (tP h).P P f n := by
 subst hp
 exact ZcO h [] n [] (S := tP h) List.nodup_nil (fun _ q => by cases q) rfl rfl rfl hA trivial hv trivial trivial eA ev rfl rfl rfl
theorem ci {a b : Int} (h : a = b := by first | rfl | omega) : Value.int .i64 a = Value.int .i64 b := congrArg _ h
theorem cr {a : Value} {l m : List Value} (h : l = m) : a :: l = a :: m := congrArg _ h
theorem cr4 {a b c d : Value} {l m : List Value} (h : l = m) : a :: b :: c :: d :: l = a :: b :: c :: d :: m := congrArg (fun l => a :: b :: c :: d :: l) h
theorem nbf {b : Bool} (h : b = true := by first | assumption | exact Decidable.not_not.1 (by assumption) | simp_all) : (!b) = false := Z3w h
theorem nbt {b : Bool} (h : ¬ (b = true) := by first | assumption | simp_all) : (!b) = true := Z3v h
set_option linter.unusedVariables false
section
variable {α : Type} {E : Enc α}
theorem ZzT (hE : ∀ x, (E.enc x).map (nlV 0) = E.enc x) : ∀ L : List α, (Zd E L).map (nlV 0) = Zd E L
 | [] => by rw [Zg0]; rfl
 | x :: L => by rw [Zdi, List.map_append, hE, ZzT hE L]
theorem Z30 (hE : ∀ x, (E.enc x).map (nlV 0) = E.enc x) {L : List α} {l : List Value} {x : α} (hl : l.map (nlV 0) = E.enc x) : (Zd E L ++ l).map (nlV 0) = Zd E (L ++ [x]) := by
 rw [List.map_append, ZzT hE, hl, ZkO, Zdi, Zg0, List.append_nil]
theorem Z31 {l : List Value} {x : α} (hl : l.map (nlV 0) = E.enc x) : l.map (nlV 0) = Zd E [x] := by
 rw [hl, Zdi, Zg0, List.append_nil]
theorem Z32 {L L0 : List α} {l : List Value} {n m : Nat} (hm : m = n * E.w) (hn : n ≤ L.length) (hR : L.take n = L0) : m ≤ (Zd E L).length ∧ (Zd E L).take m ++ l = Zd E L0 ++ l := by
 subst hm hR
 exact ⟨by rw [ZdH]; exact Nat.mul_le_mul_right _ hn, by rw [Zl8]⟩
end
section
variable {α : Type} {E : Enc α}
def ZjC (d : α) (n : Nat) (L : List α) : List α := (List.range n).map fun i => L.getD i d
def ZaM (E : Enc α) (n : Nat) (a : List Value) (L : List α) (b : List Value) : List Value := a ++ (Zd E (ZjC E.dflt n L) ++ b)
theorem Zn7 {d : α} {n : Nat} {L : List α} : (ZjC d n L).length = n := by simp [ZjC]
theorem ZxF {d : α} {n i : Nat} {L : List α} (h : i < n) : (ZjC d n L).getD i d = L.getD i d := by simp [ZjC, h]
theorem Z2x {d x : α} {n i : Nat} {L : List α} (h : i < n) (hl : i < L.length) : ZjC d n (L.set i x) = (ZjC d n L).set i x := by
 apply List.ext_getElem?
 intro j
 simp only [ZjC, List.getElem?_map, List.getElem?_set, List.length_map, List.length_range]
 by_cases hj : j < n
 ·rw [List.getElem?_range hj]
  by_cases hij : i = j
  ·subst hij
   simp [hj, List.getD, List.getElem?_set, hl]
  ·simp [hij, List.getD, List.getElem?_set]
 ·rw [List.getElem?_eq_none (by simp; omega)]
  by_cases hij : i = j
  ·subst hij; omega
  ·simp [hij]
theorem Z18 {β : Type} {m : Nat} {l r : List β} (h : m ≤ l.length) : ZO m (l ++ r) = ZO m l := by
 rw [ZfB m _ (by simp; omega), ZfB m _ h, List.take_append_of_le_length h]
theorem Zn8 {n p i q m o : Nat} {a b : List Value} {L : List α} {cs : List Cell} (ha : a.length = p) (hi : i < n) (ho : o = p + i * E.w + q) (hq : q + m ≤ E.w) (hs : ZeF cs = true) (hc : ((E.enc (L.getD i E.dflt)).drop q).take m = Zw cs) : Ze8 (ZO m ((ZaM E n a L b).drop o)) cs = true := by
 have hlen : (Zd E (ZjC E.dflt n L)).length = n * E.w := by rw [ZdH, Zn7]
 have hle : (i + 1) * E.w ≤ n * E.w := Nat.mul_le_mul_right _ hi
 rw [Nat.add_mul, Nat.one_mul] at hle
 subst ho ha
 unfold ZaM
 rw [Nat.add_assoc, ← List.drop_drop, List.drop_left', List.drop_append_of_le_length (by omega), Z18 (by rw [List.length_drop]; omega)]
 ·exact Z11 (i := i) (q := q) (by rw [Zn7]; exact hi) rfl hq hs (by rw [ZxF hi]; exact hc)
 ·rfl
theorem Zuq {n p i q o : Nat} {a b l : List Value} {L : List α} (x : α) (ha : a.length = p) (hi : i < n) (hl : i < L.length) (ho : o = p + i * E.w + q) (hq : q + l.length ≤ E.w) (hx : Zgr (E.enc (L.getD i E.dflt)) q l = E.enc x) : o + l.length ≤ (ZaM E n a L b).length ∧ Zgr (ZaM E n a L b) o l = ZaM E n a (L.set i x) b := by
 have hlen : (Zd E (ZjC E.dflt n L)).length = n * E.w := by rw [ZdH, Zn7]
 have hle : (i + 1) * E.w ≤ n * E.w := Nat.mul_le_mul_right _ hi
 rw [Nat.add_mul, Nat.one_mul] at hle
 obtain ⟨_, h2⟩ := Zdu (E := E) (L := ZjC E.dflt n L) (i := i) (q := q) (o := i * E.w + q) (l := l) x (by rw [Zn7]; exact hi) rfl hq (by rw [ZxF hi]; exact hx)
 subst ho ha
 refine ⟨by unfold ZaM; simp only [List.length_append, hlen]; omega, ?_⟩
 unfold ZaM
 rw [Z2x hi hl, ← h2]
 unfold Zgr
 generalize Zd E (ZjC E.dflt n L) = X at hlen
 have t1 : (a ++ (X ++ b)).take (a.length + (i * E.w + q)) = a ++ X.take (i * E.w + q) := by
  rw [List.take_append, List.take_of_length_le (by omega), Nat.add_sub_cancel_left, List.take_append_of_le_length (by omega)]
 have d1 : (a ++ (X ++ b)).drop (a.length + (i * E.w + q) + l.length) = X.drop (i * E.w + q + l.length) ++ b := by
  rw [Nat.add_assoc, ← List.drop_drop, List.drop_left', List.drop_append_of_le_length (by omega)]
  rfl
 rw [show a.length + i * E.w + q = a.length + (i * E.w + q) from Nat.add_assoc _ _ _, t1, d1]
 simp
end
end Ev
end Go.Proofs.YthfohmhipifiaaaGreat
