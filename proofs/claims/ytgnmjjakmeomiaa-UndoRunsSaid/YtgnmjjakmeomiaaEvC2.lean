/- Calls that are told, from what is known of a function. -/
import Derived.Test.YtgnmjjakmeomiaaEvZ
namespace Go.Proofs.Ytgnmjjakmeomiaa
open Go.RowKit
namespace Ev
section
variable {P : Program} {ext : FuncId → Option Ext}
def preL (κ : List Nat) (n : Nat) (pre : List AObj) : List (Nat × AObj) := κ.zip (pre.map (Zhc (kap κ n)))
def ZoP (κ : List Nat) (n : Nat) (ch : List Nat) (post : List (Option AObj)) : List (Nat × Option AObj) := ch.map fun j => (kap κ n j, (lkO post j).map (Zhc (kap κ n)))
def Zkd (m : Nat) : List AObj → Prop
 | [] => True
 | o :: l => Zf4 m o = true ∧ Zkd m l
def ZgL (m : Nat) : List (Option AObj) → Prop
 | [] => True
 | some o :: l => Zf4 m o = true ∧ ZgL m l
 | none :: l => ZgL m l
theorem Zl5 {m : Nat} : ∀ {l : List AObj}, Zkd m l → ∀ o ∈ l, Zf4 m o = true
 | x :: l, h, o, ho => by
  rcases List.mem_cons.1 ho with rfl | ho
  ·exact h.1
  ·exact Zl5 h.2 o ho
theorem ZhN {m : Nat} : ∀ {l : List (Option AObj)}, ZgL m l → ∀ o, some o ∈ l → Zf4 m o = true
 | some x :: l, h, o, ho => by
  rcases List.mem_cons.1 ho with e | ho
  ·injection e with e; subst e; exact h.1
  ·exact ZhN h.2 o ho
 | none :: l, h, o, ho => by
  rcases List.mem_cons.1 ho with e | ho
  ·cases e
  ·exact ZhN (l := l) h o ho
def ZnK (ch : List Nat) : Nat → List AObj → List (Option AObj) → Prop
 | _, _, [] => True
 | j, o :: l, p :: r => (j ∈ ch ∨ p = some o) ∧ ZnK ch (j + 1) l r
 | j, [], _ :: r => j ∈ ch ∧ ZnK ch (j + 1) [] r
theorem Zlh {ch : List Nat} : ∀ {l : List AObj} {r : List (Option AObj)} {j : Nat}, ZnK ch j l r → ∀ i, i < r.length → j + i ∈ ch ∨ (i < l.length ∧ r[i]? = some l[i]?)
 | o :: l, p :: r, j, h, 0, _ => by
  rcases h.1 with h | h
  ·exact .inl h
  ·exact .inr ⟨by simp, by simp [h]⟩
 | o :: l, p :: r, j, h, i + 1, hi => by
  rcases Zlh h.2 i (by simpa using hi) with q | ⟨q1, q2⟩
  ·exact .inl (by rwa [show j + (i + 1) = j + 1 + i by omega])
  ·exact .inr ⟨by simpa using q1, by simpa using q2⟩
 | [], p :: r, j, h, 0, _ => .inl h.1
 | [], p :: r, j, h, i + 1, hi => by
  rcases Zlh h.2 i (by simpa using hi) with q | ⟨q1, q2⟩
  ·exact .inl (by rwa [show j + (i + 1) = j + 1 + i by omega])
  ·simp at q1
theorem Zmw {α : Type} {k : Nat} {x : α} : ∀ {ks : List Nat} {l : List α} {j : Nat}, ks.Nodup → ks[j]? = some k → l[j]? = some x → ZH k (ks.zip l) = some x
 | a :: ks, b :: l, 0, _, h1, h2 => by
  simp at h1 h2
  subst h1 h2
  simp [ZH]
 | a :: ks, b :: l, j + 1, hn, h1, h2 => by
  have hm : k ∈ ks := List.mem_of_getElem? (by simpa using h1)
  have hne : a ≠ k := fun e => by subst e; exact (List.nodup_cons.1 hn).1 hm
  show ZH k ((a, b) :: ks.zip l) = _
  unfold ZH
  rw [Zfi hne]
  exact Zmw (List.nodup_cons.1 hn).2 (by simpa using h1) (by simpa using h2)
 | [], _, j, _, h1, _ => by simp at h1
 | a :: ks, [], j, _, _, h2 => by simp at h2
theorem Zmx {f : Nat → Nat} {g : Nat → Option AObj} (hf : ∀ i j, f i = f j → i = j) (j : Nat) : ∀ ch : List Nat, ZH (f j) (ch.map fun i => (f i, g i)) = if j ∈ ch then some (g j) else none
 | [] => rfl
 | a :: ch => by
  show ZH (f j) ((f a, g a) :: ch.map fun i => (f i, g i)) = _
  unfold ZH
  by_cases h : a = j
  ·subst h; rw [Zfj rfl]; simp
  ·rw [Zfi (fun e => h (hf _ _ e)), cond_false, Zmx hf j ch]
   simp [show ¬ j = a from fun e => h e.symm]
theorem LSpec.callL {f : FuncId} {A : Array Value} {pre : List AObj} {v : Value} {post : List (Option AObj)} (h : LSpec P f A pre v post) (κ : List Nat) (n : Nat) (ch : List Nat) (hκ : κ.length = pre.length) (hnd : κ.Nodup) (hlt : ∀ k ∈ κ, k < n) (hle : pre.length ≤ post.length) (hch : ∀ j ∈ ch, j < post.length)
  (hA : Zu (ZaW pre.length 3) A.toList = true) (hpre : Zkd pre.length pre) (hv : ZaW post.length 3 v = true) (hpost : ZgL post.length post) (hk : ZnK ch 0 pre post)
  {A' : Array Value} {pre' : List (Nat × AObj)} {v' : Value} {post' : List (Nat × Option AObj)} {dn : Nat} (eA : A' = ZeU (ZaC (kap κ n) 3) A) (ev : v' = ZaC (kap κ n) 3 v) (edn : pre.length + dn = post.length) (ep : pre' = preL κ n pre) (eq : post' = ZoP κ n ch post) : Z9 P f A' pre' v' post' n dn := by
 have kl : ∀ j, j < pre.length → κ[j]? = some (kap κ n j) := fun j hj => ZkB (by omega)
 have kn : ∀ j, j < pre.length → kap κ n j < n := fun j hj => hlt _ (List.mem_of_getElem? (kl j hj))
 have kg : ∀ j, pre.length ≤ j → kap κ n j = n + (j - pre.length) := fun j hj => by rw [← hκ]; exact Zod (by omega)
 have kinj : ∀ i j, kap κ n i = kap κ n j → i = j := fun i j hij => by
  rcases Nat.lt_or_ge i pre.length with h1 | h1 <;> rcases Nat.lt_or_ge j pre.length with h2 | h2
  ·have a := kl i h1
   have b := kl j h2
   rw [hij, ← b] at a
   exact (List.getElem?_inj (by omega) hnd).1 a
  ·have := kn i h1; rw [hij, kg j h2] at this; omega
  ·have := kn j h2; rw [← hij, kg i h1] at this; omega
  ·rw [kg i h1, kg j h2] at hij; omega
 have lp : ∀ j o, pre[j]? = some o → ZH (kap κ n j) pre' = some (Zhc (kap κ n) o) := fun j o ho => by
  subst ep
  have hj : j < pre.length := (List.getElem?_eq_some_iff.1 ho).1
  exact Zmw hnd (kl j hj) (by rw [List.getElem?_map, ho]; rfl)
 have ip : ∀ k o, ZH k pre' = some o → ∃ j, j < pre.length ∧ k = kap κ n j := fun k o ho => by
  subst ep
  obtain ⟨j, hj1, hj2⟩ := List.getElem_of_mem (List.of_mem_zip (Zfm ho)).1
  have hj : j < pre.length := by omega
  refine ⟨j, hj, ?_⟩
  have := kl j hj
  rw [List.getElem?_eq_getElem hj1, hj2] at this
  exact Option.some.inj this
 have lq : ∀ j, ZH (kap κ n j) post' = if j ∈ ch then some ((lkO post j).map (Zhc (kap κ n))) else none := fun j => by
  subst eq
  exact Zmx (g := fun j => (lkO post j).map (Zhc (kap κ n))) kinj j ch
 refine h.call κ n hκ hnd hlt hle hA (Zl5 hpre) hv (ZhN hpost) eA ev edn lp ip (fun j hj => ?_) (fun k o ho => ?_)
 ·unfold behind
  rw [lq j]
  rcases Zlh hk j hj with hc | ⟨h1, h2⟩
  ·rw [Nat.zero_add] at hc
   rw [if_pos hc]
  ·by_cases hc : j ∈ ch
   ·rw [if_pos hc]
   ·rw [if_neg hc]
    have ho : pre[j]? = some pre[j] := List.getElem?_eq_getElem h1
    show ZH (kap κ n j) pre' = _
    rw [lp j _ ho]
    simp [lkO, h2, ho]
 ·unfold behind at ho
  split at ho
  ·rename_i o' hl
   subst eq
   have := Zfm hl
   unfold ZoP at this
   obtain ⟨j, hj, he⟩ := List.mem_map.1 this
   injection he with h1 h2
   exact ⟨j, hch j hj, h1.symm⟩
  ·obtain ⟨j, hj, hk⟩ := ip k o ho
   exact ⟨j, by omega, hk⟩
end
theorem Z3 {α β : Type} {a a' : α} {b b' : β} (h : a = a') (k : b = b') : (a, b) = (a', b') := by rw [h, k]
theorem ZbN {α : Type} {a a' : α} (h : a = a') : some a = some a' := by rw [h]
theorem Zag {l r : List Value} (h : l = r) : l.toArray = r.toArray := by rw [h]
end Ev
end Go.Proofs.Ytgnmjjakmeomiaa
