/- Calls that are told, from what is known of a function. -/
import Derived.Test.YtldlnclkdgfahaaGreatEvZ
namespace Go.Proofs.YtldlnclkdgfahaaGreat
open Go.RowKit
namespace Ev
section
variable {P : Program} {ext : FuncId → Option Ext}
def preL (κ : List Nat) (n : Nat) (pre : List AObj) : List (Nat × AObj) := κ.zip (pre.map (renO (kap κ n)))
def postL (κ : List Nat) (n : Nat) (ch : List Nat) (post : List (Option AObj)) : List (Nat × Option AObj) := ch.map fun j => (kap κ n j, (lkO post j).map (renO (kap κ n)))
def UnderAll (m : Nat) : List AObj → Prop
  | [] => True
  | o :: l => underO m o = true ∧ UnderAll m l
def UnderAllO (m : Nat) : List (Option AObj) → Prop
  | [] => True
  | some o :: l => underO m o = true ∧ UnderAllO m l
  | none :: l => UnderAllO m l
theorem under_all {m : Nat} : ∀ {l : List AObj}, UnderAll m l → ∀ o ∈ l, underO m o = true
  | x :: l, h, o, ho => by
    rcases List.mem_cons.1 ho with rfl | ho
    · exact h.1
    · exact under_all h.2 o ho
theorem under_allO {m : Nat} : ∀ {l : List (Option AObj)}, UnderAllO m l → ∀ o, some o ∈ l → underO m o = true
  | some x :: l, h, o, ho => by
    rcases List.mem_cons.1 ho with e | ho
    · injection e with e; subst e; exact h.1
    · exact under_allO h.2 o ho
  | none :: l, h, o, ho => by
    rcases List.mem_cons.1 ho with e | ho
    · cases e
    · exact under_allO (l := l) h o ho
/-- Those that are not told changed stand as ahead. -/
def Kept (ch : List Nat) : Nat → List AObj → List (Option AObj) → Prop
  | _, _, [] => True
  | j, o :: l, p :: r => (j ∈ ch ∨ p = some o) ∧ Kept ch (j + 1) l r
  | j, [], _ :: r => j ∈ ch ∧ Kept ch (j + 1) [] r
theorem kept_at {ch : List Nat} : ∀ {l : List AObj} {r : List (Option AObj)} {j : Nat}, Kept ch j l r → ∀ i, i < r.length → j + i ∈ ch ∨ (i < l.length ∧ r[i]? = some l[i]?)
  | o :: l, p :: r, j, h, 0, _ => by
    rcases h.1 with h | h
    · exact .inl h
    · exact .inr ⟨by simp, by simp [h]⟩
  | o :: l, p :: r, j, h, i + 1, hi => by
    rcases kept_at h.2 i (by simpa using hi) with q | ⟨q1, q2⟩
    · exact .inl (by rwa [show j + (i + 1) = j + 1 + i by omega])
    · exact .inr ⟨by simpa using q1, by simpa using q2⟩
  | [], p :: r, j, h, 0, _ => .inl h.1
  | [], p :: r, j, h, i + 1, hi => by
    rcases kept_at h.2 i (by simpa using hi) with q | ⟨q1, q2⟩
    · exact .inl (by rwa [show j + (i + 1) = j + 1 + i by omega])
    · simp at q1
theorem look_zip {α : Type} {k : Nat} {x : α} : ∀ {ks : List Nat} {l : List α} {j : Nat}, ks.Nodup → ks[j]? = some k → l[j]? = some x → look k (ks.zip l) = some x
  | a :: ks, b :: l, 0, _, h1, h2 => by
    simp at h1 h2
    subst h1 h2
    simp [look]
  | a :: ks, b :: l, j + 1, hn, h1, h2 => by
    have hm : k ∈ ks := List.mem_of_getElem? (by simpa using h1)
    have hne : a ≠ k := fun e => by subst e; exact (List.nodup_cons.1 hn).1 hm
    show look k ((a, b) :: ks.zip l) = _
    unfold look
    rw [beqF hne]
    exact look_zip (List.nodup_cons.1 hn).2 (by simpa using h1) (by simpa using h2)
  | [], _, j, _, h1, _ => by simp at h1
  | a :: ks, [], j, _, _, h2 => by simp at h2
theorem look_inv {α : Type} {k : Nat} {x : α} {l : List (Nat × α)} (h : look k l = some x) : (k, x) ∈ l := look_mem h
theorem look_map {f : Nat → Nat} {g : Nat → Option AObj} (hf : ∀ i j, f i = f j → i = j) (j : Nat) : ∀ ch : List Nat, look (f j) (ch.map fun i => (f i, g i)) = if j ∈ ch then some (g j) else none
  | [] => rfl
  | a :: ch => by
    show look (f j) ((f a, g a) :: ch.map fun i => (f i, g i)) = _
    unfold look
    by_cases h : a = j
    · subst h; rw [beqT rfl]; simp
    · rw [beqF (fun e => h (hf _ _ e)), cond_false, look_map hf j ch]
      simp [show ¬ j = a from fun e => h e.symm]
theorem LSpec.callL {f : FuncId} {A : Array Value} {pre : List AObj} {v : Value} {post : List (Option AObj)} (h : LSpec P f A pre v post) (κ : List Nat) (n : Nat) (ch : List Nat) (hκ : κ.length = pre.length) (hnd : κ.Nodup) (hlt : ∀ k ∈ κ, k < n) (hle : pre.length ≤ post.length) (hch : ∀ j ∈ ch, j < post.length)
    (hA : allB (under pre.length 3) A.toList = true) (hpre : UnderAll pre.length pre) (hv : under post.length 3 v = true) (hpost : UnderAllO post.length post) (hk : Kept ch 0 pre post)
    {A' : Array Value} {pre' : List (Nat × AObj)} {v' : Value} {post' : List (Nat × Option AObj)} {dn : Nat} (eA : A' = amap (renV (kap κ n) 3) A) (ev : v' = renV (kap κ n) 3 v) (edn : pre.length + dn = post.length) (ep : pre' = preL κ n pre) (eq : post' = postL κ n ch post) : CallSpec P f A' pre' v' post' n dn := by
  have kl : ∀ j, j < pre.length → κ[j]? = some (kap κ n j) := fun j hj => kap_lt (by omega)
  have kn : ∀ j, j < pre.length → kap κ n j < n := fun j hj => hlt _ (List.mem_of_getElem? (kl j hj))
  have kg : ∀ j, pre.length ≤ j → kap κ n j = n + (j - pre.length) := fun j hj => by rw [← hκ]; exact kap_ge (by omega)
  have kinj : ∀ i j, kap κ n i = kap κ n j → i = j := fun i j hij => by
    rcases Nat.lt_or_ge i pre.length with h1 | h1 <;> rcases Nat.lt_or_ge j pre.length with h2 | h2
    · have a := kl i h1
      have b := kl j h2
      rw [hij, ← b] at a
      exact (List.getElem?_inj (by omega) hnd).1 a
    · have := kn i h1; rw [hij, kg j h2] at this; omega
    · have := kn j h2; rw [← hij, kg i h1] at this; omega
    · rw [kg i h1, kg j h2] at hij; omega
  have lp : ∀ j o, pre[j]? = some o → look (kap κ n j) pre' = some (renO (kap κ n) o) := fun j o ho => by
    subst ep
    have hj : j < pre.length := (List.getElem?_eq_some_iff.1 ho).1
    exact look_zip hnd (kl j hj) (by rw [List.getElem?_map, ho]; rfl)
  have ip : ∀ k o, look k pre' = some o → ∃ j, j < pre.length ∧ k = kap κ n j := fun k o ho => by
    subst ep
    obtain ⟨j, hj1, hj2⟩ := List.getElem_of_mem (List.of_mem_zip (look_mem ho)).1
    have hj : j < pre.length := by omega
    refine ⟨j, hj, ?_⟩
    have := kl j hj
    rw [List.getElem?_eq_getElem hj1, hj2] at this
    exact Option.some.inj this
  have lq : ∀ j, look (kap κ n j) post' = if j ∈ ch then some ((lkO post j).map (renO (kap κ n))) else none := fun j => by
    subst eq
    exact look_map (g := fun j => (lkO post j).map (renO (kap κ n))) kinj j ch
  refine h.call κ n hκ hnd hlt hle hA (under_all hpre) hv (under_allO hpost) eA ev edn lp ip (fun j hj => ?_) (fun k o ho => ?_)
  · unfold behind
    rw [lq j]
    rcases kept_at hk j hj with hc | ⟨h1, h2⟩
    · rw [Nat.zero_add] at hc
      rw [if_pos hc]
    · by_cases hc : j ∈ ch
      · rw [if_pos hc]
      · rw [if_neg hc]
        have ho : pre[j]? = some pre[j] := List.getElem?_eq_getElem h1
        show look (kap κ n j) pre' = _
        rw [lp j _ ho]
        simp [lkO, h2, ho]
  · unfold behind at ho
    split at ho
    · rename_i o' hl
      subst eq
      have := look_mem hl
      unfold postL at this
      obtain ⟨j, hj, he⟩ := List.mem_map.1 this
      injection he with h1 h2
      exact ⟨j, hch j hj, h1.symm⟩
    · obtain ⟨j, hj, hk⟩ := ip k o ho
      exact ⟨j, by omega, hk⟩
end
theorem renO_ints (ρ : Nat → Nat) (L : List Int) (t : TypeId) : AObj.cells (int64s L) t = renO ρ (.cells (int64s L) t) := by
  show _ = AObj.cells ((int64s L).map (renV ρ 1)) t
  rw [ren_ints]
theorem pair_eq {α β : Type} {a a' : α} {b b' : β} (h : a = a') (k : b = b') : (a, b) = (a', b') := by rw [h, k]
theorem some_eq {α : Type} {a a' : α} (h : a = a') : some a = some a' := by rw [h]
theorem cells_eq {c c' : List Value} {t : TypeId} (h : c = c') : AObj.cells c t = .cells c' t := by rw [h]
theorem ints_eq {a b : List Int} (h : a = b) : int64s a = int64s b := by rw [h]
theorem array_eq {l r : List Value} (h : l = r) : l.toArray = r.toArray := by rw [h]
end Ev
end Go.Proofs.YtldlnclkdgfahaaGreat
