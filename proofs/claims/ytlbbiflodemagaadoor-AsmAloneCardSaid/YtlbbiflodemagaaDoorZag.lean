/- The law AsmAlone, for every input. -/
import Derived.Test.YtlbbiflodemagaaDoorZaf
import Derived.Test.YtlbbiflodemagaaDoorZac
import Derived.StillTail
import Derived.OrdersHeld
import Derived.WideBlind
import Derived.Test.YtlbbiflodemagaaDoorZad
import Derived.Lib.LaidTab
import Derived.LaidMore
import Derived.LaidSub
import Derived.MakeChecks
import Derived.Handed
import Derived.Stop.Joined
import Derived.LaidLaws
import Derived.Test.YtlbbiflodemagaaDoorTie
import Derived.Test.YtlbbiflodemagaaDoorCards
import Derived.Lay
set_option linter.unusedSimpArgs false
set_option linter.unusedVariables false
/- Parse, plainly: jumps are aimed; all of it. -/
namespace Go.Proofs.YtlbbiflodemagaaDoor
open Go.RowKit
namespace Ev
set_option linter.unusedVariables false
def ckB (c : RA) (N : Nat) : Bool := match ZG c.a0 c.a1 c.a2 c.a3 N with | some (.r0 x) => decide (x = 0) | none => false
def ZgT (c : RA) (t : Int) : RA := if c.a0 = 8 then ⟨c.a0, t, c.a2, c.a3⟩ else if c.a0 = 9 then ⟨c.a0, c.a1, t, c.a3⟩ else c
def ZkG (pl : List R_si) (N i : Nat) (p : List RA) (js : List R_is) : Option (List RA × List R_is) :=
 match js with
 | [] => if ckB (p.getD i RA.z) N = true then some (p, []) else none
 | j :: js' => if j.a0 = (i : Int) then
   if Ze7 pl j.a1 = true then
    if ckB (ZgT (p.getD i RA.z) (ZD pl j.a1)) N = true then some (p.set i (ZgT (p.getD i RA.z) (ZD pl j.a1)), js') else none
   else none
  else if ckB (p.getD i RA.z) N = true then some (p, j :: js') else none
def ZiW (pl : List R_si) (ls : List Int) (N : Nat) : Nat → Nat → List RA → List R_is → Int ⊕ List RA
 | 0, _, p, _ => .inr p
 | f + 1, i, p, js => if i < p.length then
   match ZkG pl N i p js with
   | some q => ZiW pl ls N f (i + 1) q.1 q.2
   | none => .inl (ls.getD i 0)
  else .inr p
theorem Zjt (pl : List R_si) (ls : List Int) (N f i : Nat) (p : List RA) (js : List R_is) : ZiW pl ls N (f + 1) i p js = if i < p.length then (match ZkG pl N i p js with | some q => ZiW pl ls N f (i + 1) q.1 q.2 | none => .inl (ls.getD i 0)) else .inr p := rfl
section
variable {A : List Int} {a1 : Int} {L2 : List RA} {L3 : List Int} {L4 : List R_is} {L5 : List (List Int)} {L6 : List R_si} {N : Nat}
theorem ZoP {R : Type} (c : RA) {k : ZaQ → Option R} {r1 r2 : R} (h1 : ∀ x, x ≠ 0 → k (.r0 x) = some r2) (h2 : k (.r0 0) = some r1) : (ZG c.a0 c.a1 c.a2 c.a3 N).bind k = some (if ckB c N = true then r1 else r2) := by
 obtain ⟨x, hx⟩ := Zpv c.a0 c.a1 c.a2 c.a3 N
 unfold ckB
 rw [hx]
 show k (.r0 x) = some (if decide (x = 0) = true then r1 else r2)
 by_cases h : x = 0
 ·subst h; rw [if_pos (by decide)]; exact h2
 ·rw [if_neg (by simpa using h)]; exact h1 x h
theorem ZpP {R : Type} {c : RA} {k : ZaQ → Option R} {r1 r2 : R} {Q : R → Prop} (h1 : ∀ x, x ≠ 0 → k (.r0 x) = some r2) (h2 : k (.r0 0) = some r1) (q1 : ckB c N = true → Q r1) (q2 : ckB c N = false → Q r2) : ∃ y, (ZG c.a0 c.a1 c.a2 c.a3 N).bind k = some y ∧ Q y := by
 rw [ZoP c h1 h2]
 cases h : ckB c N with
 | true => exact ⟨r1, rfl, q1 h⟩
 | false => exact ⟨r2, rfl, q2 h⟩
def Rep (L2 : List RA) (L4 : List R_is) (x : asm_reader_aimX) (i : Nat) (p : List RA) (js : List R_is) : Prop :=
 (∃ l, x = .h1m0 i l ∧ p = L2 ∧ js = L4) ∨ ∃ l o n, x = .h1m1 p i l o n ∧ o + n = L4.length ∧ js = L4.drop o ∧ p.length = L2.length
def Zuz (L2 : List RA) (r : Zy) (p : List RA) : Prop := (∃ l, r = .r1 l ∧ p = L2) ∨ ∃ l a b, r = .r2 p l a b
theorem Zwp {α : Type} {L : List α} {o : Nat} {j : α} {js : List α} (d : α) (h : L.drop o = j :: js) : o < L.length ∧ L.getD o d = j ∧ L.drop (o + 1) = js := by
 have hl : o < L.length := by
  rcases Nat.lt_or_ge o L.length with h1 | h1
  ·exact h1
  ·rw [List.drop_of_length_le h1] at h; cases h
 rw [List.drop_eq_getElem_cons hl] at h
 injection h with h1 h2
 exact ⟨hl, by simp [List.getD, hl, h1], h2⟩
theorem Zsy {x : asm_reader_aimX} {i : Nat} {p : List RA} {js : List R_is} (hR : Rep L2 L4 x i p js) (hi : ¬ i < p.length) : ∃ r, Zbc A a1 L2 L3 L4 L5 L6 N x = some (.inr r) ∧ Zuz L2 r p := by
 rcases hR with ⟨l, rfl, rfl, rfl⟩ | ⟨l, o, n, rfl, h1, rfl, h3⟩
 ·refine ⟨.r1 l, ?_, .inl ⟨l, rfl, rfl⟩⟩
  show Zbk A a1 p L3 js L5 L6 N i l = _
  unfold Zbk
  exact ZF (by omega) rfl
 ·refine ⟨.r2 p l o n, ?_, .inr ⟨l, o, n, rfl⟩⟩
  show Zbl A a1 L2 L3 L4 L5 L6 N p i l o n = _
  unfold Zbl
  exact ZF (by omega) rfl
theorem ZwF {x : asm_reader_aimX} {i : Nat} {p : List RA} {js : List R_is} (hR : Rep L2 L4 x i p js) (hi : i < p.length) (hl : L3.length = L2.length) (hp : L2.length ≤ 512) :
  ∃ y, Zbc A a1 L2 L3 L4 L5 L6 N x = some y ∧ match ZkG L6 N i p js with
   | some q => ∃ z, y = .inl z ∧ Rep L2 L4 z (i + 1) q.1 q.2
   | none => y = .inr (.r0 (L3.getD i 0)) := by
 have hv : p.length ≤ 512 → (((i + 1) : Nat) : Int) ≤ (9223372036854775807 : Int) := fun h => by omega
 rcases hR with ⟨l, rfl, rfl, rfl⟩ | ⟨l, o, n, rfl, h1, rfl, h3⟩
 ·have hw := hv hp
  show ∃ y, Zbk A a1 p L3 js L5 L6 N i l = some y ∧ _
  unfold Zbk
  simp only [ai, aj, aiA, aiB, aiC]
  rw [if_pos (show (i : Int) < (p.length : Int) by omega), if_pos (show i < L3.length by omega)]
  unfold ZkG
  cases js with
  | nil =>
   rw [if_neg (by simp)]
   dsimp only
   refine ZpP (c := p.getD i RA.z) (r1 := .inl (.h1m0 (i + 1) (L3.getD i 0))) (r2 := .inr (.r0 (L3.getD i 0))) (fun x hx => Zv hx rfl) (ZF (fun h => h rfl) (Zv hw rfl)) (fun hc => ?_) (fun hc => ?_)
   ·rw [if_pos hc]; exact ⟨_, rfl, .inl ⟨_, rfl, rfl, rfl⟩⟩
   ·rw [if_neg (by rw [hc]; decide)]
  | cons j js' =>
   rw [if_pos (by simp only [List.length_cons]; omega)]
   have e0 : (j :: js').getD 0 R_is.z = j := rfl
   rw [e0]
   dsimp only
   by_cases g1 : j.a0 = (i : Int)
   ·rw [if_pos g1, if_pos g1]
    by_cases g2 : Ze7 L6 j.a1 = true
    ·rw [if_pos g2, if_pos g2]
     generalize hc : p.getD i RA.z = c
     generalize ht : ZD L6 j.a1 = t
     have K : ∀ c' : RA, ZgT c t = c' → ∀ {k : ZaQ → Option (asm_reader_aimX ⊕ Zy)}, (∀ x, x ≠ 0 → k (.r0 x) = some (.inr (.r0 (L3.getD i 0)))) → k (.r0 0) = some (.inl (.h1m1 (p.set i c') (i + 1) (L3.getD i 0) 1 ((j :: js').length - 1))) → ∃ y, (ZG c'.a0 c'.a1 c'.a2 c'.a3 N).bind k = some y ∧ match (if ckB (ZgT c t) N = true then some (p.set i (ZgT c t), js') else none : Option (List RA × List R_is)) with | some q => ∃ z, y = .inl z ∧ Rep p (j :: js') z (i + 1) q.1 q.2 | none => y = .inr (.r0 (L3.getD i 0)) := fun c' hc' k k1 k2 => by
      rw [ZoP c' k1 k2, hc']
      cases ckB c' N with
      | true => exact ⟨_, rfl, _, rfl, .inr ⟨_, _, _, rfl, by simp only [List.length_cons]; omega, rfl, by simp⟩⟩
      | false => exact ⟨_, rfl, rfl⟩
     by_cases g3 : c.a0 = 8
     ·rw [if_pos g3]
      exact K ⟨c.a0, t, c.a2, c.a3⟩ (by unfold ZgT; rw [if_pos g3]) (fun x hx => Zv hx rfl) (ZF (fun h => h rfl) (Zv hw rfl))
     ·rw [if_neg g3]
      by_cases g4 : c.a0 = 9
      ·rw [if_pos g4]
       exact K ⟨c.a0, c.a1, t, c.a3⟩ (by unfold ZgT; rw [if_neg g3, if_pos g4]) (fun x hx => Zv hx rfl) (ZF (fun h => h rfl) (Zv hw rfl))
      ·rw [if_neg g4]
       exact K c (by unfold ZgT; rw [if_neg g3, if_neg g4]) (fun x hx => Zv hx rfl) (ZF (fun h => h rfl) (Zv hw rfl))
    ·rw [if_neg g2, if_neg g2]
     exact ⟨_, rfl, rfl⟩
   ·rw [if_neg g1, if_neg g1]
    refine ZpP (c := p.getD i RA.z) (r1 := .inl (.h1m0 (i + 1) (L3.getD i 0))) (r2 := .inr (.r0 (L3.getD i 0))) (fun x hx => Zv hx rfl) (ZF (fun h => h rfl) (Zv hw rfl)) (fun hc => ?_) (fun hc => ?_)
    ·rw [if_pos hc]; exact ⟨_, rfl, .inl ⟨_, rfl, rfl, rfl⟩⟩
    ·rw [if_neg (by rw [hc]; decide)]
 ·have hw := hv (by omega)
  show ∃ y, Zbl A a1 L2 L3 L4 L5 L6 N p i l o n = some y ∧ _
  unfold Zbl
  simp only [ai, aj, aiA, aiB, aiC]
  rw [if_pos (show (i : Int) < (L2.length : Int) by omega), if_pos hi, if_pos (show i < L3.length by omega)]
  unfold ZkG
  cases hj : L4.drop o with
  | nil =>
   have hn0 : n = 0 := by
    have := congrArg List.length hj
    rw [List.length_drop] at this
    simp at this; omega
   rw [if_neg (by omega)]
   dsimp only
   refine ZpP (c := p.getD i RA.z) (r1 := .inl (.h1m1 p (i + 1) (L3.getD i 0) o n)) (r2 := .inr (.r0 (L3.getD i 0))) (fun x hx => Zv hx rfl) (ZF (fun h => h rfl) (Zv hw rfl)) (fun hc => ?_) (fun hc => ?_)
   ·rw [if_pos hc]; exact ⟨_, rfl, .inr ⟨_, _, _, rfl, h1, hj.symm, h3⟩⟩
   ·rw [if_neg (by rw [hc]; decide)]
  | cons j js' =>
   obtain ⟨d1, d2, d3⟩ := Zwp R_is.z hj
   rw [if_pos (by omega), if_pos d1, d2]
   dsimp only
   by_cases g1 : j.a0 = (i : Int)
   ·rw [if_pos g1, if_pos g1]
    by_cases g2 : Ze7 L6 j.a1 = true
    ·rw [if_pos g2, if_pos g2]
     generalize hc : p.getD i RA.z = c
     generalize ht : ZD L6 j.a1 = t
     have K : ∀ c' : RA, ZgT c t = c' → ∀ {k : ZaQ → Option (asm_reader_aimX ⊕ Zy)}, (∀ x, x ≠ 0 → k (.r0 x) = some (.inr (.r0 (L3.getD i 0)))) → k (.r0 0) = some (.inl (.h1m1 (p.set i c') (i + 1) (L3.getD i 0) (o + 1) (n - 1))) → ∃ y, (ZG c'.a0 c'.a1 c'.a2 c'.a3 N).bind k = some y ∧ match (if ckB (ZgT c t) N = true then some (p.set i (ZgT c t), js') else none : Option (List RA × List R_is)) with | some q => ∃ z, y = .inl z ∧ Rep L2 L4 z (i + 1) q.1 q.2 | none => y = .inr (.r0 (L3.getD i 0)) := fun c' hc' k k1 k2 => by
      rw [ZoP c' k1 k2, hc']
      cases ckB c' N with
      | true => exact ⟨_, rfl, _, rfl, .inr ⟨_, _, _, rfl, by omega, d3.symm, by simp; omega⟩⟩
      | false => exact ⟨_, rfl, rfl⟩
     by_cases g3 : c.a0 = 8
     ·rw [if_pos g3]
      exact K ⟨c.a0, t, c.a2, c.a3⟩ (by unfold ZgT; rw [if_pos g3]) (fun x hx => Zv hx rfl) (ZF (fun h => h rfl) (Zv hw rfl))
     ·rw [if_neg g3]
      by_cases g4 : c.a0 = 9
      ·rw [if_pos g4]
       exact K ⟨c.a0, c.a1, t, c.a3⟩ (by unfold ZgT; rw [if_neg g3, if_pos g4]) (fun x hx => Zv hx rfl) (ZF (fun h => h rfl) (Zv hw rfl))
      ·rw [if_neg g4]
       exact K c (by unfold ZgT; rw [if_neg g3, if_neg g4]) (fun x hx => Zv hx rfl) (ZF (fun h => h rfl) (Zv hw rfl))
    ·rw [if_neg g2, if_neg g2]
     exact ⟨_, rfl, rfl⟩
   ·rw [if_neg g1, if_neg g1]
    refine ZpP (c := p.getD i RA.z) (r1 := .inl (.h1m1 p (i + 1) (L3.getD i 0) o n)) (r2 := .inr (.r0 (L3.getD i 0))) (fun x hx => Zv hx rfl) (ZF (fun h => h rfl) (Zv hw rfl)) (fun hc => ?_) (fun hc => ?_)
    ·rw [if_pos hc]; exact ⟨_, rfl, .inr ⟨_, _, _, rfl, h1, hj.symm, h3⟩⟩
    ·rw [if_neg (by rw [hc]; decide)]
theorem Zvv {pl : List R_si} {i : Nat} {p : List RA} {js : List R_is} {q : List RA × List R_is} (h : ZkG pl N i p js = some q) : q.1.length = p.length := by
 unfold ZkG at h
 split at h
 ·split at h
  ·injection h with h; subst h; rfl
  ·cases h
 ·split at h
  ·split at h
   ·split at h
    ·injection h with h; subst h; simp
    ·cases h
   ·cases h
  ·split at h
   ·injection h with h; subst h; rfl
   ·cases h
theorem Zsz (hl : L3.length = L2.length) (hp : L2.length ≤ 512) : ∀ (f : Nat) (x : asm_reader_aimX) (i : Nat) (p : List RA) (js : List R_is), p.length ≤ i + f → p.length ≤ 512 → Rep L2 L4 x i p js →
  ∃ r, Zd6 (Zbc A a1 L2 L3 L4 L5 L6 N) (f + 1) x = some r ∧ match ZiW L6 L3 N f i p js with | .inl n => r = .r0 n | .inr q => Zuz L2 r q
 | 0, x, i, p, js, hf, hq, hR => by
  obtain ⟨r, h1, h2⟩ := Zsy (A := A) (a1 := a1) (L3 := L3) (L5 := L5) (L6 := L6) (N := N) hR (by omega)
  exact ⟨r, Zdr h1, h2⟩
 | f + 1, x, i, p, js, hf, hq, hR => by
  rw [Zjt]
  by_cases hi : i < p.length
  ·rw [if_pos hi]
   obtain ⟨y, h1, h2⟩ := ZwF (A := A) (a1 := a1) (L5 := L5) (L6 := L6) (N := N) hR hi hl hp
   cases ho : ZkG L6 N i p js with
   | none =>
    rw [ho] at h2
    subst h2
    exact ⟨_, Zdr h1, rfl⟩
   | some q =>
    rw [ho] at h2
    obtain ⟨z, rfl, hz⟩ := h2
    have hlen := Zvv ho
    obtain ⟨r, q1, q2⟩ := Zsz hl hp f z (i + 1) q.1 q.2 (by omega) (by omega) hz
    exact ⟨r, (ZhL h1).trans q1, q2⟩
  ·rw [if_neg hi]
   obtain ⟨r, h1, h2⟩ := Zsy (A := A) (a1 := a1) (L3 := L3) (L5 := L5) (L6 := L6) (N := N) hR hi
   exact ⟨r, Zdr h1, h2⟩
end
def PS.zero : PS := ⟨[], 0, [], [], [], []⟩
def Zoj (M : List Int) (N : Nat) : asm_ParseR :=
 match rdL N M.length M PS.zero with
 | .inl n => .r0 n 130
 | .inr S => match ZiW S.pl S.ls N 512 0 S.p S.js with
  | .inl n => .r0 n 130
  | .inr p => .r1 p
theorem Zvw (M : List Int) (N : Nat) (hb : ZP M = true) (hl : M.length ≤ 90000) (hN : M.length + 600 ≤ N) : Zdp M N = some (Zoj M N) := by
 unfold Zdp
 refine ZF (by rw [ZT]; omega) ?_
 have h0 : PS.zero.Ok 0 := ⟨rfl, rfl, by decide, by decide, by decide⟩
 obtain ⟨q1, q2⟩ := Zuy (A := M) (a1 := 0) (B := []) (N := N) (by omega) M.length M PS.zero 0 (Nat.le_refl _) h0 (by omega) hb
 have e : ZdX M 0 [] N = some (.inl (PS.zero.x M)) := rfl
 unfold Zoj ZcC
 rw [Zog e]
 cases hr : rdL N M.length M PS.zero with
 | inl n =>
  exact Zah (Zgy (by omega) (q1 n hr)) rfl
 | inr S =>
  obtain ⟨⟨k, hS⟩, q3⟩ := q2 S hr
  obtain ⟨r, a1, a2⟩ := Zsz (A := []) (a1 := S.line) (L2 := S.p) (L3 := S.ls) (L4 := S.js) (L5 := S.lb) (L6 := S.pl) (N := N) hS.ls hS.p 512 (.h1m0 0 S.line) 0 S.p S.js (by have := hS.p; omega) hS.p (.inl ⟨_, rfl, rfl, rfl⟩)
  have ha : Zcu [] S.line S.p S.ls S.js S.lb S.pl N = some r := by
   unfold Zcu
   rw [Zog (o := Ze8 [] S.line S.p S.ls S.js S.lb S.pl N) (x := asm_reader_aimX.h1m0 0 S.line) rfl]
   exact Zgy (by omega) a1
  have hs : ∀ (z : ZC), (match r with | .r0 y1_0 => some (Sum.inr (.r0 y1_0)) | .r1 y1_0 => some (.inr (.r1 S.pl [] y1_0 S.p S.ls S.js S.lb)) | .r2 y1_0 y1_1 y1_2 y1_3 => some (.inr (.r2 S.pl [] y1_1 y1_0 S.ls S.js y1_2 y1_3 S.lb)) : Option (Z9 ⊕ ZC)) = some (.inr z) → Za3 M 0 [] N (S.x []) = some (.inr z) := fun z hz => by
   show ZaC M 0 [] N S.pl [] S.line S.p S.ls S.js S.lb = _
   unfold ZaC
   refine ZF (fun h => h (Zhp.2 rfl)) ?_
   refine Zah ha ?_
   rw [← hz]
   cases r <;> rfl
  cases hm : ZiW S.pl S.ls N 512 0 S.p S.js with
  | inl n =>
   rw [hm] at a2
   subst a2
   exact Zah (Zgy (by omega) (q3 _ (hs _ rfl))) (by simp only [hm])
  | inr p =>
   rw [hm] at a2
   rcases a2 with ⟨l, rfl, rfl⟩ | ⟨l, a, b, rfl⟩
   ·exact Zah (Zgy (by omega) (q3 _ (hs _ rfl))) (by simp only [hm])
   ·exact Zah (Zgy (by omega) (q3 _ (hs _ rfl))) (by simp only [hm])
end Ev
end Go.Proofs.YtlbbiflodemagaaDoor
/- Parse, plainly: a remark and an empty line put in between lines. -/
namespace Go.Proofs.YtlbbiflodemagaaDoor
open Go.RowKit
namespace Ev
set_option linter.unusedVariables false
theorem Zrk (N : Nat) : ∀ (f g : Nat) (M : List Int) (S : PS), M.length ≤ f → M.length ≤ g → rdL N f M S = rdL N g M S
 | 0, 0, _, _, _, _ => rfl
 | 0, g + 1, M, S, h1, _ => by
  obtain rfl : M = [] := List.length_eq_zero_iff.1 (by omega)
  simp [rdL]
 | f + 1, 0, M, S, _, h2 => by
  obtain rfl : M = [] := List.length_eq_zero_iff.1 (by omega)
  simp [rdL]
 | f + 1, g + 1, M, S, h1, h2 => by
  unfold rdL
  by_cases hM : M = []
  ·rw [if_pos hM, if_pos hM]
  ·rw [if_neg hM, if_neg hM]
   by_cases hh : Zbj 10 M = false
   ·rw [if_pos hh, if_pos hh]
   ·rw [if_neg hh, if_neg hh]
    have ha := Zkl 10 M hM
    cases ZfJ N (Z4 10 M) { S with line := S.line + 1 } with
    | none => rfl
    | some S' => exact Zrk N f g _ S' (by omega) (by omega)
def RD (N : Nat) (M : List Int) (S : PS) : Int ⊕ PS := rdL N M.length M S
theorem Zu0 (N : Nat) (S : PS) : RD N [] S = .inr S := rfl
theorem Zis {N : Nat} {M : List Int} {S : PS} (hh : Zbj 10 M = true) : RD N M S = match ZfJ N (Z4 10 M) { S with line := S.line + 1 } with | none => .inl (S.line + 1) | some S' => RD N (ZQ 10 M) S' := by
 have hM : M ≠ [] := fun e => by subst e; cases hh
 unfold RD
 obtain ⟨f, hf⟩ : ∃ f, M.length = f + 1 := ⟨M.length - 1, by have := List.length_pos_iff.2 hM; omega⟩
 have ha := Zkl 10 M hM
 rw [hf]
 conv => lhs; unfold rdL
 rw [if_neg hM, if_neg (by rw [hh]; decide)]
 cases ZfJ N (Z4 10 M) { S with line := S.line + 1 } with
 | none => rfl
 | some S' => exact Zrk N f _ _ S' (by omega) (Nat.le_refl _)
theorem Zme {c : Int} : ∀ {a b : List Int}, Zbj c a = true → Zbj c (a ++ b) = true ∧ Z4 c (a ++ b) = Z4 c a ∧ ZQ c (a ++ b) = ZQ c a ++ b
 | [], b, h => by cases h
 | x :: a, b, h => by
  by_cases hx : x = c
  ·subst hx; simp [Zbj, Z4, ZQ]
  ·have h' : Zbj c a = true := by simpa [Zbj, hx] using h
   obtain ⟨q1, q2, q3⟩ := Zme (b := b) h'
   simp [Zbj, Z4, ZQ, hx, q1, q2, q3]
theorem Zmf {c : Int} : ∀ {a b : List Int}, c ∉ a → Zbj c (a ++ c :: b) = true ∧ Z4 c (a ++ c :: b) = a ∧ ZQ c (a ++ c :: b) = b
 | [], b, _ => by simp [Zbj, Z4, ZQ]
 | x :: a, b, h => by
  have hx : ¬ x = c := fun e => h (e ▸ List.mem_cons_self ..)
  obtain ⟨q1, q2, q3⟩ := Zmf (b := b) (fun h2 => h (List.mem_cons_of_mem _ h2) : c ∉ a)
  simp [Zbj, Z4, ZQ, hx, q1, q2, q3]
def Zvx (a : List Int) : Prop := a = [] ∨ ∃ b, a = b ++ [10]
theorem Zrl : ∀ {b : List Int}, Zbj 10 (b ++ [10]) = true
 | [] => rfl
 | x :: b => by
  show (decide (x = 10) || Zbj 10 (b ++ [10])) = true
  rw [Zrl, Bool.or_true]
theorem Zrm : ∀ {b : List Int}, Zvx (ZQ 10 (b ++ [10]))
 | [] => .inl (by simp [ZQ])
 | x :: b => by
  show Zvx (if x = 10 then b ++ [10] else ZQ 10 (b ++ [10]))
  by_cases hx : x = 10
  ·rw [if_pos hx]; exact .inr ⟨b, rfl⟩
  ·rw [if_neg hx]; exact Zrm
theorem p1 (N : Nat) : ∀ (n : Nat) (a : List Int), a.length ≤ n → Zvx a → ∀ S : PS, (∃ m, ∀ C, RD N (a ++ C) S = .inl m) ∨ ∃ S1, ∀ C, RD N (a ++ C) S = RD N C S1
 | n, a, hn, .inl h, S => by subst h; exact .inr ⟨S, fun C => rfl⟩
 | 0, a, hn, .inr h, S => by
  obtain ⟨b, rfl⟩ := h
  simp at hn
 | n + 1, a, hn, .inr h, S => by
  obtain ⟨b, rfl⟩ := h
  have hh := @Zrl b
  have ha := Zkl 10 (b ++ [10]) (by simp)
  cases hs : ZfJ N (Z4 10 (b ++ [10])) { S with line := S.line + 1 } with
  | none =>
   refine .inl ⟨S.line + 1, fun C => ?_⟩
   obtain ⟨q1, q2, q3⟩ := Zme (b := C) hh
   rw [Zis q1, q2, hs]
  | some S' =>
   rcases p1 N n (ZQ 10 (b ++ [10])) (by omega) Zrm S' with ⟨m, hm⟩ | ⟨S1, h1⟩
   ·refine .inl ⟨m, fun C => ?_⟩
    obtain ⟨q1, q2, q3⟩ := Zme (b := C) hh
    rw [Zis q1, q2, hs, q3]
    exact hm C
   ·refine .inr ⟨S1, fun C => ?_⟩
    obtain ⟨q1, q2, q3⟩ := Zme (b := C) hh
    rw [Zis q1, q2, hs, q3]
    exact h1 C
theorem p2 (N : Nat) (note B : List Int) (hn : (10 : Int) ∉ note) (S : PS) : RD N ([35] ++ note ++ [10, 10] ++ B) S = RD N B { S with line := S.line + 1 + 1 } := by
 have e : [35] ++ note ++ [10, 10] ++ B = (35 :: note) ++ 10 :: (10 :: B) := by simp
 have h10 : (10 : Int) ∉ 35 :: note := fun h => by
  rcases List.mem_cons.1 h with h | h
  ·cases h
  ·exact hn h
 obtain ⟨q1, q2, q3⟩ := Zmf (b := 10 :: B) h10
 rw [e, Zis q1, q2, q3]
 rw [show ZfJ N (35 :: note) { S with line := S.line + 1 } = some { S with line := S.line + 1 } from if_pos (.inr rfl)]
 show RD N (10 :: B) { S with line := S.line + 1 } = _
 obtain ⟨r1, r2, r3⟩ := Zmf (c := 10) (a := []) (b := B) (by simp)
 rw [List.nil_append] at r1 r2 r3
 rw [Zis r1, r2, r3]
 rfl
def LsR (l l' : List Int) : Prop := l'.length = l.length ∧ ∀ i, l'.getD i 0 = l.getD i 0 ∨ l'.getD i 0 = l.getD i 0 + 2
structure Sh (S S' : PS) : Prop where
 pl : S'.pl = S.pl
 line : S'.line = S.line + 2
 p : S'.p = S.p
 ls : LsR S.ls S'.ls
 js : S'.js = S.js
 lb : S'.lb = S.lb
theorem LsR.refl (l : List Int) : LsR l l := ⟨rfl, fun _ => .inl rfl⟩
def Zvy (N : Nat) (x : Int ⊕ PS) : asm_ParseR :=
 match x with
 | .inl n => .r0 n 130
 | .inr S => match ZiW S.pl S.ls N 512 0 S.p S.js with
  | .inl n => .r0 n 130
  | .inr p => .r1 p
theorem Zu1 (M : List Int) (N : Nat) : Zoj M N = Zvy N (RD N M PS.zero) := rfl
/-! ### Sizes -/
structure Bd (S : PS) (k : Int) : Prop where
 line : 0 ≤ S.line ∧ S.line ≤ k
 ls : ∀ i, 0 ≤ S.ls.getD i 0 ∧ S.ls.getD i 0 ≤ k
end Ev
end Go.Proofs.YtlbbiflodemagaaDoor
/- Parse, plainly: a text of one line; words; numbers' texts. -/
namespace Go.Proofs.YtlbbiflodemagaaDoor
open Go.RowKit
namespace Ev
set_option linter.unusedVariables false
theorem Zok {c : Int} : ∀ {a b : List Int}, c ∉ a → ZH c (a ++ c :: b) = a :: ZH c b
 | [], b, _ => by simp [ZH]
 | x :: a, b, h => by
  have hx : ¬ x = c := fun e => h (e ▸ List.mem_cons_self ..)
  have ih := Zok (b := b) (fun h2 => h (List.mem_cons_of_mem _ h2) : c ∉ a)
  have e : ∀ L, ZH c (x :: L) = if x = c then [] :: ZH c L else (x :: (ZH c L).headD []) :: (ZH c L).tail := fun _ => rfl
  show ZH c (x :: (a ++ c :: b)) = _
  rw [e, if_neg hx, ih]
  rfl
theorem Zpy {c : Int} : ∀ {a : List Int}, c ∉ a → ZH c a = [a]
 | [], _ => by simp [ZH]
 | x :: a, h => by
  have hx : ¬ x = c := fun e => h (e ▸ List.mem_cons_self ..)
  have ih := Zpy (fun h2 => h (List.mem_cons_of_mem _ h2) : c ∉ a)
  unfold ZH
  rw [if_neg hx, ih]
  rfl
theorem Zu2 {n : Int} (h0 : -9223372036854775808 ≤ n) (h1 : n ≤ 9223372036854775807) : ∀ x ∈ Ze n, x = 45 ∨ 48 ≤ x ∧ x ≤ 57 := by
 have hd : ∀ u : Nat, u ≤ 9223372036854775808 → ∀ x ∈ ZeO 20 u, 48 ≤ x ∧ x ≤ 57 := fun u hu => by
  have h20 : (10 : Nat) ^ 20 = 100000000000000000000 := by decide
  exact (Zir 20 u (by decide) (by omega)).2.2.2.1
 intro x hx
 unfold Ze at hx
 by_cases hn : n < 0
 ·rw [if_pos hn] at hx
  rcases List.mem_cons.1 hx with h | h
  ·exact .inl h
  ·exact .inr (hd _ (by omega) x h)
 ·rw [if_neg hn] at hx
  exact .inr (hd _ (by omega) x hx)
theorem Zs0 {n c : Int} (h0 : -9223372036854775808 ≤ n) (h1 : n ≤ 9223372036854775807) (hc : c < 45) : c ∉ Ze n := fun h => by
 rcases Zu2 h0 h1 c h with h | h <;> omega
def Zvz (T : List Int) (N : Nat) : asm_ParseR :=
 match ZkF T N with
 | none => .r0 1 130
 | some (i, none) => if ckB i N = true then .r1 [i] else .r0 1 130
 | some (_, some _) => .r0 1 130
theorem Zv0 (T : List Int) (N : Nat) (h10 : (10 : Int) ∉ T) (hT : T ≠ []) (h35 : ¬ bAt T 0 = 35) (h58 : ¬ bAt T 0 = 58) : Zoj (T ++ [10]) N = Zvz T N := by
 obtain ⟨q1, q2, q3⟩ := Zmf (b := []) h10
 rw [Zu1, Zis q1, q2, q3]
 unfold ZfJ Zvz
 rw [if_neg (fun h : T = [] ∨ bAt T 0 = 35 => h.elim hT h35), if_neg h58]
 cases hi : ZkF T N with
 | none => rfl
 | some x =>
  obtain ⟨i, o⟩ := x
  cases o with
  | none =>
   show Zvy N (RD N [] { PS.zero with line := 0 + 1, p := [] ++ [i], ls := [] ++ [0 + 1] }) = _
   rw [Zu0]
   show (match ZiW [] [(0 : Int) + 1] N 512 0 [i] [] with | .inl n => asm_ParseR.r0 n 130 | .inr p => .r1 p) = _
   rw [Zjt, if_pos (by simp)]
   unfold ZkG
   show (match (match (if ckB i N = true then some ([i], []) else none : Option (List RA × List R_is)) with | some q => ZiW [] [(0 : Int) + 1] N 511 (0 + 1) q.1 q.2 | none => .inl ([(0 : Int) + 1].getD 0 0)) with | .inl n => asm_ParseR.r0 n 130 | .inr p => .r1 p) = (if ckB i N = true then asm_ParseR.r1 [i] else .r0 1 130)
   cases ckB i N with
   | true =>
    show (match ZiW [] [(0 : Int) + 1] N 511 (0 + 1) [i] [] with | .inl n => asm_ParseR.r0 n 130 | .inr p => .r1 p) = asm_ParseR.r1 [i]
    rw [Zjt, if_neg (by simp)]
   | false => rfl
  | some l =>
   show Zvy N (RD N [] { PS.zero with line := 0 + 1, p := [] ++ [i], ls := [] ++ [0 + 1], js := [] ++ [⟨((0 : Nat) : Int), l⟩] }) = _
   rw [Zu0]
   show (match ZiW [] [(0 : Int) + 1] N 512 0 [i] [⟨((0 : Nat) : Int), l⟩] with | .inl n => asm_ParseR.r0 n 130 | .inr p => .r1 p) = _
   rw [Zjt, if_pos (by simp)]
   rfl
end Ev
end Go.Proofs.YtlbbiflodemagaaDoor
/- An instruction's line and its words. -/
namespace Go.Proofs.YtlbbiflodemagaaDoor
open Go.RowKit
namespace Ev
set_option linter.unusedVariables false
structure Fine (T : List Int) : Prop where
 b : ZP T = true
 l : T.length ≤ 100
 n : (10 : Int) ∉ T
 e : T ≠ []
 h : ¬ bAt T 0 = 35
 c : ¬ bAt T 0 = 58
structure WOk (w : List Int) : Prop where
 b : ZP w = true
 s : (32 : Int) ∉ w
 n : (10 : Int) ∉ w
 l : w.length ≤ 20
def Zrn : List (List Int) → Prop
 | [] => True
 | w :: r => WOk w ∧ Zrn r
def Zbf : List (List Int) → List Int
 | [] => []
 | [w] => w
 | w :: v :: r => w ++ 32 :: Zbf (v :: r)
theorem Zol : ∀ {S : List (List Int)}, Zrn S → S ≠ [] → ZH 32 (Zbf S) = S
 | [], _, h => absurd rfl h
 | [w], h, _ => Zpy h.1.s
 | w :: v :: r, h, _ => by
  show ZH 32 (w ++ 32 :: Zbf (v :: r)) = _
  rw [Zok h.1.s, Zol h.2 (by simp)]
theorem Zro {M : List Int} (h : ∀ x ∈ M, 0 ≤ x ∧ x ≤ 255) : ZP M = true := Zno h
theorem Zpz : ∀ {S : List (List Int)}, Zrn S → ZP (Zbf S) = true ∧ (10 : Int) ∉ Zbf S ∧ (Zbf S).length ≤ 21 * S.length
 | [], _ => ⟨rfl, by simp [Zbf], by simp [Zbf]⟩
 | [w], h => ⟨h.1.b, h.1.n, by have := h.1.l; simp [Zbf]; omega⟩
 | w :: v :: r, h => by
  obtain ⟨q1, q2, q3⟩ := Zpz h.2
  refine ⟨Zro fun x hx => ?_, fun hx => ?_, ?_⟩
  ·rcases List.mem_append.1 (show x ∈ w ++ 32 :: Zbf (v :: r) from hx) with h1 | h1
   ·exact Zgw h.1.b h1
   ·rcases List.mem_cons.1 h1 with h2 | h2
    ·omega
    ·exact Zgw q1 h2
  ·rcases List.mem_append.1 (show (10 : Int) ∈ w ++ 32 :: Zbf (v :: r) from hx) with h1 | h1
   ·exact h.1.n h1
   ·rcases List.mem_cons.1 h1 with h2 | h2
    ·omega
    ·exact q2 h2
  ·have := h.1.l
   show (w ++ 32 :: Zbf (v :: r)).length ≤ _
   simp only [List.length_append, List.length_cons] at q3 ⊢
   omega
theorem Zrp {n : Int} (h0 : -1099511627776 ≤ n) (h1 : n ≤ 1099511627776) : (Ze n).length ≤ 14 := by
 have hd : ∀ u : Nat, u ≤ 1099511627776 → (ZeO 20 u).length ≤ 13 := fun u hu => by
  have h20 : (10 : Nat) ^ 20 = 100000000000000000000 := by decide
  have h13 : (10 : Nat) ^ 13 = 10000000000000 := by decide
  exact (ZhA (Zir 20 u (by decide) (by omega)) 13 (by decide)).2 (by omega)
 unfold Ze
 by_cases hn : n < 0
 ·rw [if_pos hn]; have := hd n.natAbs (by omega); simp only [List.length_cons]; omega
 ·rw [if_neg hn]; have := hd n.toNat (by omega); omega
theorem Zv1 {n : Int} (h0 : 0 ≤ n) (h1 : n ≤ 512) : ∀ x ∈ Ze n, 48 ≤ x ∧ x ≤ 57 := by
 have h20 : (10 : Nat) ^ 20 = 100000000000000000000 := by decide
 have hd := (Zir 20 n.toNat (by decide) (by omega)).2.2.2.1
 unfold Ze
 rw [if_neg (by omega)]
 exact hd
theorem Zwq {n : Int} (h0 : 0 ≤ n) (h1 : n ≤ 512) : 0 < (Ze n).length ∧ (Ze n).length ≤ 3 := by
 have h20 : (10 : Nat) ^ 20 = 100000000000000000000 := by decide
 have h3 : (10 : Nat) ^ 3 = 1000 := by decide
 have hd := Zir 20 n.toNat (by decide) (by omega)
 have h3' := (ZhA hd 3 (by decide)).2 (by omega)
 unfold Ze
 rw [if_neg (by omega)]
 exact ⟨hd.2.1, h3'⟩
def RegOk (a : Int) : Prop := ZaI (114 :: Ze a) = true ∧ bAt (114 :: Ze a) 1 - 48 = a ∧ WOk (114 :: Ze a)
theorem Zes {a : Int} (h : 0 ≤ a ∧ a ≤ 7) : RegOk a := by
 have hw : ∀ w : List Int, ZP w = true → (32 : Int) ∉ w → (10 : Int) ∉ w → w.length ≤ 20 → WOk w := fun w a b c d => ⟨a, b, c, d⟩
 rcases (by omega : a = 0 ∨ a = 1 ∨ a = 2 ∨ a = 3 ∨ a = 4 ∨ a = 5 ∨ a = 6 ∨ a = 7) with h | h | h | h | h | h | h | h <;> subst h <;> exact ⟨rfl, rfl, rfl, by decide, by decide, by decide⟩
def NumOk (a : Int) : Prop := Zbw (Ze a) = true ∧ ZK (Ze a) = a ∧ WOk (Ze a)
theorem ZlI {a : Int} (h : -1099511627776 ≤ a ∧ a ≤ 1099511627776) : NumOk a :=
 ⟨Zjl.2 ⟨a, by omega, by omega, rfl⟩, ZmV (by omega) (by omega), ZnI a (by omega) (by omega), Zs0 (by omega) (by omega) (by decide), Zs0 (by omega) (by omega) (by decide), by have := Zrp h.1 h.2; omega⟩
def PlcOk (a : Int) : Prop := Zj1 (64 :: 76 :: Ze a) = true ∧ Zeq (76 :: Ze a) = true ∧ WOk (64 :: 76 :: Ze a)
theorem Zu3 {a : Int} (h : 0 ≤ a ∧ a ≤ 512) : PlcOk a := by
 have hl := Zwq h.1 h.2
 have hd := Zv1 h.1 h.2
 have h1 : Zeq (76 :: Ze a) = true := by
  unfold Zeq
  rw [Bool.and_eq_true, decide_eq_true_eq, List.all_eq_true]
  refine ⟨by simp only [List.length_cons]; omega, fun x hx => ?_⟩
  rcases List.mem_cons.1 hx with hx | hx
  ·subst hx; rfl
  ·have := hd x hx; exact Zsv (by omega)
 refine ⟨?_, h1, Zro fun x hx => ?_, fun hx => ?_, fun hx => ?_, by simp only [List.length_cons]; omega⟩
 ·unfold Zj1
  rw [Bool.and_eq_true, decide_eq_true_eq]
  exact ⟨⟨by simp only [List.length_cons]; omega, rfl⟩, h1⟩
 ·rcases List.mem_cons.1 hx with hx | hx
  ·omega
  ·rcases List.mem_cons.1 hx with hx | hx
   ·omega
   ·have := hd x hx; omega
 ·rcases List.mem_cons.1 hx with hx | hx
  ·omega
  ·rcases List.mem_cons.1 hx with hx | hx
   ·omega
   ·have := hd _ hx; omega
 ·rcases List.mem_cons.1 hx with hx | hx
  ·omega
  ·rcases List.mem_cons.1 hx with hx | hx
   ·omega
   ·have := hd _ hx; omega
theorem Zwr (n : Nat) (h : 1 ≤ n) (h2 : n ≤ 16) : ((2 : Int) ^ n) = ((2 ^ n : Nat) : Int) ∧ 2 ≤ 2 ^ n ∧ 2 ^ n ≤ 65536 := by
 refine ⟨by simp, ?_, ?_⟩
 ·have := Nat.pow_le_pow_right (show 0 < 2 by omega) h; omega
 ·have := Nat.pow_le_pow_right (show 0 < 2 by omega) h2
  have e : 2 ^ 16 = 65536 := by decide
  omega
theorem Zu4 {a2 : Int} (h1 : 1 ≤ a2) (h2 : a2 ≤ 16) : ∃ p : Int, IntKind.i64.wrap (IntKind.i64.wrap ((1 : Int) * (2 ^ a2.toNat : Int)) - (1 : Int)) = p ∧ p ≤ 65535 := by
 obtain ⟨q1, q2, q3⟩ := Zwr a2.toNat (by omega) (by omega)
 refine ⟨((2 ^ a2.toNat : Nat) : Int) - 1, ?_, by omega⟩
 rw [q1, Int.one_mul, w64 (x := ((2 ^ a2.toNat : Nat) : Int)) (by omega) (by omega), w64 (by omega) (by omega)]
structure ZeH (a0 a1 a2 a3 : Int) (N : Nat) (T : List Int) : Prop where
 f : Fine T
 i : ZkF T N = some (if a0 = 8 then ⟨8, 0, a2, a3⟩ else if a0 = 9 then ⟨9, a1, 0, a3⟩ else ⟨a0, a1, a2, a3⟩, if a0 = 8 then some (76 :: Ze a1) else if a0 = 9 then some (76 :: Ze a2) else none)
theorem Zv2 {S : List (List Int)} {N : Nat} {op : Int} {s : Zw} {x : RA × Option (List Int)} (hS : Zrn S) (h0 : S ≠ []) (h1 : Zbs (S.getD 0 []) N = some (.r0 op true)) (h2 : ZI op N = some s) (h3 : ZaS s op S = some x) : ZkF (Zbf S) N = some x := by
 unfold ZkF wds wd wds
 rw [Zol hS h0, h1]
 dsimp only
 rw [h2]
 dsimp only
 rw [if_pos rfl]
 exact h3
theorem ZeN {a0 a1 a2 a3 : Int} {S : List (List Int)} {N : Nat} {op : Int} {s : Zw} {x : RA × Option (List Int)} (hS : Zrn S) (h0 : S ≠ []) (hl : S.length ≤ 4) (hc : ∃ c r, Zbf S = c :: r ∧ 97 ≤ c ∧ c ≤ 122) (h1 : Zbs (S.getD 0 []) N = some (.r0 op true)) (h2 : ZI op N = some s) (h3 : ZaS s op S = some x)
  (h4 : x = (if a0 = 8 then ⟨8, 0, a2, a3⟩ else if a0 = 9 then ⟨9, a1, 0, a3⟩ else ⟨a0, a1, a2, a3⟩, if a0 = 8 then some (76 :: Ze a1) else if a0 = 9 then some (76 :: Ze a2) else none)) : ZeH a0 a1 a2 a3 N (Zbf S) := by
 obtain ⟨q1, q2, q3⟩ := Zpz hS
 have hi := Zv2 hS h0 h1 h2 h3
 obtain ⟨c, r, e, g1, g2⟩ := hc
 have hb0 : bAt (Zbf S) 0 = c := by
  rw [Zw9 q1 (by rw [e]; simp), e]
  rfl
 exact ⟨⟨q1, by omega, q2, (by rw [e]; simp), by omega, by omega⟩, h4 ▸ hi⟩
def BdR (a : Int) : Prop := 0 ≤ a ∧ a ≤ 7
def BdN (a : Int) : Prop := -1099511627776 ≤ a ∧ a ≤ 1099511627776
def BdP (a : Int) : Prop := 0 ≤ a ∧ a ≤ 512
def BdA (a0 a1 a2 a3 : Int) : Prop :=
 if a0 = 1 then BdR a1 ∧ BdN a2 ∧ a3 = 0 else
 if a0 = 8 then BdP a1 ∧ a2 = 0 ∧ a3 = 0 else
 if a0 = 9 then BdR a1 ∧ BdP a2 ∧ a3 = 0 else
 if a0 = 11 then BdR a1 ∧ BdN a2 ∧ BdN a3 else
 if a0 = 13 then BdR a1 ∧ BdR a2 ∧ BdN a3 else
 if a0 = 14 then BdR a1 ∧ BdN a2 ∧ BdR a3 else
 if a0 = 2 ∨ a0 = 10 ∨ a0 = 12 ∨ a0 = 19 then BdR a1 ∧ a2 = 0 ∧ a3 = 0 else
 if a0 = 3 then BdR a1 ∧ BdR a2 ∧ a3 = 0 else
 if a0 = 4 ∨ a0 = 5 ∨ a0 = 6 ∨ a0 = 7 then BdR a1 ∧ BdR a2 ∧ BdR a3 else
 a1 = 0 ∧ a2 = 0 ∧ a3 = 0
theorem Zom {a0 a1 a2 a3 : Int} {N : Nat} (h : ZG a0 a1 a2 a3 N = some (.r0 0)) : 1 ≤ a0 ∧ a0 ≤ 20 := by
 unfold ZG at h
 by_cases h1 : a0 < 0
 ·rw [if_pos h1] at h; injection h with h; injection h with h; omega
 ·rw [if_neg h1] at h
  by_cases h2 : 21 ≤ a0
  ·rw [if_pos h2] at h; injection h with h; injection h with h; omega
  ·rw [if_neg h2] at h
   by_cases h3 : a0 = 0
   ·rw [if_pos h3] at h; injection h with h; injection h with h; omega
   ·omega
theorem Zt0 {a0 : Int} (h : 1 ≤ a0 ∧ a0 ≤ 20) : a0 = 1 ∨ a0 = 2 ∨ a0 = 3 ∨ a0 = 4 ∨ a0 = 5 ∨ a0 = 6 ∨ a0 = 7 ∨ a0 = 8 ∨ a0 = 9 ∨ a0 = 10 ∨ a0 = 11 ∨ a0 = 12 ∨ a0 = 13 ∨ a0 = 14 ∨ a0 = 15 ∨ a0 = 16 ∨ a0 = 17 ∨ a0 = 18 ∨ a0 = 19 ∨ a0 = 20 := by omega
set_option maxHeartbeats 16000000 in
theorem Zu5 {a0 a1 a2 a3 : Int} {N : Nat} (h : ZG a0 a1 a2 a3 N = some (.r0 0)) : BdA a0 a1 a2 a3 := by
 rcases Zt0 (Zom h) with e | e | e | e | e | e | e | e | e | e | e | e | e | e | e | e | e | e | e | e <;> subst e <;> unfold ZG at h <;> simp only [Int.reduceLT, Int.reduceLE, Int.reduceEq, Int.reduceNeg, reduceIte] at h <;> simp only [BdA, BdR, BdN, BdP, Int.reduceEq, or_true, true_or, or_false, false_or, or_self, reduceIte]
 case inr.inr.inr.inr.inr.inr.inr.inr.inr.inr.inl =>
  by_cases h16 : 1 ≤ a2 ∧ a2 ≤ 16
  ·obtain ⟨p, e1, e2⟩ := Zu4 h16.1 h16.2
   simp only [e1] at h
   repeat' split at h
   all_goals (first | (exfalso; injection h with h; injection h with h; omega) | omega)
  ·exfalso
   repeat' split at h
   all_goals (first | omega | (injection h with h; injection h with h; omega))
 all_goals
  repeat' split at h
  all_goals (first | (exfalso; injection h with h; injection h with h; omega) | omega)
structure Zj2 (N : Nat) (op c : Int) (t : List Int) : Prop where
 w : WOk (c :: t)
 l : 97 ≤ c ∧ c ≤ 122
 n : Zbs (c :: t) N = some (.r0 op true)
section
variable {a1 a2 a3 op c : Int} {N : Nat} {t : List Int}
theorem sh_0 (hn : Zj2 N op c t) (ho : ZI op N = some .r0) (e8 : ¬ op = 8) (e9 : ¬ op = 9) (h1 : BdR a1) (h2 : BdN a2) : ZeH op a1 a2 0 N (Zbf [c :: t, (114 :: Ze a1), (Ze a2)]) := by
 obtain ⟨r1, v1, w1⟩ := Zes h1
 obtain ⟨r2, v2, w2⟩ := ZlI h2
 refine ZeN (op := op) (s := .r0) (x := (⟨op, bAt (114 :: Ze a1) 1 - 48, ZK (Ze a2), 0⟩, none)) ⟨hn.w, w1, w2, trivial⟩ (by simp) (by simp) ⟨c, _, rfl, hn.l⟩ hn.n ho (if_pos ⟨rfl, ?ca⟩) ?cb
 case ca =>
  show (ZaI (114 :: Ze a1) && Zbw (Ze a2)) = true
  simp only [r1, r2, Bool.and_self]
 case cb => rw [v1, v2, if_neg e8, if_neg e9, if_neg e8, if_neg e9]
theorem sh_1 (hn : Zj2 N 8 c t) (h1 : BdP a1) : ZeH 8 a1 0 0 N (Zbf [c :: t, (64 :: 76 :: Ze a1)]) := by
 obtain ⟨r1, v1, w1⟩ := Zu3 h1
 refine ZeN (op := 8) (s := .r1) (x := (⟨8, 0, 0, 0⟩, some (76 :: Ze a1))) ⟨hn.w, w1, trivial⟩ (by simp) (by simp) ⟨c, _, rfl, hn.l⟩ hn.n rfl (if_pos ⟨rfl, ?ca⟩) ?cb
 case ca =>
  show (Zj1 (64 :: 76 :: Ze a1)) = true
  rw [r1]
 case cb => rfl
theorem sh_2 (hn : Zj2 N 9 c t) (h1 : BdR a1) (h2 : BdP a2) : ZeH 9 a1 a2 0 N (Zbf [c :: t, (114 :: Ze a1), (64 :: 76 :: Ze a2)]) := by
 obtain ⟨r1, v1, w1⟩ := Zes h1
 obtain ⟨r2, v2, w2⟩ := Zu3 h2
 refine ZeN (op := 9) (s := .r2) (x := (⟨9, bAt (114 :: Ze a1) 1 - 48, 0, 0⟩, some (76 :: Ze a2))) ⟨hn.w, w1, w2, trivial⟩ (by simp) (by simp) ⟨c, _, rfl, hn.l⟩ hn.n rfl (if_pos ⟨rfl, ?ca⟩) ?cb
 case ca =>
  show (ZaI (114 :: Ze a1) && Zj1 (64 :: 76 :: Ze a2)) = true
  simp only [r1, r2, Bool.and_self]
 case cb => rw [v1]; rfl
theorem sh_3 (hn : Zj2 N op c t) (ho : ZI op N = some .r3) (e8 : ¬ op = 8) (e9 : ¬ op = 9) (h1 : BdR a1) (h2 : BdN a2) (h3 : BdN a3) : ZeH op a1 a2 a3 N (Zbf [c :: t, (114 :: Ze a1), (Ze a2), (Ze a3)]) := by
 obtain ⟨r1, v1, w1⟩ := Zes h1
 obtain ⟨r2, v2, w2⟩ := ZlI h2
 obtain ⟨r3, v3, w3⟩ := ZlI h3
 refine ZeN (op := op) (s := .r3) (x := (⟨op, bAt (114 :: Ze a1) 1 - 48, ZK (Ze a2), ZK (Ze a3)⟩, none)) ⟨hn.w, w1, w2, w3, trivial⟩ (by simp) (by simp) ⟨c, _, rfl, hn.l⟩ hn.n ho (if_pos ⟨rfl, ?ca⟩) ?cb
 case ca =>
  show (ZaI (114 :: Ze a1) && Zbw (Ze a2) && Zbw (Ze a3)) = true
  simp only [r1, r2, r3, Bool.and_self]
 case cb => rw [v1, v2, v3, if_neg e8, if_neg e9, if_neg e8, if_neg e9]
theorem sh_4 (hn : Zj2 N op c t) (ho : ZI op N = some .r4) (e8 : ¬ op = 8) (e9 : ¬ op = 9) (h1 : BdR a1) (h2 : BdR a2) (h3 : BdN a3) : ZeH op a1 a2 a3 N (Zbf [c :: t, (114 :: Ze a1), (114 :: Ze a2), (Ze a3)]) := by
 obtain ⟨r1, v1, w1⟩ := Zes h1
 obtain ⟨r2, v2, w2⟩ := Zes h2
 obtain ⟨r3, v3, w3⟩ := ZlI h3
 refine ZeN (op := op) (s := .r4) (x := (⟨op, bAt (114 :: Ze a1) 1 - 48, bAt (114 :: Ze a2) 1 - 48, ZK (Ze a3)⟩, none)) ⟨hn.w, w1, w2, w3, trivial⟩ (by simp) (by simp) ⟨c, _, rfl, hn.l⟩ hn.n ho (if_pos ⟨rfl, ?ca⟩) ?cb
 case ca =>
  show (ZaI (114 :: Ze a1) && ZaI (114 :: Ze a2) && Zbw (Ze a3)) = true
  simp only [r1, r2, r3, Bool.and_self]
 case cb => rw [v1, v2, v3, if_neg e8, if_neg e9, if_neg e8, if_neg e9]
theorem sh_5 (hn : Zj2 N op c t) (ho : ZI op N = some .r5) (e8 : ¬ op = 8) (e9 : ¬ op = 9) (h1 : BdR a1) (h2 : BdN a2) (h3 : BdR a3) : ZeH op a1 a2 a3 N (Zbf [c :: t, (114 :: Ze a1), (Ze a2), (114 :: Ze a3)]) := by
 obtain ⟨r1, v1, w1⟩ := Zes h1
 obtain ⟨r2, v2, w2⟩ := ZlI h2
 obtain ⟨r3, v3, w3⟩ := Zes h3
 refine ZeN (op := op) (s := .r5) (x := (⟨op, bAt (114 :: Ze a1) 1 - 48, ZK (Ze a2), bAt (114 :: Ze a3) 1 - 48⟩, none)) ⟨hn.w, w1, w2, w3, trivial⟩ (by simp) (by simp) ⟨c, _, rfl, hn.l⟩ hn.n ho (if_pos ⟨rfl, ?ca⟩) ?cb
 case ca =>
  show (ZaI (114 :: Ze a1) && Zbw (Ze a2) && ZaI (114 :: Ze a3)) = true
  simp only [r1, r2, r3, Bool.and_self]
 case cb => rw [v1, v2, v3, if_neg e8, if_neg e9, if_neg e8, if_neg e9]
theorem Zrq (hn : Zj2 N op c t) (ho : ZI op N = some .r6) (e8 : ¬ op = 8) (e9 : ¬ op = 9)  : ZeH op 0 0 0 N (Zbf [c :: t]) := by
 refine ZeN (op := op) (s := .r6) (x := (⟨op, 0, 0, 0⟩, none)) ⟨hn.w, trivial⟩ (by simp) (by simp) ⟨c, _, rfl, hn.l⟩ hn.n ho rfl ?cb
 case cb => rw [if_neg e8, if_neg e9, if_neg e8, if_neg e9]
theorem Zt1 (hn : Zj2 N op c t) (ho : ZI op N = some .r7) (e8 : ¬ op = 8) (e9 : ¬ op = 9) (h1 : BdR a1) : ZeH op a1 0 0 N (Zbf [c :: t, (114 :: Ze a1)]) := by
 obtain ⟨r1, v1, w1⟩ := Zes h1
 refine ZeN (op := op) (s := .r7) (x := (⟨op, bAt (114 :: Ze a1) 1 - 48, 0, 0⟩, none)) ⟨hn.w, w1, trivial⟩ (by simp) (by simp) ⟨c, _, rfl, hn.l⟩ hn.n ho (if_pos ⟨rfl, ?ca⟩) ?cb
 case ca =>
  show (ZaI (114 :: Ze a1)) = true
  rw [r1]
 case cb => rw [v1, if_neg e8, if_neg e9, if_neg e8, if_neg e9]
theorem sh_8 (hn : Zj2 N op c t) (ho : ZI op N = some .r8) (e8 : ¬ op = 8) (e9 : ¬ op = 9) (h1 : BdR a1) (h2 : BdR a2) : ZeH op a1 a2 0 N (Zbf [c :: t, (114 :: Ze a1), (114 :: Ze a2)]) := by
 obtain ⟨r1, v1, w1⟩ := Zes h1
 obtain ⟨r2, v2, w2⟩ := Zes h2
 refine ZeN (op := op) (s := .r8) (x := (⟨op, bAt (114 :: Ze a1) 1 - 48, bAt (114 :: Ze a2) 1 - 48, 0⟩, none)) ⟨hn.w, w1, w2, trivial⟩ (by simp) (by simp) ⟨c, _, rfl, hn.l⟩ hn.n ho (if_pos ⟨rfl, ?ca⟩) ?cb
 case ca =>
  show (ZaI (114 :: Ze a1) && ZaI (114 :: Ze a2)) = true
  simp only [r1, r2, Bool.and_self]
 case cb => rw [v1, v2, if_neg e8, if_neg e9, if_neg e8, if_neg e9]
theorem Zt2 (hn : Zj2 N op c t) (ho : ZI op N = some .r9) (e8 : ¬ op = 8) (e9 : ¬ op = 9) (h1 : BdR a1) (h2 : BdR a2) (h3 : BdR a3) : ZeH op a1 a2 a3 N (Zbf [c :: t, (114 :: Ze a1), (114 :: Ze a2), (114 :: Ze a3)]) := by
 obtain ⟨r1, v1, w1⟩ := Zes h1
 obtain ⟨r2, v2, w2⟩ := Zes h2
 obtain ⟨r3, v3, w3⟩ := Zes h3
 refine ZeN (op := op) (s := .r9) (x := (⟨op, bAt (114 :: Ze a1) 1 - 48, bAt (114 :: Ze a2) 1 - 48, bAt (114 :: Ze a3) 1 - 48⟩, none)) ⟨hn.w, w1, w2, w3, trivial⟩ (by simp) (by simp) ⟨c, _, rfl, hn.l⟩ hn.n ho (if_pos ⟨rfl, ?ca⟩) ?cb
 case ca =>
  show (ZaI (114 :: Ze a1) && ZaI (114 :: Ze a2) && ZaI (114 :: Ze a3)) = true
  simp only [r1, r2, r3, Bool.and_self]
 case cb => rw [v1, v2, v3, if_neg e8, if_neg e9, if_neg e8, if_neg e9]
end
def ZpQ (a0 a1 a2 a3 : Int) : List (List Int) :=
 if a0 = 1 then [[99, 111, 110, 115, 116], (114 :: Ze a1), (Ze a2)] else
 if a0 = 2 then [[110, 105, 108], (114 :: Ze a1)] else
 if a0 = 3 then [[109, 111, 118, 101], (114 :: Ze a1), (114 :: Ze a2)] else
 if a0 = 4 then [[97, 100, 100], (114 :: Ze a1), (114 :: Ze a2), (114 :: Ze a3)] else
 if a0 = 5 then [[115, 117, 98], (114 :: Ze a1), (114 :: Ze a2), (114 :: Ze a3)] else
 if a0 = 6 then [[108, 101, 115, 115], (114 :: Ze a1), (114 :: Ze a2), (114 :: Ze a3)] else
 if a0 = 7 then [[101, 113], (114 :: Ze a1), (114 :: Ze a2), (114 :: Ze a3)] else
 if a0 = 8 then [[106, 117, 109, 112], (64 :: 76 :: Ze a1)] else
 if a0 = 9 then [[106, 117, 109, 112, 122], (114 :: Ze a1), (64 :: 76 :: Ze a2)] else
 if a0 = 10 then [[114, 111, 111, 116], (114 :: Ze a1)] else
 if a0 = 11 then [[110, 101, 119], (114 :: Ze a1), (Ze a2), (Ze a3)] else
 if a0 = 12 then [[102, 114, 101, 101], (114 :: Ze a1)] else
 if a0 = 13 then [[103, 101, 116], (114 :: Ze a1), (114 :: Ze a2), (Ze a3)] else
 if a0 = 14 then [[115, 101, 116], (114 :: Ze a1), (Ze a2), (114 :: Ze a3)] else
 if a0 = 15 then [[98, 101, 103, 105, 110]] else
 if a0 = 16 then [[101, 108, 115, 101]] else
 if a0 = 17 then [[101, 110, 100]] else
 if a0 = 18 then [[114, 101, 116, 114, 121]] else
 if a0 = 19 then [[101, 109, 105, 116], (114 :: Ze a1)] else
 [[104, 97, 108, 116]]
theorem Zv3 {a0 a1 a2 a3 : Int} {N : Nat} (h : ZG a0 a1 a2 a3 N = some (.r0 0)) : ZeH a0 a1 a2 a3 N (Zbf (ZpQ a0 a1 a2 a3)) := by
 have hb := Zu5 h
 have hw : ∀ {w : List Int}, ZP w = true → (32 : Int) ∉ w → (10 : Int) ∉ w → w.length ≤ 20 → WOk w := fun a b c d => ⟨a, b, c, d⟩
 rcases Zt0 (Zom h) with e | e | e | e | e | e | e | e | e | e | e | e | e | e | e | e | e | e | e | e <;> subst e <;> simp only [BdA, Int.reduceEq, or_true, true_or, or_false, false_or, or_self, reduceIte] at hb <;> obtain ⟨h1, h2, h3⟩ := hb
 ·subst h3; exact sh_0 ⟨hw rfl (by decide) (by decide) (by decide), by decide, rfl⟩ rfl (by decide) (by decide) h1 h2
 ·subst h2 h3; exact Zt1 ⟨hw rfl (by decide) (by decide) (by decide), by decide, rfl⟩ rfl (by decide) (by decide) h1
 ·subst h3; exact sh_8 ⟨hw rfl (by decide) (by decide) (by decide), by decide, rfl⟩ rfl (by decide) (by decide) h1 h2
 ·exact Zt2 ⟨hw rfl (by decide) (by decide) (by decide), by decide, rfl⟩ rfl (by decide) (by decide) h1 h2 h3
 ·exact Zt2 ⟨hw rfl (by decide) (by decide) (by decide), by decide, rfl⟩ rfl (by decide) (by decide) h1 h2 h3
 ·exact Zt2 ⟨hw rfl (by decide) (by decide) (by decide), by decide, rfl⟩ rfl (by decide) (by decide) h1 h2 h3
 ·exact Zt2 ⟨hw rfl (by decide) (by decide) (by decide), by decide, rfl⟩ rfl (by decide) (by decide) h1 h2 h3
 ·subst h2 h3; exact sh_1 ⟨hw rfl (by decide) (by decide) (by decide), by decide, rfl⟩ h1
 ·subst h3; exact sh_2 ⟨hw rfl (by decide) (by decide) (by decide), by decide, rfl⟩ h1 h2
 ·subst h2 h3; exact Zt1 ⟨hw rfl (by decide) (by decide) (by decide), by decide, rfl⟩ rfl (by decide) (by decide) h1
 ·exact sh_3 ⟨hw rfl (by decide) (by decide) (by decide), by decide, rfl⟩ rfl (by decide) (by decide) h1 h2 h3
 ·subst h2 h3; exact Zt1 ⟨hw rfl (by decide) (by decide) (by decide), by decide, rfl⟩ rfl (by decide) (by decide) h1
 ·exact sh_4 ⟨hw rfl (by decide) (by decide) (by decide), by decide, rfl⟩ rfl (by decide) (by decide) h1 h2 h3
 ·exact sh_5 ⟨hw rfl (by decide) (by decide) (by decide), by decide, rfl⟩ rfl (by decide) (by decide) h1 h2 h3
 ·subst h1 h2 h3; exact Zrq ⟨hw rfl (by decide) (by decide) (by decide), by decide, rfl⟩ rfl (by decide) (by decide)
 ·subst h1 h2 h3; exact Zrq ⟨hw rfl (by decide) (by decide) (by decide), by decide, rfl⟩ rfl (by decide) (by decide)
 ·subst h1 h2 h3; exact Zrq ⟨hw rfl (by decide) (by decide) (by decide), by decide, rfl⟩ rfl (by decide) (by decide)
 ·subst h1 h2 h3; exact Zrq ⟨hw rfl (by decide) (by decide) (by decide), by decide, rfl⟩ rfl (by decide) (by decide)
 ·subst h2 h3; exact Zt1 ⟨hw rfl (by decide) (by decide) (by decide), by decide, rfl⟩ rfl (by decide) (by decide) h1
 ·subst h1 h2 h3; exact Zrq ⟨hw rfl (by decide) (by decide) (by decide), by decide, rfl⟩ rfl (by decide) (by decide)
theorem ZwG {a0 a1 a2 a3 : Int} {N : Nat} (h : ZG a0 a1 a2 a3 N = some (.r0 0)) : BdN a1 ∧ BdN a2 ∧ BdN a3 ∧ (a0 = 8 → BdP a1) ∧ (a0 = 9 → BdP a2) := by
 have hb := Zu5 h
 have ho := Zom h
 unfold BdA at hb
 simp only [BdR, BdN, BdP] at *
 repeat' split at hb
 all_goals omega
end Ev
end Go.Proofs.YtlbbiflodemagaaDoor
/- AsmAlone, plainly. -/
namespace Go.Proofs.YtlbbiflodemagaaDoor
open Go.RowKit
namespace Ev
set_option linter.unusedVariables false
set_option maxHeartbeats 4000000 in
theorem ZwH {a0 a1 a2 a3 : Int} {N : Nat} (h : ZG a0 a1 a2 a3 N = some (.r0 0)) : ZeB a0 a1 a2 a3 N = some (.r0 (Zbf (ZpQ a0 a1 a2 a3)) 0) := by
 obtain ⟨b1, b2, b3, _⟩ := ZwG h
 have l : ∀ {a : Int}, BdN a → (-9223372036854775808 : Int) ≤ a ∧ a ≤ 9223372036854775807 ∧ (Ze a).length ≤ 21 := fun {a} g => ⟨by have := g.1; omega, by have := g.2; omega, by have := Zrp g.1 g.2; omega⟩
 have l1 := l b1
 have l2 := l b2
 have l3 := l b3
 unfold ZeB
 rw [h]
 refine Zah rfl <| ZF (by decide) ?_
 rcases Zt0 (Zom h) with e | e | e | e | e | e | e | e | e | e | e | e | e | e | e | e | e | e | e | e <;> subst e
 all_goals
  repeat (refine ZF (by decide) ?_)
  try (refine Zv rfl ?_)
  repeat (first | refine Zv l1.1 <| Zv l1.2.1 <| Zv l1.2.2 ?_ | refine Zv l2.1 <| Zv l2.2.1 <| Zv l2.2.2 ?_ | refine Zv l3.1 <| Zv l3.2.1 <| Zv l3.2.2 ?_)
  exact congrArg (fun T => some (asm_LineR.r0 T 0)) (by simp [bl, Zbf, ZpQ])

theorem Zv4 {a0 a1 a2 a3 c : Int} {N : Nat} (h : ZG a0 a1 a2 a3 N = some (.r0 c)) (hc : c ≠ 0) : ZeB a0 a1 a2 a3 N = some (.r0 [] c) := by
 unfold ZeB
 exact Zah h <| Zv hc rfl
theorem Zv5 (x : RA) (N : Nat) (hN : 10 ≤ N) : Zf9 [x] [x] N = some (.r0 true) := by
 unfold Zf9
 rw [Zog (o := Zeo [x] [x] N) (x := ref11_Same_2X.h1m0 0) (by unfold Zeo; exact ZF (fun h => h rfl) rfl)]
 refine Zgy (n := 2) (by omega) ((ZhL (y := .h1m0 1) ?_).trans (Zdr ?_))
 ·show Zbz [x] [x] N 0 = _
  unfold Zbz
  exact Zv (by simp) <| Zv (by simp) <| ZF (fun h => h ⟨rfl, rfl, rfl, rfl⟩) <| Zv (by decide) rfl
 ·show Zbz [x] [x] N 1 = _
  unfold Zbz
  exact ZF (by simp) rfl
theorem Aal.runs (a0 a1 a2 a3 : Int) (N : Nat) (hN : 20000 ≤ N := by decide) : Zdy a0 a1 a2 a3 N = some (.r0 true) := by
 obtain ⟨c, hc⟩ := Zpv a0 a1 a2 a3 N
 by_cases h0 : c = 0
 ·subst h0
  have hl := ZwH hc
  obtain ⟨hf, hi⟩ := Zv3 hc
  generalize Zbf (ZpQ a0 a1 a2 a3) = T at hl hf hi
  have hb : ZP (T ++ [10]) = true := by
   rw [Zue, hf.b]; rfl
  have hlen := hf.l
  have hp := Zvw (T ++ [10]) N hb (by simp; omega) (by simp; omega)
  rw [Zv0 T N hf.n hf.e hf.h hf.c] at hp
  unfold Zvz at hp
  rw [hi] at hp
  unfold Zdy
  refine Zah hl <| ZF (by decide) <| Zv (by omega) ?_
  by_cases h8 : a0 = 8
  ·rw [if_pos h8, if_pos h8] at hp
   exact Zah hp <| Zv h8 <| Zv rfl <| Zv rfl rfl
  ·by_cases h9 : a0 = 9
   ·rw [if_neg h8, if_neg h8, if_pos h9, if_pos h9] at hp
    exact Zah hp <| ZF h8 <| Zv h9 <| Zv rfl <| Zv rfl rfl
   ·rw [if_neg h8, if_neg h8, if_neg h9, if_neg h9] at hp
    have hk : ckB (⟨a0, a1, a2, a3⟩ : RA) N = true := by
     unfold ckB
     rw [hc]
     rfl
    have hp : Zdp (T ++ [10]) N = some (if ckB (⟨a0, a1, a2, a3⟩ : RA) N = true then .r1 [⟨a0, a1, a2, a3⟩] else .r0 1 130) := hp
    rw [if_pos hk] at hp
    exact Zah hp <| ZF h8 <| ZF h9 <| Zah (Zv5 _ N (by omega)) <| Zv rfl rfl
 ·unfold Zdy
  exact Zah (Zv4 hc h0) <| Zv h0 <| Zv (Zhp.2 rfl) rfl
end Ev
end Go.Proofs.YtlbbiflodemagaaDoor
/- A region that draws its order, whose first operations only read (and make memory in calls), and whose last ones, in a forced order among themselves, make and write new memory: but these may come up early. -/
namespace Go.Proofs.YtlbbiflodemagaaDoor
open Go.RowKit

section
variable {P : Program}

def Calm (P : Program) (W : World) (o : Oper) (a : Act) (v : Value) : Prop :=
 ∀ w, Below W.heap.size W w → o.quietAt P a (fun w' => Below w.heap.size w w') w v

def YieldsC (P : Program) (ops : Array Oper) (W : World) (o : Oper) (v : Value) (a : Act) : Prop :=
 (Region.wanted o (yielded ops a.tmps) = true ∧ Calm P W o a v) ∨ (Region.wanted o (yielded ops a.tmps) = false ∧ v = undef)
theorem Zp0 {a b c : World} (h : Below a.heap.size a b) (k : Below b.heap.size b c) : Below a.heap.size a c := h.trans (k.mono h.size)

def Closed (md : Region.Mode) (ops : Array Oper) (listed : Array Bool) : Prop :=
 ∀ j oj, ops[j]? = some oj → listed.getD j false = true → ∀ e ∈ oj.after, Region.binds md e = true → listed.getD e.on false = true
def Zrr (md : Region.Mode) (ops : Array Oper) : Nat → Nat → Nat → Bool
 | 0, _, _ => false
 | f + 1, t, i => Region.waitsFor md ops t i || (List.range ops.size).any fun k => Region.waitsFor md ops t k && Zrr md ops f k i
theorem Closed.waits {md : Region.Mode} {ops : Array Oper} {listed : Array Bool} (h : Closed md ops listed) : ∀ (f t i : Nat), listed.getD t false = true → Zrr md ops f t i = true → listed.getD i false = true
 | 0, _, _, _, hw => by cases hw
 | f + 1, t, i, ht, hw => by
  simp only [Zrr, Bool.or_eq_true, List.any_eq_true, Bool.and_eq_true] at hw
  rcases hw with hw | ⟨k, _, hw, hr⟩
  ·obtain ⟨o, ho, e, he, hb, rfl⟩ := Region.waitsFor_spec hw
   exact h t o ho ht e he hb
  ·obtain ⟨o, ho, e, he, hb, rfl⟩ := Region.waitsFor_spec hw
   exact h.waits f e.on i (h t o ho ht e he hb) hr

theorem YieldsC.wpOp {ops : Array Oper} {W : World} {i : Nat} {o : Oper} {v : Value} {a : Act} {w : World} (hi : ops[i]? = some o) (hy : YieldsC P ops W o v a) (hb : Below W.heap.size W w)
  {K : Act → World → Prop} {Q : Exit → Act → World → Prop} (h : ∀ w', Below w.heap.size w w' → K (a.put o.dst v) w') : wpOp P ops Q i K a w := by
 unfold Go.wpOp
 simp only [hi]
 rcases hy with ⟨hw, hv⟩ | ⟨hw, rfl⟩
 ·simp only [hw, if_true]
  exact .inl (Oper.wp_of_quiet (C := fun w' => Below w.heap.size w w') (K := fun a' => a' = a.put o.dst v) (Below.refl _ _) (fun a' w' hw' ha => by subst ha; exact h w' hw')
   ⟨v, fun w1 hw1 => by
    have h1 := hv w1 (Zp0 hb hw1)
    unfold Oper.quietAt at h1 ⊢
    generalize (execOp a.eval o).run P w1 = r at *
    cases r with
    | ok n w' =>
     cases n <;> simp only [Oper.quietUpon] at h1 ⊢
     case value u => exact h1
     case skip => exact h1
     case enter f args => exact ⟨h1.1, h1.2.mono fun e w2 ⟨he, hb2⟩ => ⟨he, Zp0 hw1 hb2⟩⟩
    | halt x w' => simp only [Oper.quietUpon] at h1, rfl⟩)
 ·simp only [hw, Bool.false_eq_true, if_false]
  exact h w (Below.refl _ _)

end
end Go.Proofs.YtlbbiflodemagaaDoor
/- The frame of a law whose row lists tables: from what is laid to the tables that the runner knows. -/
namespace Go.Proofs.YtlbbiflodemagaaDoor
open Go.ChangeShapes Go.WideShapes Go.ChangeAt Go.RowKit
section
variable {H : Type} {enc : TypeId × Value → H} {P : Program}
theorem Zt3 {C : Checked} {os : Os} {F : FuncId} {fn : Func} {s : ChangeSpec} {tb : TypeId} {laid : List (String × DataW Unit)}
  (own : ownKnob C.prog.godebug = none) (started : os.Started) (noInit : C.prog.inits.idxOf? F = none) (hfn : C.prog.funcs[F]? = some fn)
  (hv : s.vars = []) (hrt : fn.resultTypes = #[tb]) (hub : C.prog.underlying tb = some .bool)
  (hspec : ∀ ds : List (DataW H), ds.length = fn.params.size → s.fn H ds = { results := [.lit (.bool true)], args := ds })
  (hl : laidOutB C.prog = true) (hr : (fn.params.toList.all fun t => C.prog.readableRec t && decide (t < C.prog.types.size)) = true)
  (witness : ∃ (w : World) (tape : Tape) (i : Input), w.os = os ∧ (w.forCall tape i).Shaped C.prog ∧ i.vars = [] ∧ Input.okWide C.prog (w.forCall tape i) .any w.heap.size F i ∧
   ((s.pre enc C.prog fn [] false (w.forCall tape i).memory i.args ∧ laidMetH C.prog laid (w.forCall tape i).memory) ∧ sizedMet enc C.prog fn (OpenSpec.ofChange s) false (w.forCall tape i).memory i.args) ∧ ({} : Assume).holds C.prog (lone (Frame.enter C.prog F i.args .normal) [] (w.forCall tape i)))
  (walk : ∀ (W : World) (base : Nat) (args : Array Value) (ds : List (DataW H)) (p : List MemPlace),
   (∀ (j : Nat) t v, fn.params[j]? = some t → args[j]? = some v → Value.okWide C.prog W .any base t v) →
   DataW.TrodAll enc C.prog W 0 (fun _ => true) true fn.params.toList args.toList ds p → (∀ x ∈ p, x.block < W.heap.size) →
   (DataW.weightsEach C.prog fn.params.toList ds).all (· ≤ reachBytes) = true → laidMetH C.prog laid W →
   Calls C.prog F args W (Ret (.bool true) W)) :
  ReturnsInHanded {} C os F .any (fun w args => (s.pre enc C.prog fn [] false w args ∧ laidMetH C.prog laid w) ∧ sizedMet enc C.prog fn (OpenSpec.ofChange s) false w args) (s.post enc C.prog fn false true false false) := by
 refine returnsInHanded_of_change_and (X := fun w _ => laidMetH C.prog laid w) (fun _ _ _ hh h => h.of_heap hh) own started noInit hfn witness ?_
 intro W base args ds gs before hval hW _ hsz hL _
 have hlt : ∀ x ∈ before, x.block < W.heap.size := fun x hx => hW.lt x hx
 obtain ⟨p, q, hA, hV, hps, hfz, hnd⟩ := id hW
 rw [hv] at hV
 obtain ⟨rfl, rfl⟩ := trodVars_none hV
 rw [List.append_nil] at hps
 subst hps
 have hvt : s.plain.varTypes C.prog = [] := by simp [ChangeSpec.plain, DataSpec.varTypes, hv]
 rw [hvt, List.append_nil, List.append_nil] at hsz
 refine (walk W base args ds before hval hA hlt hsz hL).mono fun e W' ⟨he, hb⟩ => ⟨_, he, ?_⟩
 have hlen : ds.length = fn.params.size := by
  have : ∀ {ts : List TypeId} {vs : List Value} {ds : List (DataW H)} {ps : List MemPlace}, DataW.TrodAll enc C.prog W 0 (fun _ => true) true ts vs ds ps → ds.length = ts.length := by
   intro ts
   induction ts with
   | nil => intro vs ds ps h; obtain ⟨_, rfl, _⟩ := trodAll_nil h; rfl
   | cons t ts ih => intro vs ds ps h; obtain ⟨_, _, _, _, _, _, _, rfl, _, _, r⟩ := trodAll_cons h; simp [ih r]
  simpa using this hA
 have hs := hspec (ds ++ []) (by simpa using hlen)
 refine ⟨ds, [], before, [], before, [], by simpa [hv] using hW, ?_, ?_, ?_, World.keptBut_mono (fun x hx => ⟨hx, .inr (.inl hx)⟩) (hb.frame (· ∈ before)), fun h => by cases h⟩
 ·rw [hs, hrt]
  exact trodAll_mk1 (shut_bool hub true)
 ·rw [hs]
  simpa using Zlu hl hb hr hA hlt
 ·rw [hs, hv]
  rfl
end
namespace Ev
theorem ZmF {P : Program} {W : World} {n : String} {g : Nat} {cs : Array Value} (hg : P.globalNamed n = some g) (h : W.var? P n = some cs) : ∃ t fr, W.heap[g]? = some (.cells cs t fr) := by
 simp only [World.var?, hg, Option.bind_some] at h
 split at h
 ·rename_i c t fr hW
  injection h with h; subst h
  exact ⟨t, fr, hW⟩
 ·cases h
def pow10 : List Int := [1, 10, 100, 1000, 10000, 100000, 1000000, 10000000, 100000000, 1000000000, 10000000000, 100000000000, 1000000000000, 10000000000000, 100000000000000, 1000000000000000, 10000000000000000, 100000000000000000, 1000000000000000000, 10000000000000000000]
theorem ZpC {H : Type} {enc : TypeId × Value → H} {P : Program} {w : World} {base : Nat} {sp : Nat → Bool} {fuel : Nat} {t : TypeId} {ms : Array (String × TypeId)} {cs : List Value} {nm : String} {d : DataW H} {p : List MemPlace}
  (hi : P.underlying t = some (.interface ms)) (h : DataW.trod enc P w base sp false fuel t cs = some (.iface nm d, p)) : ∃ u v, cs = [.iface u v] := by
 cases fuel with
 | zero => simp [DataW.trod] at h
 | succ fuel =>
  rcases cs with _ | ⟨v, _ | ⟨v', r⟩⟩
  ·simp [DataW.trod, hi] at h
  ·cases v <;> first | exact ⟨_, _, rfl⟩ | (simp [DataW.trod, hi] at h)
  ·simp [DataW.trod, hi] at h
theorem ZmG {P : Program} {W : World} {n nm : String} {d : DataW Unit} {g : Nat} {ti : TypeId} {ms : Array (String × TypeId)} (hg : P.globalNamed n = some g) (ht : (P.globals[g]?).map (·.type) = some ti) (hi : P.underlying ti = some (.interface ms))
  (h : laidMet P [(n, .iface nm d)] W) : ∃ C t fr, W.heap[g]? = some (.cells C t fr) ∧ ZuB [] C := by
 obtain ⟨ps, ⟨g0, t0, cs0, f0, p0, q0, hg0, ht0, hv0, hd0, _, _⟩, _⟩ := h
 obtain rfl := Option.some.inj (hg.symm.trans hg0)
 obtain rfl := Option.some.inj (ht.symm.trans ht0)
 obtain ⟨u, v, hl⟩ := ZpC hi hd0
 obtain ⟨t, fr, h3⟩ := ZmF hg hv0
 refine ⟨_, t, fr, h3, .iface u v, ?_, .inr ⟨_, _, rfl⟩⟩
 obtain ⟨l0⟩ := cs0
 obtain rfl : l0 = _ := hl
 rfl
theorem tabw_of_laid {W : World} {laid : List (String × DataW Unit)} (hl : (laid.filter fun x => x.1 == "internal/strconv.uint64pow10") = [("internal/strconv.uint64pow10", Go.Lib.tabData .u64 pow10)])
    {x1 : List UInt8} (he1 : (laid.filter fun x => x.1 == "strconv.ErrSyntax") = [("strconv.ErrSyntax", .iface "*errors.errorString" (.ptr (.agg [.lit (.string x1)])))])
    {x2 : List UInt8} (he2 : (laid.filter fun x => x.1 == "strconv.ErrRange") = [("strconv.ErrRange", .iface "*errors.errorString" (.ptr (.agg [.lit (.string x2)])))])
    (h : laidMetH Tryd.prog laid W) : TabW W := by
  have h1 := laidMetH.filter (fun x => x.1 == "internal/strconv.uint64pow10") h
  rw [hl, MakeChecks.laidMetH_plain _ _ _ (by rfl)] at h1
  have h2 := Go.Lib.tabIs_of_head (g := 0) (t := 109) (e := 95) (n := 20) (by kernel_rfl) (by kernel_rfl) Tryd.underlying109 Tryd.underlying95 (by kernel_rfl) (by kernel_rfl) h1
  obtain ⟨t, fr, h3⟩ := ZmF (g := 0) (by kernel_rfl) h2
  have g1 := laidMetH.filter (fun x => x.1 == "strconv.ErrSyntax") h
  rw [he1, MakeChecks.laidMetH_plain _ _ _ (by rfl)] at g1
  have e1 := ZmG (g := 6) (ti := 64) (by kernel_rfl) (by kernel_rfl) Tryd.underlying64 g1
  have g2 := laidMetH.filter (fun x => x.1 == "strconv.ErrRange") h
  rw [he2, MakeChecks.laidMetH_plain _ _ _ (by rfl)] at g2
  have e2 := ZmG (g := 7) (ti := 64) (by kernel_rfl) (by kernel_rfl) Tryd.underlying64 g2
  intro x hx
  simp only [tabs, List.mem_cons, List.not_mem_nil, or_false] at hx
  rcases hx with rfl | rfl | rfl
  · exact ⟨_, t, fr, h3, rfl⟩
  · exact e1
  · exact e2
end Ev
end Go.Proofs.YtlbbiflodemagaaDoor
/- The law AsmAlone, for every input. -/
namespace Go.Proofs.YtlbbiflodemagaaDoor
open Go.ChangeShapes Go.WideShapes Go.ChangeAt Go.RowKit
namespace Ev
namespace AsmAlone
set_option linter.unusedVariables false
def el0R (x : RA) : Prop := (IntKind.i64.min ≤ x.a0 ∧ x.a0 ≤ IntKind.i64.max) ∧ (IntKind.i64.min ≤ x.a1 ∧ x.a1 ≤ IntKind.i64.max) ∧ (IntKind.i64.min ≤ x.a2 ∧ x.a2 ≤ IntKind.i64.max) ∧ (IntKind.i64.min ≤ x.a3 ∧ x.a3 ≤ IntKind.i64.max)
theorem el0 {H : Type} {enc : TypeId × Value → H} {w : World} {cs : List Value} (hl : cs.length = 4) (h : Trd enc Tryd.prog w 24 cs) : ∃ x : RA, DecL w cs (E_iiii.cel x) ∧ el0R x := by
 have h0 := Zw7 (by kernel_rfl : Tryd.prog.cellsOf 24 = 4) hl h
 have h1 := Zk8 0 1 4 Tryd.underlying24 h0 0 (te := 22) (o' := 0) (by kernel_rfl) rfl (by kernel_rfl) (by kernel_rfl) (by decide)
 obtain ⟨x0, e0, b0⟩ := ZnL Tryd.underlying22 (by kernel_rfl) h1
 have h2 := Zk8 1 1 4 Tryd.underlying24 h0 1 (te := 3) (o' := 1) (by kernel_rfl) rfl (by kernel_rfl) (by kernel_rfl) (by decide)
 obtain ⟨x1, e1, b1⟩ := ZnL Tryd.underlying3 (by kernel_rfl) h2
 have h3 := Zk8 2 1 4 Tryd.underlying24 h0 2 (te := 3) (o' := 2) (by kernel_rfl) rfl (by kernel_rfl) (by kernel_rfl) (by decide)
 obtain ⟨x2, e2, b2⟩ := ZnL Tryd.underlying3 (by kernel_rfl) h3
 have h4 := Zk8 3 1 4 Tryd.underlying24 h0 3 (te := 3) (o' := 3) (by kernel_rfl) rfl (by kernel_rfl) (by kernel_rfl) (by decide)
 obtain ⟨x3, e3, b3⟩ := ZnL Tryd.underlying3 (by kernel_rfl) h4
 refine ⟨(⟨x0, x1, x2, x3⟩ : RA), Zwe (by rw [hl, Enc.clen]; rfl) (fun j y hy => ?_), ⟨b0, b1, b2, b3⟩⟩
 have := (Zma (w := w) (k := 0) e0 .i (Zma (w := w) (k := 1) e1 .i (Zma (w := w) (k := 2) e2 .i (Zma (w := w) (k := 3) e3 .i (Zw6 (w := w)))))) j y hy
 simpa using this
noncomputable def Zws : List TypeId := (Tryd.prog.cellTypes Tryd.prog.depth 24).getD []
theorem own : ownKnob Tryd.prog.godebug = none := by kernel_rfl
set_option maxRecDepth 100000 in
theorem lifted (os : Os) (started : os.Started) (H : Type) (enc : TypeId × Value → H) :
  ReturnsInHanded {} Tryd.checked os 3 .any (fun w args => (Rows.asmAloneSpec.pre enc Tryd.prog Tryd.f3 [] false w args ∧ laidMetH Tryd.prog Rows.asmAloneRow.laid w) ∧ sizedMet enc Tryd.prog Tryd.f3 (OpenSpec.ofChange Rows.asmAloneSpec) false w args) (Rows.asmAloneSpec.post enc Tryd.prog Tryd.f3 false true false false) := by
 refine Zt3 (laid := Rows.asmAloneRow.laid) (C := Tryd.checked) own started (by kernel_rfl) Tryd.func3 rfl rfl Tryd.underlying4 ?_ (by kernel_rfl) (by kernel_rfl)
  (ChangeSpec.witness_shaped (enc := enc) (C := Tryd.checked) (os := os) (X := fun w _ => laidMetH Tryd.prog Rows.asmAloneRow.laid w) false (World.laidAll Tryd.prog os Rows.asmAloneRow.laid) #[.agg #[.int .i64 0, .int .i64 0, .int .i64 0, .int .i64 0]] 8 (World.laidAll_os _ _ _)
   (World.shaped_of_ZipB (by kernel_rfl) (by kernel_rfl)) (by kernel_rfl) (by kernel_rfl) (by kernel_rfl)
   (by rw [MakeChecks.laidMetH_plain _ _ _ (by kernel_rfl)]; exact laidMet_laidAll _ (by kernel_rfl) (by kernel_rfl))) ?_
 ·intro ds hlen
  have hlen : ds.length = 1 := hlen.trans (by kernel_rfl)
  match ds, hlen with
  | [_], _ => rfl
 intro W base args ds p hval hA hlt hsz hLaid
 have ht : TabW W := tabw_of_laid (by rfl) (by rfl) (by rfl) hLaid
 rw [Tryd.params3] at hA hval
 obtain ⟨v0, vs0, d0, ds0, p0, q0, hargs, rfl, rfl, h0, r0⟩ := trodAll_cons hA
 obtain ⟨rfl, rfl, rfl⟩ := trodAll_nil r0
 obtain rfl : args = #[v0] := by cases args; simp_all
 obtain ⟨cs0, rfl, hl0, hc0⟩ := ZqC (ts := Zws) (by kernel_rfl) (by kernel_rfl) (by kernel_rfl) (hval 0 24 v0 rfl rfl)
 obtain ⟨x0, D0, m0⟩ := el0 (show cs0.length = 4 from hl0.trans (by kernel_rfl)) (by have q := Zwf h0; simp [Value.cells] at q; exact q)
 exact Zuk (ZkR x0.a0 x0.a1 x0.a2 x0.a3 100000 _ (Aal.runs x0.a0 x0.a1 x0.a2 x0.a3 100000)) (ZuR (show VR (ιMk W) (.agg #[Value.int .i64 x0.a0, Value.int .i64 x0.a1, Value.int .i64 x0.a2, Value.int .i64 x0.a3]) _ from .aggl D0.vr) Zsd) rfl
theorem over : Rows.asmAloneRow.holds Tryd.pinned (OpenSpec.ofChange Rows.asmAloneSpec) :=
 OpenClaim.holds_of_wide 3 Tryd.f3 rfl rfl rfl rfl rfl rfl rfl ⟨rfl, rfl, rfl, rfl, rfl⟩ rfl rfl rfl rfl rfl (by kernel_rfl) Tryd.func3 (by kernel_rfl)
  (of_decide_eq_true (by kernel_rfl)) (by unfold Func.isWrapper; first | (rw [if_pos (by decide +kernel)]; kernel_rfl) | (rw [if_neg (by decide +kernel)]; exact ⟨rfl, rfl⟩))
  (fun os started H enc _ => lifted os started H enc)
theorem proved : Rows.AsmAloneCardSaid :=
 Claim7.holds_tied_plain_at .later [] [.data, .data, .data, .data, .sentinel, .sentinel, .pinned] true Rows.asmAloneCard.stood.harness true over (fun _ h => by cases h) (by kernel_rfl) (fun _ h => by cases h) asmAlone_row_tie rfl ⟨rfl, rfl⟩ (by kernel_rfl) rfl
  (fun f fn hf hfn => by
   obtain rfl : f = 3 := Option.some.inj ((show Tryd.prog.funcNamed "gantlet/gantletlaw13.AsmAlone" = some 3 by kernel_rfl).symm.trans hf) |>.symm
   obtain rfl : fn = Tryd.f3 := (Option.some.inj (Tryd.func3.symm.trans hfn)).symm
   exact ⟨by kernel_rfl, fun j t ht => by
    rw [Tryd.params3] at ht
    have hm : t ∈ [24] := by simpa using Array.mem_of_getElem? ht
    have hall : ([24].all fun u => !Tryd.prog.wantsStandIn u) = true := by kernel_rfl
    exact (show Tryd.prog.wantsStandIn t = false by simpa using List.all_eq_true.1 hall t hm)⟩)
  (by kernel_rfl)
#print axioms proved
end AsmAlone
end Ev
end Go.Proofs.YtlbbiflodemagaaDoor
