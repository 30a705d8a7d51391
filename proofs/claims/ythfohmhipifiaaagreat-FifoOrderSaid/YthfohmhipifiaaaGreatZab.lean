/- Part 2. -/
import Derived.Test.YthfohmhipifiaaaGreatZaa
import Derived.Laws.BytesString
import Derived.LaidEqlPtr
import Derived.Laws.StructEq
import Derived.Laws.LoneSync
import Derived.MapKept
import Derived.WideKeyRuns
import Derived.Lib.ConvBytes
import Derived.Orders
set_option linter.unusedSimpArgs false
set_option linter.unusedVariables false
set_option linter.unusedVariables false
/- Operations that are told: each comes to the one that is not. -/
namespace Go.Proofs.YthfohmhipifiaaaGreat
open Go.RowKit
namespace Ev
section
variable {P : Program} {ι : Ren} {w : World} {ρ ρ' : Operand → Value} {s s' : St} {v : Value}
theorem ZC {s s1 : St} {a : Option Told} (h : s.nextW = (a, s1)) : s1.h = s.h ∧ s1.n = s.n ∧ s1.ob = s.ob ∧ s1.wr = s.wr := by unfold St.nextW at h;split at h <;> (injection h with h1 h2; subst h1 h2; exact ⟨rfl, rfl, rfl, rfl⟩)
theorem Res.behind {r : Result Next} {s1 : St} (h : Res P r s ι w v s1) (h1 : s'.h = s1.h) (h2 : s'.n = s1.n) : Res P r s ι w v s' := by obtain ⟨nx, w', ι', v', a, b, c, d, e⟩ := h;exact ⟨nx, w', ι', v', a, b, h1 ▸ c, h2 ▸ d, e⟩
theorem Zv8 {t : TypeId} {a x : Operand} {c' : List Value} (hob : ∀ p ∈ s'.ob, p.1 = p.2) (h : Zhq P ρ t a x c' s = some (v, s')) : ∃ s1, Zix P ρ t a x s = some (v, s1) ∧ s'.h = s1.h ∧ s'.n = s1.n := by
 unfold Zhq at h;split at h
 ·rename_i k o i ha hi
  obtain ⟨hg, h⟩ := Zl h;simp only [Bool.and_eq_true] at hg;split at h
  ·rename_i c t' q0 hk
   obtain ⟨hq0, h⟩ := Zl h;injection h with h
   injection h with h1 h2;subst h1 h2
   have q := Zao.1 (hob (dP (o + (ρ x).cells.toList.length ≤ c.length ∧ Zju c o (ρ x).cells.toList = c'), true) (by simp [St.told]));refine ⟨s.putK k c' t' q0, ?_, rfl, rfl⟩;unfold Zix;rw [ha, hi];simp only [hg.1, cond_true];unfold Ziw;rw [hk];simp only [hg.2, Nat.ble_eq_true_of_le q.1, hq0, Bool.and_self, cond_true, q.2]
  ·cases h
 ·cases h
theorem ZfE {d n : Nat} {x : Option Operand} (h : Zez ρ d x n = true) : ZgZ ρ d x = some n := by
 unfold Zez at h;unfold ZgZ;split at h
 ·rw [Zao.1 h]
 ·exact ZeV h
theorem Z3d {t : TypeId} {x : Operand} {lo hi : Option Operand} {l m : Nat} (hob : ∀ p ∈ s'.ob, p.1 = p.2) (h : Zkl P ρ t x lo hi l m s = some (v, s')) : Zh3 P ρ t x lo hi s = some (v, s) ∧ s'.h = s.h ∧ s'.n = s.n := by
 unfold Zkl at h;split at h
 ·rename_i e k o n c hu hx
  split at h
  ·rename_i ie hie
   obtain ⟨hg, h⟩ := Zl h;injection h with h
   injection h with h1 h2;subst h1 h2
   have q1 := ZfE (hob (Zez ρ 0 lo l, true) (by simp [St.told]));have q2 := ZfE (hob (Zez ρ n hi m, true) (by simp [St.told]));have q3 := Zao.1 (hob (dP (l ≤ m ∧ m ≤ c), true) (by simp [St.told]));refine ⟨?_, rfl, rfl⟩;unfold Zh3;rw [hu, hx];simp only [hie, q1, q2, hg, Nat.ble_eq_true_of_le q3.1, Nat.ble_eq_true_of_le q3.2, Bool.and_self, cond_true]
  ·cases h
 ·rename_i e hu hx
  split at h
  ·rename_i ie hie
   injection h with h;injection h with h1 h2
   subst h1 h2;have q1 := ZfE (hob (Zez ρ 0 lo l, true) (by simp [St.told]));have q2 := ZfE (hob (Zez ρ 0 hi m, true) (by simp [St.told]));have q3 := Zao.1 (hob (dP (l = 0 ∧ m = 0), true) (by simp [St.told]));obtain ⟨q3, q4⟩ := q3;subst q3 q4;refine ⟨?_, rfl, rfl⟩;unfold Zh3;rw [hu, hx];simp only [hie, q1, q2]
  ·cases h
 ·cases h
theorem ZxS {o : Oper} {t : TypeId} {x : Operand} {lo hi : Option Operand} {l m m2 : Nat} {cs : List Cell} (ho : o.op = .slice t x lo hi none) (hρ : ∀ x, VR ι (ρ x) (ρ' x)) (he : Emb P ι s.h.get w) (hob : ∀ p ∈ s'.ob, p.1 = p.2) (h : Zkm P ρ t x lo hi l m m2 cs s = some (v, s')) :
  s'.h = s.h ∧ s'.n = s.n ∧ Res P ((execOp ρ' o).run P w) s ι w v s := by
 unfold Zkm at h;split at h
 ·rename_i e id o' z n c hu hx
  split at h
  ·rename_i ie hi'
   injection h with h;injection h with h1 h2
   subst h1 h2;have hl := ZfE (hob (Zez ρ 0 lo l, true) (by simp [St.told]));have hhh := ZfE (hob (Zez ρ n hi m, true) (by simp [St.told]));obtain ⟨g1, g2, g3, g4, g5⟩ := Zao.1 (hob (dP (l ≤ m ∧ m ≤ c ∧ ZS id (o' + l * ie.size) cs.length = some cs ∧ (m - l) * ie.size = cs.length ∧ m2 = m - l), true) (by simp [St.told]));subst g5;have hv := hx ▸ hρ x;generalize hx' : ρ' x = x' at hv;have hadd : ∀ (a : Addr) (m : Nat), a.spot = none → a.add m = ⟨a.block, a.off + m, none⟩ := fun a m hs => by
    unfold Addr.add; split
    ·rename_i h0; subst h0; cases a; simp at hs; subst hs; rfl
    ·rfl
   refine ⟨rfl, rfl, ?_⟩;cases hv with
   | atom h => simp [Ev.atom] at h
   | mslice hb hn hc =>
    rename_i b base c' q;have hrun := Zg1 (P := P) (w := w) (c' := c') hρ hl hhh g1 g2 hc true;have hr : (execOp ρ' o).run P w = .ok (.value (.slice (if c' = l then some ⟨b, base + o', none⟩ else some ⟨b, base + o' + l * ie.size, none⟩) (m - l) (c' - l))) w := by simp [execOp, ho, Instr.sliceAt, Instr.slice, run_underlying hu, hx', hrun, sizeOf, typeInfo, hi', Result.andThen, Sem.run, hadd]
    refine Res.same he hr ?_;by_cases hcl : c' = l
    ·rw [if_pos hcl]
     have h0 : m - l = 0 := by omega
     have h00 : c' - l = 0 := by omega
     rw [h0, h00];exact .slice0 fun h => by cases h
    ·rw [if_neg hcl, Nat.add_assoc]
     have := (he.mks b base id q hb).2.1.2 (o' + l * ie.size) cs g3;exact .mslice (o := 0) this (Nat.le_refl _) (by omega)
   | slice0 hq0 =>
    rename_i a';have hl0 : l = 0 := by omega
    have hh0 : m = 0 := by omega
    subst hl0 hh0;have hrun := Zg1 (P := P) (w := w) (c' := 0) hρ hl hhh g1 g2 (Nat.le_refl 0) true;have hr : (execOp ρ' o).run P w = .ok (.value (.slice a' 0 0)) w := by cases a' <;> simp [execOp, ho, Instr.sliceAt, Instr.slice, run_underlying hu, hx', hrun, sizeOf, typeInfo, hi', Result.andThen, Sem.run]
    refine Res.same he hr ?_;simp only [Nat.sub_zero];exact .slice0 hq0
  ·cases h
 ·cases h
theorem Z3e {o : Oper} {t : TypeId} {x : Operand} {lo hi : Option Operand} {m : Nat} {c' : List Value} (ho : o.op = .slice t x lo hi none) (hρ : ∀ x, VR ι (ρ x) (ρ' x)) (he : Emb P ι s.h.get w) (hf : Fresh ι s.n s'.n) (hob : ∀ p ∈ s'.ob, p.1 = p.2) (h : Zo1 P ρ t x lo hi m c' s = some (v, s')) :
  Res P ((execOp ρ' o).run P w) s ι w v s' := by
 simp [Zo1] at h
theorem Z4g {t : TypeId} {l c : Operand} {n cp : Nat} {cs : List Value} (hob : ∀ p ∈ s'.ob, p.1 = p.2) (h : Zmc P ρ t l c n cp cs s = some (v, s')) : ∃ s1, ZeP P ρ t l c s = some (v, s1) ∧ s'.h = s1.h ∧ s'.n = s1.n := by
 unfold Zmc at h;split at h
 ·rename_i e hu
  split at h
  ·rename_i i z hi hz
   obtain ⟨hg, h⟩ := Zl h;simp only [Bool.and_eq_true] at hg;injection h with h
   injection h with h1 h2;subst h1 h2
   have q1 := ZeV (hob (ZcW (ρ l) n, true) (by simp [St.told]));have q2 := ZeV (hob (ZcW (ρ c) cp, true) (by simp [St.told]));obtain ⟨q3, q4, q5⟩ := Zao.1 (hob (dP (n ≤ cp ∧ cp ≤ 300000 ∧ rep z (cp * i.size) = cs), true) (by simp [St.told]));refine ⟨s.add cs e, ?_, rfl, rfl⟩;unfold ZeP;rw [hu, q1, q2];simp only [hi, hz, hg.1, hg.2, Nat.ble_eq_true_of_le q3, Nat.ble_eq_true_of_le q4, Bool.and_self, cond_true, q5]
  ·cases h
 ·cases h
theorem Z0t {v : Value} (h : atom v = true) : Zbg v = true := by cases v <;> simp_all [atom, Zbg]
theorem ZsM : ∀ {l : List Value}, Zu atom l = true → Zu Zbg l = true
 | [], _ => rfl
 | x :: l, h => by simp only [Zu, Bool.and_eq_true] at h ⊢;exact ⟨Z0t h.1, ZsM h.2⟩
theorem Zld {size : Nat} {z : List Value} {tx : TypeId} {y : Value} {p : Nat → List Value → Prop} {m : Nat} {l : List Value} (h : Z2b P s z size tx y = some p) (hp : p m l) : ZeU P s z size tx y = some (m, l) := by
 unfold Z2b at h;split at h
 ·rename_i e k o n q hu
  split at h
  ·rename_i c t hk
   injection h with h;subst h
   obtain ⟨rfl, h2, h3⟩ := hp;simp [ZeU, hu, Zuc, hk, h2, h3]
  ·rename_i O hk
   injection h with h;subst h
   obtain ⟨rfl, hp⟩ := hp;rcases hp with ⟨h2, rfl⟩ | ⟨h1, h2, h3⟩
   ·simp [ZeU, hu, Zuc, hk, h2, Zu]
   ·have h4 := ZsM h3
    have h5 : Nat.beq (m * size) 0 = false := Zi2 h1;simp only [ZeU, hu, Zuc, hk, h2, h3, h5, cond_false, cond_true, h4]
  ·cases h
 ·rename_i e id o z n q hu
  injection h with h;subst h
  obtain ⟨rfl, hp⟩ := hp;rcases hp with ⟨h2, rfl⟩ | ⟨c, h1, h2, rfl⟩
  ·simp [ZeU, hu, h2]
  ·have h5 : Nat.beq (m * size) 0 = false := Zi2 h1
   simp only [ZeU, hu, h2, h5, cond_false]
 ·rename_i ik k v hu
  injection h with h;subst h
  obtain ⟨rfl, h1, h2, h3, rfl⟩ := hp;have e1 : Nat.blt 0 m = true := by rw [Nat.blt_eq]; exact h1
  have e2 : Nat.blt 0 size = true := by rw [Nat.blt_eq]; exact h3
  simp only [ZeU, hu, e1, e2, Nat.ble_eq_true_of_le h2, Bool.and_self, cond_true]
 ·rename_i b hu
  obtain ⟨hg, h⟩ := Zl h;injection h with h
  subst h;obtain ⟨rfl, rfl⟩ := hp;simp [ZeU, hu, hg]
 ·cases h
theorem Zne {ts tx : TypeId} {x y : Value} {m : Nat} {l c : List Value} (hob : ∀ p ∈ s'.ob, p.1 = p.2) (h : Zgz P s ts tx x y m l c = some (v, s')) : ∃ s1, ZdI P s ts tx x y = some (v, s1) ∧ s'.h = s1.h ∧ s'.n = s1.n := by
 unfold Zgz at h;split at h
 ·rename_i e hu
  split at h
  ·rename_i i z hi hz
   split at h
   ·rename_i p hp
    obtain ⟨hg, h⟩ := Zl h;simp only [Bool.and_eq_true] at hg;split at h
    ·injection h with h
     injection h with h1 h2;subst h1 h2
     obtain ⟨q1, q2, q3, q4⟩ := Zao.1 (hob (dP (p m l ∧ 0 < m ∧ m ≤ 100000 ∧ l = c), true) (by simp [St.told]));subst q4;refine ⟨s.add l e, ?_, rfl, rfl⟩;have hm : Nat.beq m 0 = false := Zi2 (by omega);unfold ZdI;rw [hu];simp only [hi, hz, Zld (z := z) hp q1, hg.1, hg.2, Nat.ble_eq_true_of_le q3, Bool.and_self, cond_true, hm, cond_false]
    ·rename_i k o n cp _
     obtain ⟨ho, h⟩ := Zl h;split at h
     ·rename_i cs e' q0 hk
      obtain ⟨hee, h⟩ := Zl h;injection h with h
      injection h with h1 h2;subst h1 h2
      obtain ⟨q1, q2, q3, q4, q5, q6, q7⟩ := Zao.1 (hob (dP (p m l ∧ 0 < m ∧ m ≤ 100000 ∧ cp < n + m ∧ n ≤ 100000 ∧ n * i.size ≤ cs.length ∧ cs.take (n * i.size) ++ l = c), true) (by simp [St.told]));refine ⟨s.turn k c e q0, ?_, rfl, rfl⟩;have hm : Nat.beq m 0 = false := Zi2 (by omega);have hc : Nat.ble (n + m) cp = false := by
       cases hb : Nat.ble (n + m) cp with
       | false => rfl
       | true => have := Nat.le_of_ble_eq_true hb; omega
      have htk : Z4 (n * i.size) cs = some (cs.take (n * i.size)) := by
       have : ∀ (m : Nat) (l : List Value), m ≤ l.length → Z4 m l = some (l.take m) := by
        intro m
        induction m with
        | zero => intro l _; simp [Z4]
        | succ m ih =>
         intro l hl;cases l with
         | nil => simp at hl
         | cons x l =>
          simp only [Z4];rw [ih l (by simpa using hl)];rfl
       exact this _ _ q6
      unfold ZdI;rw [hu];simp only [hi, hz, Zld (z := z) hp q1, hg.1, hg.2, Nat.ble_eq_true_of_le q3, Nat.ble_eq_true_of_le q5, Bool.and_self, cond_true, hm, cond_false, hc, ho, hk, hee, htk, q7]
     ·cases h
    ·cases h
   ·cases h
  ·cases h
 ·cases h
theorem Z0u {ts tx : TypeId} {x y : Value} {m : Nat} {l c : List Value} (hob : ∀ p ∈ s'.ob, p.1 = p.2) (h : Zkj P s ts tx x y m l c = some (v, s')) : ∃ s1, ZdI P s ts tx x y = some (v, s1) ∧ s'.h = s1.h ∧ s'.n = s1.n := by simp [Zkj] at h
theorem Z0v {ts tx : TypeId} {x y : Value} (hob : ∀ p ∈ s'.ob, p.1 = p.2) (h : Zkk P s ts tx x y = some (v, s')) : ∃ s1, ZdI P s ts tx x y = some (v, s1) ∧ s'.h = s1.h ∧ s'.n = s1.n := by
 unfold Zkk at h;split at h
 ·rename_i e hu
  split at h
  ·rename_i i z hi hz
   split at h
   ·rename_i p hp
    obtain ⟨hg, h⟩ := Zl h;simp only [Bool.and_eq_true] at hg;split at h
    ·injection h with h
     injection h with h1 h2;subst h1 h2
     have q1 := Zao.1 (hob (dP (p 0 []), true) (by simp [St.told]));refine ⟨s, ?_, rfl, rfl⟩;unfold ZdI;rw [hu];simp only [hi, hz, Zld (z := z) hp q1, hg.1, hg.2, show Nat.ble 0 100000 = true from rfl, show Nat.beq 0 0 = true from rfl, Bool.and_self, cond_true]
    ·injection h with h
     injection h with h1 h2;subst h1 h2
     have q1 := Zao.1 (hob (dP (p 0 []), true) (by simp [St.told]));refine ⟨s, ?_, rfl, rfl⟩;unfold ZdI;rw [hu];simp only [hi, hz, Zld (z := z) hp q1, hg.1, hg.2, show Nat.ble 0 100000 = true from rfl, show Nat.beq 0 0 = true from rfl, Bool.and_self, cond_true]
    ·cases h
   ·cases h
  ·cases h
 ·cases h
end
theorem Zv9 {β : Type} : ∀ (m : Nat) (l : List β), m ≤ l.length → Z4 m l = some (l.take m)
 | 0, l, _ => by simp [Z4]
 | m + 1, [], h => by simp at h
 | m + 1, x :: l, h => by simp only [Z4]; rw [Zv9 m l (by simpa using h)]; rfl
theorem Znf {c c' : List Cell} {o : Nat} (h : ZS (code c) o c'.length = some c') : c' = (c.drop o).take c'.length ∧ c'.length ≤ (c.drop o).length := by unfold ZS at h;rw [Zdn] at h;exact Ze2 h
theorem ZxT {c c' : List Cell} {o : Nat} (h : c' = (c.drop o).take c'.length) (hl : c'.length ≤ (c.drop o).length) : ZS (code c) o c'.length = some c' := by unfold ZS;rw [Zdn];show Z4 c'.length (c.drop o) = some c';rw [Zv9 _ _ hl, ← h]
theorem Z4h {c c1 c2 : List Cell} {o o2 : Nat} (h : ZS (code c) o c1.length = some c1) (h2 : ZS (code c1) o2 c2.length = some c2) : ZS (code c) (o + o2) c2.length = some c2 := by
 obtain ⟨a1, a2⟩ := Znf h;obtain ⟨b1, b2⟩ := Znf h2;rw [List.length_drop] at a2 b2;have e2 : c1.drop o2 = ((c.drop o).drop o2).take (c1.length - o2) := by rw [← List.drop_take, ← a1]
 refine ZxT ?_ (by rw [List.length_drop]; omega);rw [← List.drop_drop]
 conv => lhs; rw [b1, e2, List.take_take, Nat.min_eq_left b2]
noncomputable def ιFa (ι : Ren) (b0 : Nat) (c : List Cell) : Ren := fun k => @ite _ (ι k ≠ none) (Classical.propDecidable _) (ι k) (@dite _ (∃ o c', k = ZO b0 o (code c') ∧ ZS (code c) o c'.length = some c') (Classical.propDecidable _) (fun _ => some (b0, 0)) (fun _ => none))
theorem ιFa_old {ι : Ren} {b0 k : Nat} {c : List Cell} (h : ι k ≠ none) : ιFa ι b0 c k = ι k := by unfold ιFa; rw [if_pos h]
theorem ιFa_new {ι : Ren} {b0 o : Nat} {c c' : List Cell} (hn : ι (ZO b0 o (code c')) = none) (h : ZS (code c) o c'.length = some c') : ιFa ι b0 c (ZO b0 o (code c')) = some (b0, 0) := by unfold ιFa;rw [if_neg (fun q => q hn), dif_pos ⟨o, c', rfl, h⟩]
theorem ιFa_inv {ι : Ren} {b0 k : Nat} {c : List Cell} {q : Nat × Nat} (h : ιFa ι b0 c k = some q) : ι k = some q ∨ (ι k = none ∧ q = (b0, 0) ∧ ∃ o c', k = ZO b0 o (code c') ∧ ZS (code c) o c'.length = some c') := by
 by_cases hk : ι k ≠ none
 ·rw [ιFa_old hk] at h; exact .inl h
 ·have hk' : ι k = none := Classical.not_not.1 hk
  unfold ιFa at h;rw [if_neg hk] at h;by_cases hd : ∃ o c', k = ZO b0 o (code c') ∧ ZS (code c) o c'.length = some c'
  ·rw [dif_pos hd] at h; injection h with h; exact .inr ⟨hk', h.symm, hd⟩
  ·rw [dif_neg hd] at h; cases h
theorem Step.frz {P : Program} {ι : Ren} {h : AH} {w : World} (e : Emb P ι h w) {k0 : Nat} {c : List Cell} {t : TypeId} (hk0 : h k0 = some (.cells (Zm c) t)) :
  ∃ ι', Step P ι h w ι' (upd h k0 none) w ∧ (∀ b, ι k0 = some b → ∃ q, ι' (ZO b.1 0 (code c)) = some q) ∧ ∀ k, ι' k ≠ none → ι k ≠ none ∨ far ≤ k := by
 obtain ⟨b0, C, q1, q2, q3, q4⟩ := e.objF k0 (Zm c) t hk0;obtain ⟨fr0, q20, _⟩ := q2;have hC0 : ∀ d, ZQ (h k0) d = true := fun d => by rw [hk0]; rfl
 have hno : ∀ base id, ι (ZO b0.1 base id) = none := fun base id => by
  cases hm : ι (ZO b0.1 base id) with
  | none => rfl
  | some q => exact absurd rfl ((e.mks _ _ _ _ hm).2.2 _ _ (hC0 _) q1)
 have hx : ∀ k b, ι k = some b → ιFa ι b0.1 c k = some b := fun k b hk => by rw [ιFa_old (by rw [hk]; simp)]; exact hk
 have hself : ZS (code c) 0 c.length = some c := ZxT (by simp) (by simp);have liveI : ∀ k b, (h k).isSome → ιFa ι b0.1 c k = some b → ι k = some b := fun k b hk hb => by
  obtain ⟨d, hd⟩ := e.live hk;have := hx k d hd;rw [hb] at this;injection this with this
  subst this;exact hd
 refine ⟨ιFa ι b0.1 c, ⟨hx, ⟨fun k c' t' q' hk => ?_, fun {m} k O hk => ?_, fun k k' b b' h1 h2 h3 h4 h5 => ?_, fun k b hb => ?_, fun b base id q hq => ?_, e.tabs hx⟩, rfl, rfl, rfl, Nat.le_refl _, fun _ _ _ => rfl, fun k b h1 h2 _ => ?_, fun k b h1 _ => (Zi3 h1).2, fun k b h1 _ => (Ze1 h1).2⟩, fun b hb => ?_, fun k hk => ?_⟩
 ·obtain ⟨n1, _⟩ := Zmm (h := h) (k0 := k0) (k := k) (by rw [hk]; rfl)
  rw [Zf n1] at hk;obtain ⟨b, r1, hz⟩ := e.obj k c' t' q' hk;exact ⟨b, hx k b r1, hz.imp id fun ⟨q0, D, r2, r3, r4⟩ => ⟨q0, D, r2, r3.ext hx, r4⟩⟩
 ·obtain ⟨n1, _⟩ := Zmm (h := h) (k0 := k0) (k := k) (by rw [hk]; rfl)
  rw [Zf n1] at hk;obtain ⟨b, r1, r2⟩ := e.ro k O hk;exact ⟨b, hx k b r1, r2⟩
 ·obtain ⟨n1, g1⟩ := Ze1 h1
  obtain ⟨n2, g2⟩ := Zi3 h2;exact e.inj k k' b b' g1 g2 (liveI k b (Zbh g1) h3) (liveI k' b' (Zcz g2) h4) h5
 ·rcases ιFa_inv hb with h2 | ⟨_, rfl, _⟩
  ·exact e.lt k b h2
  ·exact (show b0.1 < _ from e.lt _ _ q1)
 ·rcases ιFa_inv hq with h2 | ⟨_, rfl, o, c', hk, hg⟩
  ·obtain ⟨m1, m2, m3⟩ := e.mks b base id q h2
   refine ⟨m1, ⟨m2.1.ext hx rfl, fun o c' hc => hx _ _ (m2.2 o c' hc)⟩, fun k d hk hd2 => ?_⟩;obtain ⟨n1, g1⟩ := Ze1 hk;exact m3 k d g1 (liveI k d (Zbh g1) hd2)
  ·obtain ⟨rfl, rfl, rfl⟩ := Zr3 hk
   obtain ⟨a1, a2⟩ := Znf hg;rw [List.length_drop] at a2;have hsz : (Zm c).length = c.length := by simp [Zm]
   refine ⟨rfl, ⟨⟨c', C, t, fr0, Zdn c', q20, fun hp => by have := q3.1; omega, fun i x y hx1 hy => ?_, fun x hx1 hb => by obtain ⟨q, hq⟩ := e.tb x hx1;exact absurd hb.symm ((e.mks _ _ _ _ hq).2.2 _ _ (hC0 _) q1)⟩, fun o2 c2 hc2 => ιFa_new (hno _ _) (Z4h hg hc2)⟩, fun k d hk hd2 hb => ?_⟩
   ·have hi : i < c'.length := by have := (List.getElem?_eq_some_iff.1 hx1).1;simpa [Zm] using this
    have hx2 : (Zm c)[base + i]? = some x := by unfold Zm at hx1 ⊢;rw [List.getElem?_map] at hx1 ⊢;rw [a1, List.getElem?_take_of_lt hi, List.getElem?_drop] at hx1;exact hx1
    exact (q3.2 (base + i) x y hx2 hy).ext hx
   ·obtain ⟨n1, g1⟩ := Ze1 hk
    have := e.inj k k0 d b0 g1 (Zd1 (hC0 _)) (liveI k d (Zbh g1) hd2) q1 hb;exact n1 this
 ·rcases ιFa_inv h2 with h3 | ⟨_, rfl, _⟩
  ·rw [h1] at h3; cases h3
  ·exact .inr ⟨k0, _, hC0 _, q1, rfl⟩
 ·rw [q1] at hb
  injection hb with hb;subst hb
  exact ⟨_, ιFa_new (hno _ _) hself⟩
 ·by_cases hn : ι k = none
  ·cases hf : ιFa ι b0.1 c k with
   | none => exact absurd hf hk
   | some q =>
    rcases ιFa_inv hf with h3 | ⟨_, _, o, c', rfl, _⟩
    ·rw [hn] at h3; cases h3
    ·exact .inr (Zfq _ _ _).1
  ·exact .inl hn
theorem ZsN {ι ι' : Ren} (hx : ∀ k b, ι k = some b → ι' k = some b) {k0 : Nat} {c : List Cell} (hm : ∀ b, ι k0 = some b → ∃ q, ι' (ZO b.1 0 (code c)) = some q) {j n m : Nat} {v' : Value} (h : VR ι (.slice (some ⟨j, 0, none⟩) n m) v') : VR ι' (bif Nat.beq j k0 then .slice (some ⟨code c, 0, some 0⟩) n m else .slice (some ⟨j, 0, none⟩) n m) v' := by
 cases hb : Nat.beq j k0 with
 | false => exact h.ext hx
 | true =>
  cases h with
  | atom h => simp [Ev.atom] at h
  | slice h1 h2 h3 h4 =>
   have e := Nat.eq_of_beq_eq_true hb;subst e;obtain ⟨q, hq⟩ := hm _ h1;exact VR.mslice (base := 0) (o := 0) (z := 0) hq h2 h3
  | slice0 h => exact .slice0 h
theorem Zug {ι ι' : Ren} (hx : ∀ k b, ι k = some b → ι' k = some b) {k0 : Nat} {c : List Cell} (hm : ∀ b, ι k0 = some b → ∃ q, ι' (ZO b.1 0 (code c)) = some q) (d : Nat) : ∀ {v v' : Value}, VR ι v v' → VR ι' (Zo0 k0 (code c) d v) v' := by
 induction d with
 | zero =>
  intro v v' h;cases v with
  | slice p n m =>
   cases p with
   | none => exact h.ext hx
   | some a =>
    obtain ⟨j, o, z⟩ := a;cases o with
    | succ o => exact h.ext hx
    | zero =>
     cases z with
     | some z => exact h.ext hx
     | none => exact ZsN hx hm h
  | _ => exact h.ext hx
 | succ d ih =>
  intro v v' h;cases v with
  | slice p n m =>
   cases p with
   | none => exact h.ext hx
   | some a =>
    obtain ⟨j, o, z⟩ := a;cases o with
    | succ o => exact h.ext hx
    | zero =>
     cases z with
     | some z => exact h.ext hx
     | none => exact ZsN hx hm h
  | agg cs =>
   obtain ⟨a', rfl, hs, h1⟩ := h.agg_inv;show VR ι' (.agg ((cs.toList.map (Zo0 k0 (code c) d)).toArray)) _;refine .agg (by simpa using hs) fun i x y hx1 hy => ?_;simp only [List.getElem?_toArray, List.getElem?_map] at hx1;cases hc : cs.toList[i]? with
   | none => rw [hc] at hx1; cases hx1
   | some z =>
    rw [hc] at hx1;injection hx1 with hx1
    subst hx1;exact ih (h1 i z y (by simpa using hc) hy)
  | tuple cs =>
   cases h with
   | atom h => simp [Ev.atom] at h
   | tuple hs h1 =>
    show VR ι' (.tuple ((cs.toList.map (Zo0 k0 (code c) d)).toArray)) _;refine .tuple (by simpa using hs) fun i x y hx1 hy => ?_;simp only [List.getElem?_toArray, List.getElem?_map] at hx1;cases hc : cs.toList[i]? with
    | none => rw [hc] at hx1; cases hx1
    | some z =>
     rw [hc] at hx1;injection hx1 with hx1
     subst hx1;exact ih (h1 i z y (by simpa using hc) hy)
  | _ => exact h.ext hx
theorem ZxU {P : Program} {ι : Ren} {w : World} {ρ ρ' : Operand → Value} {s s' : St} {v : Value} {o : Oper} {t : TypeId} {a x : Operand} {k : Nat} {cs : List Cell} {c' : List Value} (ho : o.op = .store t a x) (hρ : ∀ x, VR ι (ρ x) (ρ' x)) (he : Emb P ι s.h.get w) (hob : ∀ p ∈ s'.ob, p.1 = p.2) (h : Zki P ρ t a x k cs c' s = some (v, s')) :
  Res P ((execOp ρ' o).run P w) s ι w v s' := by
 unfold Zki at h;split at h
 ·rename_i cl e hk
  have hq : cl = Zm cs := by
   have h0 := h;unfold Zhq at h0;split at h0
   ·obtain ⟨_, h0⟩ := Zl h0
    split at h0
    ·obtain ⟨_, h0⟩ := Zl h0
     injection h0 with h0;injection h0 with _ h0
     subst h0;exact Zao.1 (hob (dP (cl = Zm cs), true) (by simp [St.told, St.putK]))
    ·cases h0
   ·cases h0
  subst hq;obtain ⟨ι', hst, hm, hdm⟩ := Step.frz he hk;obtain ⟨s2, h4, e3, e4⟩ := Zv8 hob h;have es : (((⟨s.h.set k none, s.n, k :: s.wr, s.orc, s.ob⟩ : St).told (dP (Zm cs = Zm cs))).h.get) = upd s.h.get k none := by show (s.h.set k none).get = _;exact Tr.get_set ..
  obtain ⟨nx, w', ι2, v', r1, r2, r3, r4, r5⟩ := Zl6 (ρ' := ρ') ho (fun y => Zug hst.ext hm 2 (hρ y)) (s := (⟨s.h.set k none, s.n, k :: s.wr, s.orc, s.ob⟩ : St).told (dP (Zm cs = Zm cs))) (es ▸ hst.emb) h4;rw [es] at r3;refine ⟨nx, w', ι2, v', r1, r2, e3 ▸ hst.trans r3, fun j hj => ?_, r5⟩;rcases r4 j hj with h5 | h5 | h5
  ·exact (hdm j h5).imp id .inr
  ·exact .inr (.inl (by rw [e4]; exact h5))
  ·exact .inr (.inr h5)
 ·cases h
theorem ZvA {ι : Ren} {n m : Nat} {v' : Value} (d : Nat) (h : VR ι (.slice none n m) v') : VR ι (nlV d (.slice none n m)) v' := by
 cases n with
 | succ n => cases d <;> exact h
 | zero =>
  cases m with
  | succ m => cases d <;> exact h
  | zero =>
   have e := h.eq_of_atom rfl;subst e;cases d <;> exact .slice0 fun _ => rfl
theorem ZxV {ι : Ren} (d : Nat) : ∀ {v v' : Value}, VR ι v v' → VR ι (nlV d v) v' := by
 induction d with
 | zero =>
  intro v v' h;cases v with
  | slice p n m =>
   cases p with
   | none => exact ZvA 0 h
   | some a => exact h
  | _ => exact h
 | succ d ih =>
  intro v v' h;cases v with
  | slice p n m =>
   cases p with
   | none => exact ZvA (d + 1) h
   | some a => exact h
  | agg cs =>
   obtain ⟨a', rfl, hs, h1⟩ := h.agg_inv;show VR ι (.agg ((cs.toList.map (nlV d)).toArray)) _;refine .agg (by simpa using hs) fun i x y hx1 hy => ?_;simp only [List.getElem?_toArray, List.getElem?_map] at hx1;cases hc : cs.toList[i]? with
   | none => rw [hc] at hx1; cases hx1
   | some z =>
    rw [hc] at hx1;injection hx1 with hx1
    subst hx1;exact ih (h1 i z y (by simpa using hc) hy)
  | tuple cs =>
   cases h with
   | atom h => simp [Ev.atom] at h
   | tuple hs h1 =>
    show VR ι (.tuple ((cs.toList.map (nlV d)).toArray)) _;refine .tuple (by simpa using hs) fun i x y hx1 hy => ?_;simp only [List.getElem?_toArray, List.getElem?_map] at hx1;cases hc : cs.toList[i]? with
    | none => rw [hc] at hx1; cases hx1
    | some z =>
     rw [hc] at hx1;injection hx1 with hx1
     subst hx1;exact ih (h1 i z y (by simpa using hc) hy)
  | _ => exact h
theorem Step.mapC {P : Program} {ι : Ren} {h : AH} {w : World} (e : Emb P ι h w) {k : Nat} {c : List Value} {t : TypeId} {q : Bool} (hk : h k = some (.cells c t q)) {g : Value → Value} (hg : ∀ {x y : Value}, VR ι x y → VR ι (g x) y) : Step P ι h w ι (upd h k (some (.cells (c.map g) t q))) w := by
 have hC : ∀ j d, ZQ (upd h k (some (.cells (c.map g) t q)) j) d = ZQ (h j) d := fun j d => by
  by_cases ej : j = k
  ·subst ej; rw [Zk, hk]; cases c <;> rfl
  ·rw [Zf ej]
 have hS : ∀ j d, Zae (upd h k (some (.cells (c.map g) t q)) j) d = Zae (h j) d := fun j d => by
  by_cases ej : j = k
  ·subst ej; rw [Zk, hk]; cases c <;> rfl
  ·rw [Zf ej]
 refine ⟨fun _ _ x => x, ⟨fun j c1 t1 q1 hj => ?_, fun {m} j O hj => ?_, fun j j' b b' h1 h2 h3 h4 h5 => e.inj j j' b b' (hC j b ▸ h1) (hS j' b' ▸ h2) h3 h4 h5, e.lt, fun b base id q hq => ?_, e.tb⟩, rfl, rfl, rfl, Nat.le_refl _, fun _ _ _ => rfl, fun j b h1 h2 _ => ?_, fun j b h1 _ => hS j b ▸ h1, fun j b h1 _ => hC j b ▸ h1⟩
 ·by_cases ej : j = k
  ·subst ej
   rw [Zk] at hj;injection hj with hj
   injection hj with e1 e2 e3;subst e1 e2 e3
   obtain ⟨b, hb, hz⟩ := e.obj j c t q hk;refine ⟨b, hb, hz.imp (fun ⟨z1, z2, z3⟩ => ⟨z1, by rw [z2]; rfl, z3⟩) fun ⟨z1, D, z2, z3, z4⟩ => ⟨?_, D, z2, ⟨by rw [List.length_map]; exact z3.1, fun i x y hx hy => ?_⟩, z4⟩⟩
   ·have := hC j b
    rw [Zk, hk] at this;rw [this]; exact z1
   ·rw [List.getElem?_map] at hx
    cases hc : c[i]? with
    | none => rw [hc] at hx; cases hx
    | some z =>
     rw [hc] at hx;injection hx with hx
     subst hx;exact hg (z3.2 i z y hc hy)
  ·rw [Zf ej] at hj
   exact e.obj j c1 t1 q1 hj
 ·by_cases ej : j = k
  ·subst ej
   rw [Zk] at hj;injection hj with hj
   cases hj
  ·rw [Zf ej] at hj
   exact e.ro j O hj
 ·obtain ⟨m1, m2, m3⟩ := e.mks b base id q hq
  exact ⟨m1, m2, fun j d hj hd => m3 j d (hC j d ▸ hj) hd⟩
 ·rw [h1] at h2; cases h2
section
variable {P : Program} {ι : Ren} {w : World} {ρ ρ' : Operand → Value} {s s' : St} {v : Value}

def Ze3 : Value → Bool
 | .pointer _ | .slice .. | .nilFunc | .func .. => true
 | _ => false
theorem Zi5 {x x' : Value} (h : VR ι x x') (hk : Ze3 x = true) : Ze3 x' = true := by cases h <;> first | exact hk | rfl | (simp [Ze3] at hk)
theorem Z2h {d : Option TypeDesc} {x y : Value} {q : Bool} (h : ZsE d x y = some q) : Ze3 x = true ∧ Ze3 y = true := by unfold ZsE at h;split at h <;> first | exact ⟨rfl, rfl⟩ | cases h
theorem Zo9 {o : Option AObj} (h : Ziy o = true) : ∃ c t, o = some (.cells c t) ∧ t ≠ u8T := by
 cases o with
 | none => cases h
 | some o => cases o with
  | cells c t q => cases q with
   | false => exact ⟨c, t, rfl, fun e => by subst e; simp [Ziy] at h⟩
   | true => cases h
  | _ => cases h
theorem ZvB {h : Tr AObj} {d : Option TypeDesc} {x y : Value} {q : Bool} (e : Z2c P h d x y = some q) :
  ∃ el k o k' o' i, d = some (.pointer el) ∧ x = .pointer (some ⟨k, o, none⟩) ∧ y = .pointer (some ⟨k', o', none⟩) ∧ P.info? el = some i ∧ Nat.beq i.size 0 = false ∧ Nat.beq k k' = false ∧ Ziy (h.get k) = true ∧ Ziy (h.get k') = true ∧ q = false := by
 unfold Z2c at e;split at e
 ·split at e
  ·rename_i hi
   obtain ⟨hc, e⟩ := Zl e;simp only [Bool.and_eq_true, Bool.not_eq_true'] at hc;injection e with e
   exact ⟨_, _, _, _, _, _, rfl, rfl, rfl, hi, hc.1, hc.2.1, hc.2.2.1, hc.2.2.2, e.symm⟩
  ·cases e
 ·cases e
theorem Z3f {α : Type} {b : Bool} {x y : Option α} {z : α} (h : (bif b then x else y) = some z) : (b = true ∧ x = some z) ∨ (b = false ∧ y = some z) := by
 cases b with
 | true => exact .inl ⟨rfl, h⟩
 | false => exact .inr ⟨rfl, h⟩
theorem ZqY {d : Option TypeDesc} {x y : Value} (e : Zud P d x y = true) : ∃ el k o i, d = some (.pointer el) ∧ x = .pointer (some ⟨k, o, none⟩) ∧ y = .pointer (some ⟨k, o, none⟩) ∧ P.info? el = some i := by
 unfold Zud at e;split at e
 ·split at e
  ·rename_i hi
   simp only [Bool.and_eq_true] at e;obtain ⟨e1, e2⟩ := e;obtain rfl := Nat.eq_of_beq_eq_true e1;obtain rfl := Nat.eq_of_beq_eq_true e2;exact ⟨_, _, _, _, rfl, rfl, rfl, hi⟩
  ·cases e
 ·cases e
theorem ZqZ {h : Tr AObj} {d : Option TypeDesc} {x y : Value} {q : Bool} (e : Zo2 P h d x y = some q) : Ze3 x = true ∧ Ze3 y = true := by
 unfold Zo2 at e;split at e
 ·rename_i hq; exact Z2h hq
 ·rcases Z3f e with ⟨hb, _⟩ | ⟨_, e⟩
  ·obtain ⟨_, _, _, _, _, rfl, rfl, _⟩ := ZqY hb
   exact ⟨rfl, rfl⟩
  obtain ⟨_, _, _, _, _, _, _, rfl, rfl, _⟩ := ZvB e;exact ⟨rfl, rfl⟩
theorem ZoA {s : St} {t : TypeId} {x y x' y' : Value} {q : Bool} (he : Emb P ι s.h.get w) (hx : VR ι x x') (hy : VR ι y y') (e : Zo2 P s.h (P.underlying t) x y = some q) : (Op.equal t x' y').run P w = .ok q w := by
 unfold Zo2 at e;split at e
 ·rename_i hq
  injection e with e;subst e
  exact Z0s hx hy hq
 ·rcases Z3f e with ⟨hb, e⟩ | ⟨_, e⟩
  ·injection e with e
   subst e;obtain ⟨el, k, o, i, hu, rfl, rfl, hi⟩ := ZqY hb;obtain ⟨b, hb1, rfl⟩ := hx.ptr_inv;obtain ⟨b', hb2, rfl⟩ := hy.ptr_inv;rw [hb1] at hb2; injection hb2 with hb2; subst hb2
   have key : ∀ d : Nat, (Op.equalIn (d + 1) t (.pointer (some ⟨b.1, o, none⟩)) (.pointer (some ⟨b.1, o, none⟩))).run P w = .ok true w := fun d => by simp [Op.equalIn, run_underlying hu, sizeOf, typeInfo, hi, run_sameAddr_same]
   exact key _
  obtain ⟨el, k, o, k', o', i, hu, rfl, rfl, hi, hsz, hk, h1, h2, rfl⟩ := ZvB e;have ne : k ≠ k' := fun q => by subst q; rw [Zkv rfl] at hk; cases hk
  have hsz : i.size ≠ 0 := fun q => by rw [q] at hsz; cases hsz
  obtain ⟨c1, t1, g1, n1⟩ := Zo9 h1;obtain ⟨c2, t2, g2, n2⟩ := Zo9 h2;obtain ⟨b, C, hb, hB, _, _⟩ := he.objF k c1 t1 g1;obtain ⟨b', C', hb', hB', _, _⟩ := he.objF k' c2 t2 g2;have hne : b.1 ≠ b'.1 := fun q => ne (he.inj k k' b b' (by rw [g1]; rfl) (by rw [g2]; rfl) hb hb' q);cases hx with
  | atom h => simp [Ev.atom] at h
  | ptr hc =>
   rw [hb] at hc; injection hc with hc; subst hc
   cases hy with
   | atom h => simp [Ev.atom] at h
   | ptr hc' =>
    rw [hb'] at hc'; injection hc' with hc'; subst hc'
    have key : ∀ d : Nat, (Op.equalIn (d + 1) t (.pointer (some ⟨b.1, o, none⟩)) (.pointer (some ⟨b'.1, o', none⟩))).run P w = .ok false w := fun d => by have hab : (⟨b.1, o, none⟩ : Addr) ≠ ⟨b'.1, o', none⟩ := fun q => hne (congrArg Addr.block q);simp [Op.equalIn, run_underlying hu, sizeOf, typeInfo, hi, hsz, run_sameAddr_other w hab (hB.zero n1) (hB'.zero n2)]
    exact key _
theorem ZsO {op : BinOp} {t : TypeId} {x y : Operand} {a b : Value} (ha : Ze3 a = true) : (eqGuard op t x y a b).run P w = .ok () w := by
 unfold eqGuard;cases a <;> first | (simp [Ze3] at ha; done) | skip
 all_goals cases op <;> rfl
theorem Z3g {t : TypeId} {a b : Value} {q : Bool} (ha : Ze3 a = true) (hb : Ze3 b = true) (h : (Op.equal t a b).run P w = .ok q w) : (binOp .eql t a b).run P w = .ok (.bool q) w := by
 have : binOp .eql t a b = (do pure (.bool (← Op.equal t a b))) := by
  cases a <;> first | (simp [Ze3] at ha; done) | skip
  all_goals cases b <;> first | (simp [Ze3] at hb; done) | rfl
 rw [this];simp [h, Result.andThen, Sem.run]
theorem Z3h {t : TypeId} {a b : Value} {q : Bool} (ha : Ze3 a = true) (hb : Ze3 b = true) (h : (Op.equal t a b).run P w = .ok q w) : (binOp .neq t a b).run P w = .ok (.bool (!q)) w := by
 have : binOp .neq t a b = (do pure (.bool (!(← Op.equal t a b)))) := by
  cases a <;> first | (simp [Ze3] at ha; done) | skip
  all_goals cases b <;> first | (simp [Ze3] at hb; done) | rfl
 rw [this];simp [h, Result.andThen, Sem.run]
def Zkc (d : Nat) (e : TypeId) (n : Nat) (xs ys : Array Value) : List Nat → Sem Bool
 | [] => pure true
 | i :: l => do
   let a ← part e xs (i * n)
   let b ← part e ys (i * n)
   let r ← Op.equalIn d e a b
   if (!r) = true then pure false else Zkc d e n xs ys l
theorem Zqr (w : World) (d : Nat) (t e : TypeId) (len : Nat) (i : TypeInfo) (xs ys : Array Value) (ht : P.underlying t = some (.array len e)) (hi : P.info? e = some i) :
  (Op.equalIn (d + 1) t (.agg xs) (.agg ys)).run P w = (Zkc d e i.size xs ys (List.range' 0 len)).run P w := by
 have hs : (sizeOf e : Sem Nat).run P w = .ok i.size w := by simp [sizeOf, typeInfo, hi, Result.andThen]
 simp only [Op.equalIn, Sem.run_bind, run_underlying ht, Result.andThen_ok, hs];rw [Std.Legacy.Range.forIn_eq_forIn_range'];simp only [Std.Legacy.Range.size];have e1 : (len - 0 + 1 - 1) / 1 = len := by simp
 rw [e1];generalize List.range' 0 len = fs
 induction fs generalizing w with
 | nil => simp [Zkc]
 | cons f fs ih =>
  simp only [List.forIn_cons, Zkc, Sem.run_bind, Sem.run_ite];generalize (part e xs (f * i.size)).run P w = r1;cases r1 with
  | ok a w1 =>
   simp only [Result.andThen_ok];generalize (part e ys (f * i.size)).run P w1 = r2;cases r2 with
   | ok b w2 =>
    simp only [Result.andThen_ok];generalize (Op.equalIn d e a b).run P w2 = r3;cases r3 with
    | ok r w3 =>
     cases r
     ·simp only [Result.andThen_ok, Bool.not_false, if_true, Sem.run_pure]
     ·simp only [Result.andThen_ok, Bool.not_true, Bool.false_eq_true, if_false, Sem.run_pure]
      exact ih w3 (by simp [sizeOf, typeInfo, hi, Result.andThen])
    | halt x w3 => simp [Result.andThen]
   | halt x w2 => simp [Result.andThen]
  | halt x w1 => simp [Result.andThen]

def EqOk (P : Program) (ι : Ren) (w : World) (d : Nat) (g : TypeId → Value → Value → Option Bool) : Prop :=
 ∀ t x y x' y' q, VR ι x x' → VR ι y y' → g t x y = some q → (Op.equalIn d t x' y').run P w = .ok q w
theorem ZxW {d : Nat} {g : TypeId → Value → Value → Option Bool} (hg : EqOk P ι w d g) {xs ys xs' ys' : Array Value} (s1 : xs.size = xs'.size) (p1 : ∀ (i : Nat) x y, xs[i]? = some x → xs'[i]? = some y → VR ι x y) (s2 : ys.size = ys'.size) (p2 : ∀ (i : Nat) x y, ys[i]? = some x → ys'[i]? = some y → VR ι x y) :
  ∀ (fs : List Field) (r : Bool), ZxE P g xs ys fs = some r → (Op.eqFields d xs' ys' fs).run P w = .ok r w
 | [], r, h => by simp [ZxE] at h; subst h; rfl
 | f :: fs, r, h => by
  simp only [ZxE] at h;obtain ⟨hn, h⟩ := (show ∀ {b : Bool} {x : Option Bool} {y : Bool}, (bif b then none else x) = some y → b = false ∧ x = some y from fun {b x y} h => by cases b <;> simp at h; exact ⟨rfl, h⟩) h;have hname : f.name ≠ "_" := by simpa using hn
  split at h
  ·rename_i a b r' h1 h2 h3
   split at h
   ·rename_i q hq
    injection h with h;subst h
    obtain ⟨a', e1, v1⟩ := Zgc (w := w) s1 p1 h1;obtain ⟨b', e2, v2⟩ := Zgc (w := w) s2 p2 h2;have e3 := hg _ _ _ _ _ _ v1 v2 hq;have ih := ZxW hg s1 p1 s2 p2 fs r' h3;simp only [Op.eqFields, hname, ne_eq, not_false_eq_true, if_true, Sem.run_bind, e1, e2, e3, Result.andThen_ok];cases q
    ·simp [Sem.run]
    ·simpa using ih
   ·cases h
  ·cases h
theorem ZxX {d : Nat} {g : Value → Value → Option Bool} {e : TypeId} {sz : Nat} (hg : ∀ x y x' y' q, VR ι x x' → VR ι y y' → g x y = some q → (Op.equalIn d e x' y').run P w = .ok q w) {xs ys xs' ys' : Array Value} (s1 : xs.size = xs'.size) (p1 : ∀ (i : Nat) x y, xs[i]? = some x → xs'[i]? = some y → VR ι x y) (s2 : ys.size = ys'.size) (p2 : ∀ (i : Nat) x y, ys[i]? = some x → ys'[i]? = some y → VR ι x y) :
  ∀ (n i : Nat) (r : Bool), ZxF P g e sz xs ys n i = some r → (Zkc d e sz xs' ys' (List.range' i n)).run P w = .ok r w
 | 0, i, r, h => by simp [ZxF] at h; subst h; rfl
 | n + 1, i, r, h => by
  simp only [ZxF] at h;split at h
  ·rename_i a b r' h1 h2 h3
   split at h
   ·rename_i q hq
    injection h with h;subst h
    obtain ⟨a', e1, v1⟩ := Zgc (w := w) s1 p1 h1;obtain ⟨b', e2, v2⟩ := Zgc (w := w) s2 p2 h2;have e3 := hg _ _ _ _ _ v1 v2 hq;have ih := ZxX hg s1 p1 s2 p2 n (i + 1) r' h3;rw [List.range'_succ];simp only [Zkc, Sem.run_bind, e1, e2, e3, Result.andThen_ok];cases q
    ·simp [Sem.run]
    ·simpa using ih
   ·cases h
  ·cases h
theorem Zuh : ∀ (d k : Nat), EqOk P ι w (d + k) (eqV P d)
 | 0, k => fun t x y x' y' q hx hy h => by simp [eqV] at h
 | d + 1, k => fun t x y x' y' q hx hy h => by
  have ed : d + 1 + k = (d + k) + 1 := by omega
  rw [ed];simp only [eqV] at h;split at h
  ·rename_i k0 kk a k2 b hu
   split at h
   ·rename_i hk
    subst hk;injection h with h
    subst h;have e1 := hx.int_inv;have e2 := hy.int_inv;subst e1 e2;exact run_equalIn_int w (d + k) t _ _ a b hu
   ·cases h
  ·rename_i a b hu
   injection h with h;subst h
   have e1 := hx.bool_inv;have e2 := hy.bool_inv;subst e1 e2;exact run_equalIn_bool' w (d + k) t a b hu
  ·rename_i fs xs ys hu
   obtain ⟨hg, h⟩ := (show ∀ {b : Bool} {x : Option Bool} {y : Bool}, (bif b then none else x) = some y → b = false ∧ x = some y from fun {b x y} h => by cases b <;> simp at h; exact ⟨rfl, h⟩) h;obtain ⟨xs', rfl, s1, p1⟩ := hx.agg_inv;obtain ⟨ys', rfl, s2, p2⟩ := hy.agg_inv;have hfo : P.fieldsOf t = fs := by unfold Program.fieldsOf; rw [hu]
   have e := run_equalIn_struct (P := P) w (d + k) t xs' ys' (by rw [hfo]; exact hu) hg;rw [hfo] at e;exact e.trans (ZxW (Zuh d k) s1 p1 s2 p2 fs.toList q h)
  ·rename_i n e xs ys hu
   split at h
   ·rename_i i hi
    obtain ⟨xs', rfl, s1, p1⟩ := hx.agg_inv;obtain ⟨ys', rfl, s2, p2⟩ := hy.agg_inv;exact (Zqr w (d + k) t e n i xs' ys' hu hi).trans (ZxX (fun x y x' y' q => Zuh d k e x y x' y' q) s1 p1 s2 p2 n 0 q h)
   ·cases h
  ·cases h
theorem Zle {t : TypeId} {x y x' y' : Value} {q : Bool} (hx : VR ι x x') (hy : VR ι y y') (h : ZmX P t x y = some q) : ∃ xs ys, x' = .agg xs ∧ y' = .agg ys ∧ P.eqGuardType P.depth t = false ∧ (Op.equal t x' y').run P w = .ok q w := by
 unfold ZmX at h;split at h
 ·rename_i xs ys
  obtain ⟨hg, h⟩ := (show ∀ {b : Bool} {x : Option Bool} {y : Bool}, (bif b then none else x) = some y → b = false ∧ x = some y from fun {b x y} h => by cases b <;> simp at h; exact ⟨rfl, h⟩) h;have e := Zuh (P := P) (w := w) 8 9992 t _ _ _ _ q hx hy h;obtain ⟨xs', rfl, s1, p1⟩ := hx.agg_inv;obtain ⟨ys', rfl, s2, p2⟩ := hy.agg_inv;exact ⟨xs', ys', rfl, rfl, hg, e⟩
 ·cases h
theorem Z11 {t : TypeId} {xs ys : Array Value} {q : Bool} (h : (Op.equal t (.agg xs) (.agg ys)).run P w = .ok q w) : (binOp .eql t (.agg xs) (.agg ys)).run P w = .ok (.bool q) w ∧ (binOp .neq t (.agg xs) (.agg ys)).run P w = .ok (.bool (!q)) w := by
 constructor
 ·show (do pure (.bool (← Op.equal t (.agg xs) (.agg ys))) : Sem Value).run P w = _
  simp [h, Result.andThen, Sem.run]
 ·show (do pure (.bool (!(← Op.equal t (.agg xs) (.agg ys)))) : Sem Value).run P w = _
  simp [h, Result.andThen, Sem.run]
theorem ZvC {op : BinOp} {t : TypeId} {x y : Operand} {xs ys : Array Value} (h : P.eqGuardType P.depth t = false) : (eqGuard op t x y (.agg xs) (.agg ys)).run P w = .ok () w := by unfold eqGuard;cases op <;> first | rfl | (simp [program, Sem.run, h, Result.andThen])
end
section
variable {P : Program} {ι : Ren} {w : World} {ρ ρ' : Operand → Value} {s s' : St} {v : Value}
theorem Z12 {es es' : List MapEntry} (h : kvs es = kvs es') (i : Nat) : (es[i]?).map (fun e => (e.key, e.val)) = (es'[i]?).map (fun e => (e.key, e.val)) := by have := congrArg (fun l => l[i]?) h;simpa [kvs] using this
theorem Zng {d : TypeDesc} {k : Value} : ∀ {es es' : List MapEntry} (i : Nat), kvs es = kvs es' → Instr.findNow d k es i = Instr.findNow d k es' i
 | [], [], _, _ => rfl
 | [], _ :: _, _, h => by simp [kvs] at h
 | _ :: _, [], _, h => by simp [kvs] at h
 | e :: es, e' :: es', i, h => by simp only [kvs, List.map_cons, List.cons.injEq, Prod.mk.injEq] at h;simp only [Instr.findNow];rw [h.1.1, h.1.2, Zng (i + 1) h.2]
theorem Z2i {es es' : List MapEntry} (h : kvs es = kvs es') (i : Nat) (k x : Value) (f g : MapEntry → MapEntry) (hf : ∀ e, (f e).key = k ∧ (f e).val = x) (hg : ∀ e, (g e).key = k ∧ (g e).val = x) : kvs (es.modify i f) = kvs (es'.modify i g) := by
 apply List.ext_getElem?;intro j;simp only [kvs, List.getElem?_map, List.getElem?_modify];have hj := Z12 h j;cases h1 : es[j]? <;> cases h2 : es'[j]? <;> rw [h1, h2] at hj <;> simp at hj ⊢
 rename_i a b;by_cases hij : i = j
 ·simp [hij, (hf a).1, (hf a).2, (hg b).1, (hg b).2]
 ·simp [hij, hj]
theorem ZvD {q : IntKind} {k : Value} : ∀ (l : List MapEntry) (i : Nat) (r : Nat × Value), Instr.findNow (.int q) k l i = some (some r) → ∃ e, l[r.1 - i]? = some e ∧ e.key = k ∧ i ≤ r.1 ∧ ∃ j n, k = .int j n
 | [], i, r, h => by simp [Instr.findNow] at h
 | e :: l, i, r, h => by
  simp only [Instr.findNow] at h;split at h
  ·rename_i hs
   injection h with h; injection h with h; subst h
   unfold Instr.sameNow at hs;split at hs
   ·rename_i a b c d hk
    split at hs
    ·injection hs with hs
     rename_i hab;have := beq_iff_eq.1 hs;subst this hab;exact ⟨e, by simp, hk, Nat.le_refl _, _, _, rfl⟩
    ·cases hs
   ·exact absurd ‹TypeDesc.int q = TypeDesc.string› (by simp)
   ·exact absurd ‹TypeDesc.int q = TypeDesc.bool› (by simp)
   ·cases hs
  ·obtain ⟨e', h1, h2, h3, h4⟩ := ZvD l (i + 1) r h
   refine ⟨e', ?_, h2, by omega, h4⟩;rw [show r.1 - i = (r.1 - (i + 1)) + 1 by omega];exact h1
  ·cases h
theorem ZoB {kt : TypeId} {q : IntKind} (hk : P.underlying kt = some (.int q)) (k : Value) (e : Bool) (n : Nat) : (Instr.checkKey e (n + 1) kt k).run P w = .ok () w := by simp only [Instr.checkKey, Sem.run_bind, run_underlying hk, Result.andThen];cases k <;> rfl
theorem ZoC {r : Nat} {o : Obj} {es : Array MapEntry} {c : Nat} (hB : w.heap[r]? = some (.map es c)) : (setObj r o).run P w = .ok () { w with heap := w.heap.setIfInBounds r o } ∧ ({ w with heap := w.heap.setIfInBounds r o } : World).heap[r]? = some o ∧ (∀ i, i ≠ r → ({ w with heap := w.heap.setIfInBounds r o } : World).heap[i]? = w.heap[i]?) ∧ ({ w with heap := w.heap.setIfInBounds r o } : World).heap.size = w.heap.size :=
 ⟨Go.MapKept.run_setObj_map o hB, (Go.MapKept.heap_set hB).1, (Go.MapKept.heap_set hB).2, by simp⟩
theorem VR.map_inv {k : Nat} {v' : Value} (h : VR ι (.map (some k)) v') : ∃ b, ι k = some b ∧ v' = .map (some b.1) := by
 cases h with
 | atom h => simp [Ev.atom] at h
 | map h => exact ⟨_, h, rfl⟩
theorem VR.map_none {v' : Value} (h : VR ι (.map none) v') : v' = .map none := h.eq_of_atom rfl
theorem ZoD (he : Emb P ι s.h.get w) {k : Nat} {es : List MapEntry} (h : ZhC s (.map (some k)) = some es) : ∃ (b : Nat × Nat) (es' : Array MapEntry) (c : Nat), ι k = some b ∧ w.heap[b.1]? = some (.map es' c) ∧ kvs es = kvs es'.toList ∧ ∃ O, s.h.get k = some (.ro O true) := by
 simp only [ZhC] at h;split at h
 ·rename_i a c hk
  injection h with h;subst h
  obtain ⟨b, hb, ⟨es1, c1, es', c', e1, e2, e3⟩ | ⟨b1, p1, e1, _⟩⟩ := he.ro k _ hk
  rotate_left
  ·cases e1
  injection e1 with e1;subst e1
  exact ⟨b, es', c', hb, e2, e3, _, hk⟩
 ·cases h
theorem Z2j {t : TypeId} {z : Value} (h : Zx3 P t = some z) : (zeroValue t).run P w = .ok z w ∧ ZaT z = true := by
 unfold Zx3 at h;split at h
 ·rename_i i hi
  split at h
  ·rename_i u hu
   obtain ⟨h1, h2⟩ := Zl h;injection h2 with h2
   subst h2;exact ⟨by simp [zeroValue, typeInfo, hi, hu, Result.andThen], h1⟩
  ·cases h
 ·cases h
theorem Z0w {t : TypeId} (h : ZxG P t = true) (v : Value) (e : Bool) (n : Nat) : (Instr.checkKey e (n + 1) t v).run P w = .ok () w := by
 unfold ZxG at h;split at h
 ·rename_i q hq; exact ZoB hq v e n
 ·rename_i hq
  simp only [Instr.checkKey, Sem.run_bind, run_underlying hq, Result.andThen];cases v <;> rfl
 ·rename_i hq
  simp only [Instr.checkKey, Sem.run_bind, run_underlying hq, Result.andThen];cases v <;> rfl
 ·cases h
theorem ZsP {kt : TypeId} (hk : P.underlying kt = some .string) (k : Value) (e : Bool) (n : Nat) : (Instr.checkKey e (n + 1) kt k).run P w = .ok () w := by simp only [Instr.checkKey, Sem.run_bind, run_underlying hk, Result.andThen];cases k <;> rfl
theorem Z3i {t : TypeId} {cs : Array Value} {o : Nat} (h : (ZgS P t cs o).isSome) : ∃ v, (part t cs o).run P w = .ok v w := by
 obtain ⟨v, hv⟩ := Option.isSome_iff_exists.1 h;unfold ZgS at hv;split at hv
 ·rename_i m hsh
  obtain ⟨hA, i, hi, him⟩ := Zga (w := w) hsh;subst him;exact ⟨.agg (cs.extract o (o + i.size)), by simp [part, hA, Result.andThen, sizeOf, typeInfo, hi, Sem.run]⟩
 ·rename_i m hsh
  obtain ⟨hA, _⟩ := Zga (w := w) hsh;have hlt : o < cs.size := (Array.getElem?_eq_some_iff.1 hv).1;exact ⟨cs[o], by simp [part, hA, Result.andThen, Sem.run, Array.getElem?_eq_getElem hlt]⟩
 ·cases hv
theorem ZsQ {kt : TypeId} {fs : Array Field} (hk : P.underlying kt = some (.struct fs)) {cs : Array Value} (e : Bool) (n : Nat) (h : ZmY P cs fs.toList = true) : (Instr.checkKey e (n + 2) kt (.agg cs)).run P w = .ok () w := by
 rw [Instr.checkKey];simp only [Sem.run_bind, run_underlying hk, Result.andThen_ok];rw [← Array.forIn_toList];generalize fs.toList = l at h;clear hk
 induction l with
 | nil => simp
 | cons f l ih =>
  simp only [ZmY, Bool.and_eq_true, Bool.or_eq_true, beq_iff_eq] at h;simp only [List.forIn_cons, Sem.run_bind, Sem.run_ite];rcases h.1 with h1 | h1
  ·simp only [h1, ne_eq, not_true_eq_false, if_false, Sem.run_pure, Result.andThen_ok]
   exact ih h.2
  ·by_cases hn : f.name = "_"
   ·simp only [hn, ne_eq, not_true_eq_false, if_false, Sem.run_pure, Result.andThen_ok]
    exact ih h.2
   ·obtain ⟨v, hv⟩ := Z3i (w := w) h1.2
    simp only [hn, ne_eq, not_false_eq_true, if_true, hv, Z0w h1.1 v e n, Result.andThen_ok, Sem.run_pure];exact ih h.2
theorem ZsR {kt : TypeId} {k : Value} (hkf : ZaT k = true) : ∀ {es es' : List MapEntry} (i : Nat) {a : Option (Nat × Value)}, kvs es = kvs es' → Zkr P kt k es i = some a → (Instr.findAsking kt k es' i).run P w = .ok a w
 | [], [], _, a, _, h => by simp only [Zkr] at h; injection h with h; subst h; rfl
 | [], _ :: _, _, _, h, _ => by simp [kvs] at h
 | _ :: _, [], _, _, h, _ => by simp [kvs] at h
 | e :: es, e' :: es', i, a, hkv, h => by
  simp only [kvs, List.map_cons, List.cons.injEq, Prod.mk.injEq] at hkv;simp only [Zkr] at h;obtain ⟨hf, h⟩ := Zl h;have hv := VR.of_free1 (ι := fun _ => none) hf;have hk := VR.of_free1 (ι := fun _ => none) hkf;split at h
  ·rename_i hq
   injection h with h;subst h
   obtain ⟨_, _, _, _, _, hr⟩ := Zle (w := w) hk hv hq;rw [Instr.findAsking, ← hkv.1.1, ← hkv.1.2];simp [hr, Result.andThen, Sem.run]
  ·rename_i hq
   obtain ⟨_, _, _, _, _, hr⟩ := Zle (w := w) hk hv hq;rw [Instr.findAsking, ← hkv.1.1];simp only [Sem.run_bind, hr, Result.andThen_ok, Bool.false_eq_true, if_false];exact ZsR hkf (i + 1) hkv.2 h
  ·cases h
theorem Zlf {kt : TypeId} {k : Value} {es es' : List MapEntry} {a : Option (Nat × Value)} (hkf : ZaT k = true) (hes : kvs es = kvs es') (h : Zdo P kt k es = some a) : (Instr.findKey kt k es').run P w = .ok a w ∧ ∀ e, (Instr.checkKey e 10000 kt k).run P w = .ok () w := by
 unfold Zdo at h;split at h
 ·rename_i q hq
  rw [Zng 0 hes] at h;exact ⟨Go.MapKept.run_findKey hq h, fun e => ZoB hq k e 9999⟩
 ·rename_i hq
  rw [Zng 0 hes] at h;exact ⟨Go.MapKept.run_findKey hq h, fun e => ZsP hq k e 9999⟩
 ·rename_i fs hq
  split at h
  ·rename_i cs
   obtain ⟨h1, h⟩ := Zl h;refine ⟨?_, fun e => ZsQ hq e 9998 h1⟩;rw [run_findKey_eq (w := w) (by rw [hq])];exact ZsR hkf 0 hes h
  ·cases h
 ·cases h
theorem Z4i {z : Value} (h : ZaT z = true) : free z = true := by cases z <;> first | exact h | (simp [ZaT, atom] at h)
theorem Z2k {z : Value} {ok : Bool} {r : Option Value} (h1 : ZaT z = true) (h2 : Zks r = true) : free (Zg0 z ok r) = true := by
 have h3 : ZaT (r.getD z) = true := by cases r with | none => exact h1 | some u => exact h2
 cases ok with
 | false => exact Z4i h3
 | true =>
  show (ZaT (r.getD z) && (true && true)) = true;rw [h3];rfl
theorem Z2l {t kt et : TypeId} {z k : Value} {ok : Bool} {r : Option (Nat × Value)} (hkf : ZaT k = true) (hm : P.underlying t = some (.map kt et)) (hz : (zeroValue et).run P w = .ok z w) (hr : Zdo P kt k [] = some r) :
  (Instr.lookup t (.map none) k ok).run P w = .ok (Zg0 z ok (r.map (·.2))) w := by
 obtain ⟨ha, hc⟩ := Zlf (w := w) (es' := []) hkf rfl hr;simp only [Instr.lookup, Sem.run_bind, Sem.run, run_underlying hm, Result.andThen, hc, ha, Sem.run_pure];cases r with
 | none => cases ok <;> simp [Zg0, hz, Result.andThen, Sem.run]
 | some a => cases ok <;> simp [Zg0, Result.andThen, Sem.run]
theorem Z2m {t kt et : TypeId} {z k : Value} {ok : Bool} {r : Option (Nat × Value)} {b : Nat} {es : List MapEntry} {es' : Array MapEntry} {c : Nat} (hkf : ZaT k = true) (hm : P.underlying t = some (.map kt et)) (hz : (zeroValue et).run P w = .ok z w) (hB : w.heap[b]? = some (.map es' c)) (hkv : kvs es = kvs es'.toList) (hr : Zdo P kt k es = some r) :
  (Instr.lookup t (.map (some b)) k ok).run P w = .ok (Zg0 z ok (r.map (·.2))) w := by
 obtain ⟨ha, hc⟩ := Zlf (w := w) hkf hkv hr;simp only [Instr.lookup, Sem.run_bind, Sem.run, run_underlying hm, Result.andThen, Go.MapKept.run_getObj_map hB, hc, ha, Sem.run_pure];cases r with
 | none => cases ok <;> simp [Zg0, hz, Result.andThen, Sem.run]
 | some a => cases ok <;> simp [Zg0, Result.andThen, Sem.run]
theorem ZoE {o : Oper} {t : TypeId} {x ix : Operand} {ok : Bool} (ho : o.op = .lookup t x ix ok) (hρ : ∀ x, VR ι (ρ x) (ρ' x)) (he : Emb P ι s.h.get w) (h : Zfr P ρ t x ix ok s = some (v, s')) :
  s' = s ∧ Res P ((execOp ρ' o).run P w) s ι w v s' := by
 unfold Zfr at h;split at h
 ·rename_i kt et hm
  split at h
  ·rename_i z es hz hes
   obtain ⟨hat, h⟩ := Zl h;split at h
   ·rename_i r hr
    obtain ⟨hfr, h⟩ := Zl h;injection h with h
    injection h with h1 h2;subst h1 h2
    refine ⟨rfl, ?_⟩;have hix : ρ' ix = ρ ix := (hρ ix).eq_of_free1 hat;obtain ⟨hz1, hz2⟩ := Z2j (w := w) hz;refine Res.same he (v' := Zg0 z ok (r.map (·.2))) ?_ (VR.of_free (Z2k hz2 hfr));have key : (Instr.lookup t (ρ' x) (ρ' ix) ok).run P w = .ok (Zg0 z ok (r.map (·.2))) w := by
     rw [hix];cases hx : ρ x with
     | map m =>
      have hv := hx ▸ hρ x;cases m with
      | none =>
       rw [hv.map_none];rw [hx] at hes;injection hes with hes
       subst hes;exact Z2l hat hm hz1 hr
      | some k =>
       obtain ⟨b, hb, hx'⟩ := hv.map_inv;rw [hx] at hes;obtain ⟨b2, es', c, hb2, hB, hkv, _⟩ := ZoD he hes;rw [hb] at hb2; injection hb2 with hb2; subst hb2
       rw [hx'];exact Z2m hat hm hz1 hB hkv hr
     | _ => rw [hx] at hes; simp [ZhC] at hes
    simp [execOp, ho, key, Result.andThen, Sem.run]
   ·cases h
  ·cases h
 ·cases h
theorem ZoF {o : Oper} {t : TypeId} {m k x : Operand} (ho : o.op = .mapUpdate t m k x) (hρ : ∀ x, VR ι (ρ x) (ρ' x)) (he : Emb P ι s.h.get w) (h : Zfs P ρ t m k x s = some (v, s')) :
  Res P ((execOp ρ' o).run P w) s ι w v s' := by
 unfold Zfs at h;split at h
 ·rename_i kt et b0 hm hmm
  split at h
  ·rename_i es hes
   obtain ⟨hat, h⟩ := Zl h;simp only [Bool.and_eq_true] at hat;split at h
   ·rename_i l hl
    injection h with h;injection h with h1 h2
    subst h1 h2;have hk' : ρ' k = ρ k := (hρ k).eq_of_free1 hat.1;have hx' : ρ' x = ρ x := (hρ x).eq_of_free1 hat.2;obtain ⟨b, hb, hm'⟩ := (hmm ▸ hρ m).map_inv;obtain ⟨b2, es', c, hb2, hB, hkv, O, hO⟩ := ZoD he hes;rw [hb] at hb2; injection hb2 with hb2; subst hb2
    have main : ∃ (es2 : Array MapEntry) (c2 : Nat), (Instr.mapUpdate t (ρ' m) (ρ' k) (ρ' x)).run P w = .ok () { w with heap := w.heap.setIfInBounds b.1 (.map es2 c2) } ∧ kvs l = kvs es2.toList := by
     rw [hm', hk', hx'];unfold putM at hl;split at hl
     ·rename_i hf
      obtain ⟨hf, hc⟩ := Zlf (w := w) hat.1 hkv hf;injection hl with hl
      subst hl;refine ⟨es'.push { key := ρ k, val := ρ x, born := c }, c + 1, ?_, by simp [kvs] at hkv ⊢; exact hkv⟩;simp [Instr.mapUpdate, run_underlying hm, Result.andThen, Go.MapKept.run_getObj_map hB, hc, hf, (ZoC hB).1]
     ·rename_i r hf
      obtain ⟨hf, hc⟩ := Zlf (w := w) hat.1 hkv hf;obtain ⟨hb, hl⟩ := Zl hl;injection hl with hl
      subst hl;have hkey : ((es'[r.1]?).map (·.key)).getD (ρ k) = ((es[r.1]?).map (·.key)).getD (ρ k) := by
       have := Z12 hkv r.1;rw [show es'.toList[r.1]? = es'[r.1]? from by simp] at this;have h2 := congrArg (Option.map (·.1)) this;simp only [Option.map_map] at h2;have e : ∀ o : Option MapEntry, o.map ((fun x : Value × Value => x.1) ∘ fun e => (e.key, e.val)) = o.map (·.key) := fun o => by cases o <;> rfl
       rw [e, e] at h2;rw [h2]
      have hst : (Instr.keyThatStays (((es[r.1]?).map (·.key)).getD (ρ k)) (ρ k)).run P w = .ok (ρ k) w := by simp [Instr.keyThatStays, hb, Sem.run]
      refine ⟨es'.modify r.1 fun e => { e with key := ρ k, val := ρ x }, c, ?_, ?_⟩
      ·simp [Instr.mapUpdate, run_underlying hm, Result.andThen, Go.MapKept.run_getObj_map hB, hc, hf, hkey, hst, (ZoC hB).1]
      ·rw [Array.toList_modify]
       exact Z2i hkv _ (ρ k) (ρ x) _ _ (fun e => ⟨rfl, rfl⟩) (fun e => ⟨rfl, rfl⟩)
     ·cases hl
    obtain ⟨es2, c2, hrun, hkv2⟩ := main;obtain ⟨_, q1, q2, q3⟩ := ZoC (P := P) (o := .map es2 c2) hB;refine ⟨.skip, { w with heap := w.heap.setIfInBounds b.1 (.map es2 c2) }, ι, undef, ?_, .inr ⟨rfl, rfl⟩, ?_, Dom.refl, VR.of_free rfl⟩
    ·simp [execOp, ho, hrun, Result.andThen, Sem.run]
    ·show Step P ι s.h.get w ι (s.h.set b0 (some (.ro (.map l.toArray 0) true))).get _
     rw [Tr.get_set];exact Step.storeM he hO hb (.inl ⟨_, _, es2, c2, rfl, q1, by simpa using hkv2⟩) q2 q3 rfl rfl rfl
   ·cases h
  ·cases h
 ·cases h
theorem ZxY {t t2 ty : TypeId} {x x' k k' : Value} (hx : VR ι x x') (hk : VR ι k k') (he : Emb P ι s.h.get w) (h : Zkt P s t x k = some (v, s')) :
  ∃ w', (Builtin.delete_ #[t, t2] ty #[x', k']).run P w = .ok (.tuple #[]) w' ∧ Step P ι s.h.get w ι s'.h.get w' ∧ s'.n = s.n ∧ v = .tuple #[] := by
 simp [Zkt] at h
theorem ZxZ {t kt et ty : TypeId} {b0 : Nat} {x' : Value} {es : List MapEntry} (hm : P.underlying t = some (.map kt et)) (hx : VR ι (.map (some b0)) x') (he : Emb P ι s.h.get w) (hes : ZhC s (.map (some b0)) = some es) : (Builtin.len_ #[t] ty #[x']).run P w = .ok (goInt es.length) w := by
 obtain ⟨b, hb, hx'⟩ := hx.map_inv;obtain ⟨b2, es', c, hb2, hB, hkv, O, hO⟩ := ZoD he hes;rw [hb] at hb2; injection hb2 with hb2; subst hb2
 have hl : es.length = es'.size := by have := congrArg List.length hkv;simpa [kvs] using this
 rw [hx'];simp [Builtin.len_, run_underlying hm, Result.andThen, Sem.run, Go.MapKept.run_getObj_map hB, hl]
theorem Z0x {o : Oper} {t : TypeId} {x : Operand} (ho : o.op = .range t x) (hρ : ∀ x, VR ι (ρ x) (ρ' x)) (he : Emb P ι s.h.get w) (hf : Fresh ι s.n s'.n) (h : Zmg P ρ t x s = some (v, s')) :
  Res P ((execOp ρ' o).run P w) s ι w v s' := by
 simp [Zmg] at h
theorem Z2n {o : Oper} {it : Operand} {q : Bool} (ho : o.op = .next it q) (hρ : ∀ x, VR ι (ρ x) (ρ' x)) (he : Emb P ι s.h.get w) (h : Zo5 ρ it q s = some (v, s')) :
  Res P ((execOp ρ' o).run P w) s ι w v s' := by
 simp [Zo5] at h
theorem Zwe {o : Oper} {t : TypeId} {r : Option Operand} (ho : o.op = .makeMap t r) (hρ : ∀ x, VR ι (ρ x) (ρ' x)) (he : Emb P ι s.h.get w) (hf : Fresh ι s.n s'.n) (h : Zji P ρ t r s = some (v, s')) :
  Res P ((execOp ρ' o).run P w) s ι w v s' := by
 have main : ∀ (hr : (Instr.makeMap t (r.map ρ')).run P w = .ok (.map (some w.heap.size)) (w.alloc (.map #[] 0))) (_ : v = .map (some s.n)) (_ : s' = s.addM (.map #[] 0)), Res P ((execOp ρ' o).run P w) s ι w v s' := by
  rintro hr rfl rfl
  have st := Step.allocM he (Nat.lt_of_lt_of_le (Nat.lt_succ_self _) hf.1) (hf.2 s.n (Nat.le_refl _) (Nat.lt_succ_self _)) (O := .map #[] 0) (O' := .map #[] 0) (.inl ⟨_, _, _, _, rfl, rfl, rfl⟩) 0;refine ⟨.value (.map (some w.heap.size)), w.alloc (.map #[] 0), upd ι s.n (some (w.heap.size, 0)), .map (some w.heap.size), ?_, .inl rfl, ?_, Dom.one, .map (b := (w.heap.size, 0)) Zk⟩
  ·simp [execOp, ho, hr, Result.andThen, Sem.run]
  ·show Step P ι s.h.get w _ (s.h.set s.n (some (.ro (.map #[] 0) true))).get _
   rw [Tr.get_set];exact st
 unfold Zji at h;split at h
 ·injection h with h
  injection h with h1 h2;exact main (by simp [Instr.makeMap, newObj, Result.andThen, Sem.run]) h1.symm h2.symm
 ·rename_i x
  split at h
  ·rename_i kt et kk n hm hx
   injection h with h;injection h with h1 h2
   have := (hx ▸ hρ x).int_inv;exact main (by simp [Instr.makeMap, newObj, Result.andThen, Sem.run, run_underlying hm, this, asInt, asIntOf]) h1.symm h2.symm
  ·cases h
theorem Z0y {t ty : TypeId} {x x' : Value} (hx : VR ι x x') (he : Emb P ι s.h.get w) (h : Zmh P s t x = some (v, s')) :
  ∃ w', (Builtin.clear_ #[t] ty #[x']).run P w = .ok (.tuple #[]) w' ∧ Step P ι s.h.get w ι s'.h.get w' ∧ s'.n = s.n ∧ v = .tuple #[] := by
 simp [Zmh] at h
theorem Z0z {kt : TypeId} {q : IntKind} (hk : P.underlying kt = some (.int q)) {k : Value} {es : List MapEntry} {r : Option Value} (h : Zx2 q k es = some r) : ∃ a, Zdo P kt k es = some a ∧ a.map (·.2) = r := by
 unfold Zx2 at h;unfold Zdo;rw [hk];split at h
 ·rename_i a ha
  injection h with h;subst h
  exact ⟨some a, ha, rfl⟩
 ·rename_i ha
  injection h with h;subst h
  exact ⟨none, ha, rfl⟩
 ·cases h
theorem Z3j {kt : TypeId} {q : IntKind} (hk : P.underlying kt = some (.int q)) {k x : Value} {es l : List MapEntry} (h : Z2d q k x es = some l) : putM P kt k x es = some l := by
 have hf : Zdo P kt k es = Instr.findNow (.int q) k es 0 := by unfold Zdo; rw [hk]
 unfold Z2d at h;unfold putM;rw [hf];split at h
 ·rename_i ha
  first | exact h | (rw [ha]; exact h)
 ·rename_i r ha
  obtain ⟨e, g1, g2, _, j, n, g3⟩ := ZvD _ _ _ ha;have hkey : ((es[r.1]?).map (·.key)).getD k = k := by
   have : es[r.1]? = some e := by simpa using g1
   rw [this];exact g2
  first | rw [ha] | skip
  show (bif Instr.sameBits 10000 (((es[r.1]?).map (·.key)).getD k) k then _ else none) = _;rw [hkey, g3];simp only [Instr.sameBits, beq_self_eq_true, Bool.and_self, cond_true];rw [← g3];exact h
 ·cases h
theorem Z2o {t : TypeId} {x ix : Operand} {ok : Bool} {r : Option Value} (hob : ∀ p ∈ s'.ob, p.1 = p.2) (h : Zjg P ρ t x ix ok r s = some (v, s')) : ∃ s1, Zfr P ρ t x ix ok s = some (v, s1) ∧ s'.h = s1.h ∧ s'.n = s1.n := by
 unfold Zjg at h;split at h
 ·rename_i kt et hm
  split at h
  ·rename_i q z es hk hz hes
   obtain ⟨hat, h⟩ := Zl h;simp only [Bool.and_eq_true] at hat;injection h with h
   injection h with h1 h2;subst h1 h2
   have := Zao.1 (hob _ (List.mem_cons_self (a := (dP (Zx2 q (ρ ix) es = some r), true))));obtain ⟨a, ha, rfl⟩ := Z0z hk this;refine ⟨s, ?_, rfl, rfl⟩;have hf1 : ZaT (ρ ix) = true := by have := hat.1;cases hx : ρ ix <;> rw [hx] at this <;> first | exact this | (simp [atom] at this)
   simp only [Zfr, hm, hz, hes, hf1, ha, hat.2, cond_true]
  ·rename_i fs z es hk hz hes
   obtain ⟨hat, h⟩ := Zl h;simp only [Bool.and_eq_true] at hat;injection h with h
   injection h with h1 h2;subst h1 h2
   have := Zao.1 (hob _ (List.mem_cons_self (a := (dP ((Zdo P kt (ρ ix) es).map (Option.map Prod.snd) = some r), true))));obtain ⟨a, ha, rfl⟩ := Option.map_eq_some_iff.1 this;refine ⟨s, ?_, rfl, rfl⟩;have hf2 : Zks (a.map (·.2)) = true := hat.2;simp only [Zfr, hm, hz, hes, hat.1, ha, hf2, cond_true]
  ·rename_i z es hk hz hes
   obtain ⟨hat, h⟩ := Zl h;simp only [Bool.and_eq_true] at hat;injection h with h
   injection h with h1 h2;subst h1 h2
   have := Zao.1 (hob _ (List.mem_cons_self (a := (dP ((Zdo P kt (ρ ix) es).map (Option.map Prod.snd) = some r), true))));obtain ⟨a, ha, rfl⟩ := Option.map_eq_some_iff.1 this;refine ⟨s, ?_, rfl, rfl⟩;have hf2 : Zks (a.map (·.2)) = true := hat.2;simp only [Zfr, hm, hz, hes, hat.1, ha, hf2, cond_true]
  ·cases h
 ·cases h
theorem Z2p {t : TypeId} {m k x : Operand} {l : List MapEntry} (hob : ∀ p ∈ s'.ob, p.1 = p.2) (h : Zjh P ρ t m k x l s = some (v, s')) : ∃ s1, Zfs P ρ t m k x s = some (v, s1) ∧ s'.h = s1.h ∧ s'.n = s1.n := by
 unfold Zjh at h;split at h
 ·rename_i kt et b hm hmm
  split at h
  ·rename_i q es hk hes
   obtain ⟨hat, h⟩ := Zl h;injection h with h
   injection h with h1 h2;subst h1 h2
   have := Zao.1 (hob _ (List.mem_cons_self (a := (dP (Z2d q (ρ k) (ρ x) es = some l), true))));refine ⟨s.putM b (.map l.toArray 0), ?_, rfl, rfl⟩;have hf1 : ZaT (ρ k) = true := by have := (Bool.and_eq_true_iff.1 hat).1;cases hx : ρ k <;> rw [hx] at this <;> first | exact this | (simp [atom] at this)
   simp only [Zfs, hm, hmm, hes, hf1, (Bool.and_eq_true_iff.1 hat).2, Bool.and_self, Z3j hk this, cond_true]
  ·rename_i fs es hk hes
   obtain ⟨hat, h⟩ := Zl h;injection h with h
   injection h with h1 h2;subst h1 h2
   have := Zao.1 (hob _ (List.mem_cons_self (a := (dP (putM P kt (ρ k) (ρ x) es = some l), true))));refine ⟨s.putM b (.map l.toArray 0), ?_, rfl, rfl⟩;simp only [Zfs, hm, hmm, hes, (Bool.and_eq_true_iff.1 hat).1, (Bool.and_eq_true_iff.1 hat).2, Bool.and_self, this, cond_true]
  ·rename_i es hk hes
   obtain ⟨hat, h⟩ := Zl h;injection h with h
   injection h with h1 h2;subst h1 h2
   have := Zao.1 (hob _ (List.mem_cons_self (a := (dP (putM P kt (ρ k) (ρ x) es = some l), true))));refine ⟨s.putM b (.map l.toArray 0), ?_, rfl, rfl⟩;simp only [Zfs, hm, hmm, hes, (Bool.and_eq_true_iff.1 hat).1, (Bool.and_eq_true_iff.1 hat).2, Bool.and_self, this, cond_true]
  ·cases h
 ·cases h
end
section
variable {P : Program} {ι : Ren} {w : World} {ρ ρ' : Operand → Value} {s s' : St} {v : Value}

theorem Zjk {o : Oper} {op : BinOp} {t : TypeId} {x y : Operand} {yt : TypeId} (ho : o.op = .binOp op t x y yt) (hρ : ∀ x, VR ι (ρ x) (ρ' x)) (he : Emb P ι s.h.get w) (h : ZiU P ρ o op t x y s = some (v, s')) :
  s' = s ∧ Res P ((execOp ρ' o).run P w) s ι w v s' := by
 have hs : ∀ cs b, o.op ≠ .select cs b := fun cs b e => by rw [ho] at e; cases e
 unfold ZiU at h;split at h
 ·rename_i q hq
  injection h with h;injection h with h1 h2
  subst h1 h2;obtain ⟨xs, ys, hx', hy', hg, hr⟩ := Zle (w := w) (hρ x) (hρ y) hq;have g := ZvC (P := P) (w := w) (op := .eql) (t := t) (x := x) (y := y) (xs := xs) (ys := ys) hg;rw [hx', hy'] at hr;exact ⟨rfl, Res.same he (v' := .bool q) (by simp [execOp, ho, hx', hy', g, (Z11 hr).1, Result.andThen, Sem.run]) (.atom rfl)⟩
 ·rename_i q hq
  injection h with h;injection h with h1 h2
  subst h1 h2;obtain ⟨xs, ys, hx', hy', hg, hr⟩ := Zle (w := w) (hρ x) (hρ y) hq;have g := ZvC (P := P) (w := w) (op := .neq) (t := t) (x := x) (y := y) (xs := xs) (ys := ys) hg;rw [hx', hy'] at hr;exact ⟨rfl, Res.same he (v' := .bool (!q)) (by simp [execOp, ho, hx', hy', g, (Z11 hr).2, Result.andThen, Sem.run]) (.atom rfl)⟩
 split at h
 ·rename_i r hr
  injection h with h;subst h
  exact Zb9 hs hρ he hr
 ·split at h
  ·rename_i q hq _ _
   injection h with h;injection h with h1 h2
   subst h1 h2;obtain ⟨k1, k2⟩ := ZqZ hq;have e1 := Z3g (w := w) (Zi5 (hρ x) k1) (Zi5 (hρ y) k2) (ZoA he (hρ x) (hρ y) hq);have g := ZsO (P := P) (w := w) (op := .eql) (t := t) (x := x) (y := y) (b := ρ' y) (Zi5 (hρ x) k1);exact ⟨rfl, Res.same he (v' := .bool q) (by simp [execOp, ho, g, e1, Result.andThen, Sem.run]) (.atom rfl)⟩
  ·rename_i q hq _ _
   injection h with h;injection h with h1 h2
   subst h1 h2;obtain ⟨k1, k2⟩ := ZqZ hq;have e1 := Z3h (w := w) (Zi5 (hρ x) k1) (Zi5 (hρ y) k2) (ZoA he (hρ x) (hρ y) hq);have g := ZsO (P := P) (w := w) (op := .neq) (t := t) (x := x) (y := y) (b := ρ' y) (Zi5 (hρ x) k1);exact ⟨rfl, Res.same he (v' := .bool (!q)) (by simp [execOp, ho, g, e1, Result.andThen, Sem.run]) (.atom rfl)⟩
  ·cases h
theorem Z2q {o : Oper} {t : TypeId} {x y : Operand} {yt : TypeId} (ho : o.op = .binOp .rem t x y yt) (hρ : ∀ x, VR ι (ρ x) (ρ' x)) (he : Emb P ι s.h.get w) (hob : ∀ p ∈ s'.ob, p.1 = p.2) (h : Zo3 ρ x y s = some (v, s')) :
  s'.h = s.h ∧ s'.n = s.n ∧ Res P ((execOp ρ' o).run P w) s ι w v s := by
 unfold Zo3 at h;split at h
 ·rename_i k a k' b hx hy
  injection h with h;injection h with h1 h2
  subst h1 h2;obtain ⟨hk, hb⟩ := Zao.1 (hob (dP (k = k' ∧ b ≠ 0), true) (by simp [St.told]));subst hk;have hx' : ρ' x = .int k a := by have := hρ x; rw [hx] at this; exact this.eq_of_atom rfl
  have hy' : ρ' y = .int k b := by have := hρ y; rw [hy] at this; exact this.eq_of_atom rfl
  have g : (eqGuard .rem t x y (.int k a) (.int k b)).run P w = .ok () w := rfl;have e1 : (binOp .rem t (.int k a) (.int k b)).run P w = .ok (.int k (Int.tmod a b)) w := by simp [binOp, Op.intDiv, hb, Sem.run]
  exact ⟨rfl, rfl, Res.same he (v' := .int k (Int.tmod a b)) (by simp [execOp, ho, hx', hy', g, e1, Result.andThen, Sem.run]) (.atom rfl)⟩
 ·cases h
theorem ZvE {o : Oper} {op : BinOp} {n : Nat} {t : TypeId} {x y : Operand} {yt : TypeId} (ho : o.op = .binOp op t x y yt) (hρ : ∀ x, VR ι (ρ x) (ρ' x)) (he : Emb P ι s.h.get w) (hob : ∀ p ∈ s'.ob, p.1 = p.2) (h : Zqa ρ op x y n s = some (v, s')) :
  s'.h = s.h ∧ s'.n = s.n ∧ Res P ((execOp ρ' o).run P w) s ι w v s := by
 unfold Zqa at h;split at h
 ·rename_i k a k' b hx hy
  injection h with h;injection h with h1 h2
  subst h1 h2;obtain ⟨hb, hn⟩ := Zao.1 (hob (dP (b = Int.ofNat n ∧ n ≤ k.bits), true) (by simp [St.told]));have hx' : ρ' x = .int k a := by have := hρ x; rw [hx] at this; exact this.eq_of_atom rfl
  have hy' : ρ' y = .int k' b := by have := hρ y; rw [hy] at this; exact this.eq_of_atom rfl
  have g : (eqGuard .shl t x y (.int k a) (.int k' b)).run P w = .ok () w := rfl;have e1 : (binOp .shl t (.int k a) (.int k' b)).run P w = .ok (.int k (k.wrap (a * 2 ^ n))) w := by
   subst hb;show (Op.shift .shl k a k' (Int.ofNat n)).run P w = _;have hm : min n k.bits = n := by omega
   have h0 : ¬ ((n : Int) < 0) := by omega
   simp [Op.shift, Sem.run, hm, h0]
  exact ⟨rfl, rfl, Res.same he (v' := .int k (k.wrap (a * 2 ^ n))) (by simp [execOp, ho, hx', hy', g, e1, Result.andThen, Sem.run]) (.atom rfl)⟩
 ·rename_i k a k' b hx hy
  injection h with h;injection h with h1 h2
  subst h1 h2;obtain ⟨hb, hn⟩ := Zao.1 (hob (dP (b = Int.ofNat n ∧ n ≤ k.bits), true) (by simp [St.told]));have hx' : ρ' x = .int k a := by have := hρ x; rw [hx] at this; exact this.eq_of_atom rfl
  have hy' : ρ' y = .int k' b := by have := hρ y; rw [hy] at this; exact this.eq_of_atom rfl
  have g : (eqGuard .shr t x y (.int k a) (.int k' b)).run P w = .ok () w := rfl;have e1 : (binOp .shr t (.int k a) (.int k' b)).run P w = .ok (.int k (a / 2 ^ n)) w := by
   subst hb;show (Op.shift .shr k a k' (Int.ofNat n)).run P w = _;have hm : min n k.bits = n := by omega
   have h0 : ¬ ((n : Int) < 0) := by omega
   have hp : (0 : Int) ≤ 2 ^ n := Int.pow_nonneg (by decide);simp [Op.shift, Sem.run, hm, h0, Int.fdiv_eq_ediv_of_nonneg _ hp]
  exact ⟨rfl, rfl, Res.same he (v' := .int k (a / 2 ^ n)) (by simp [execOp, ho, hx', hy', g, e1, Result.andThen, Sem.run]) (.atom rfl)⟩
 ·cases h
theorem Z3k {o : Oper} {t : TypeId} {x y : Operand} {yt : TypeId} (ho : o.op = .binOp .add t x y yt) (hρ : ∀ x, VR ι (ρ x) (ρ' x)) (he : Emb P ι s.h.get w) (hob : ∀ p ∈ s'.ob, p.1 = p.2) (h : ZsF ρ x y s = some (v, s')) :
  s'.h = s.h ∧ s'.n = s.n ∧ Res P ((execOp ρ' o).run P w) s ι w v s := by
 simp [ZsF] at h
theorem Zqf (hρ : ∀ x, VR ι (ρ x) (ρ' x)) (a : Array Operand) : VRs ι (a.map ρ) (a.map ρ') := by
 refine ⟨by simp, fun i x y hx hy => ?_⟩;simp only [Array.getElem?_map] at hx hy;cases hi : a[i]? with
 | none => rw [hi] at hx; cases hx
 | some z => rw [hi] at hx hy; injection hx with hx; injection hy with hy; subst hx hy; exact hρ z
theorem Zwf {t tx ty : TypeId} {x y x' y' : Value} {m : Nat} {l c0 c : List Value} {s1 : St} (hx : VR ι x x') (hy : VR ι y y') (he : Emb P ι s.h.get w) (hf : Fresh ι s.n s'.n) (hob : ∀ p ∈ s'.ob, p.1 = p.2) (e1 : s1.h = s.h) (e2 : s1.n = s.n) (h : ZlY P s1 t tx x y m l c0 c = some (v, s')) :
  ∃ v' w' ι', (Builtin.append_ #[t, tx] ty #[x', y']).run P w = .ok v' w' ∧ Step P ι s.h.get w ι' s'.h.get w' ∧ Dom ι ι' s.n s'.n ∧ VR ι' v v' := by
 unfold ZlY at h;split at h
 ·rename_i v0 s2 ht
  split at h
  ·rename_i cl e q hk
   injection h with h;injection h with h1 h2
   subst h1 h2;have hc := Zao.1 (hob (dP (cl.map (nlV 0) = c), true) (by simp [St.told]));subst hc;obtain ⟨s3, h4, e3, e4⟩ := Zne (fun p hp => hob p (by simp only [St.told]; exact List.mem_cons_of_mem _ hp)) ht;obtain ⟨v', w', ι', r1, r2, r3, r4⟩ := Zeg (ty := ty) hx hy (e1 ▸ he) (e2 ▸ e4 ▸ hf) h4;have hm := Step.mapC r2.emb (e3 ▸ hk) (g := nlV 0) (fun {_ _} q => ZxV 0 q);refine ⟨v', w', ι', r1, ?_, ?_, r4⟩
   ·have hh : (s2.h.set s1.n (some (.cells (cl.map (nlV 0)) e q))).get = upd s3.h.get s1.n (some (.cells (cl.map (nlV 0)) e q)) := by rw [← e3]; exact Tr.get_set ..
    show Step P ι s.h.get w ι' (s2.h.set s1.n (some (.cells (cl.map (nlV 0)) e q))).get w';rw [hh, ← e1];exact r2.trans hm
   ·show Dom ι ι' s.n s2.n
    rw [e4, ← e2]; exact r3
  ·cases h
 ·cases h
theorem Zwg {o : Oper} {t : TypeId} (ho : o.op = .alloc t) (he : Emb P ι s.h.get w) (hf : Fresh ι s.n s'.n) (hob : ∀ p ∈ s'.ob, p.1 = p.2) (h : Zmd P t s = some (v, s')) : Res P ((execOp ρ' o).run P w) s ι w v s' := by
 unfold Zmd at h;split at h
 ·rename_i z hz
  split at h
  ·split at h
   ·rename_i m l c0 c s1 hw
    injection h with h;injection h with h1 h2
    subst h1 h2;obtain ⟨e1, e2, _⟩ := ZC hw;have hc := Zao.1 (hob (dP (z.map (nlV 0) = c), true) (by simp [St.told]));subst hc;have hf : Fresh ι s.n (s1.n + 1) := hf;rw [e2] at hf;obtain ⟨nx, w', ι', v', r1, r0, r2, r3, r4⟩ := Zl5 (ρ' := ρ') ho he hz hf;have hm := Step.mapC r2.emb (k := s.n) (c := z) (t := t) (q := false) (by show (s.h.set s.n _).get s.n = _; rw [Tr.get_set, Zk]) (g := nlV 0) (fun {_ _} q => ZxV 0 q);refine ⟨nx, w', ι', v', r1, r0, ?_, ?_, r4⟩
    ·have hh : (s1.h.set s1.n (some (.cells (z.map (nlV 0)) t))).get = upd (s.add z t).h.get s.n (some (.cells (z.map (nlV 0)) t)) := by
      show _ = upd (s.h.set s.n _).get s.n _;rw [e1, e2, Tr.get_set, Tr.get_set]
      funext j
      by_cases ej : j = s.n
      ·subst ej; rw [Zk, Zk]
      ·rw [Zf ej, Zf ej, Zf ej]
     show Step P ι s.h.get w ι' (s1.h.set s1.n (some (.cells (z.map (nlV 0)) t))).get w';rw [hh];exact r2.trans hm
    ·show Dom ι ι' s.n (s1.n + 1)
     rw [e2]; exact r3
   ·cases h
   ·rename_i s1 hw
    injection h with h;injection h with h1 h2
    subst h1 h2;obtain ⟨e1, e2, _⟩ := ZC hw;have hf : Fresh ι s.n (s1.n + 1) := hf;have := (Zl5 (ρ' := ρ') (s := s1) ho (e1 ▸ he) hz (by rw [e2] at hf ⊢; exact hf)).heap e1.symm e2.symm;rw [e2] at this;exact this
  ·injection h with h
   injection h with h1 h2;subst h1 h2
   exact Zl5 ho he hz hf
 ·cases h
theorem Z00 {o : Oper} {t : TypeId} {l c : Operand} {n : Nat} {c0 cN : List Value} (ho : o.op = .makeSlice t l c) (hρ : ∀ x, VR ι (ρ x) (ρ' x)) (he : Emb P ι s.h.get w) (hf : Fresh ι s.n s'.n) (hob : ∀ p ∈ s'.ob, p.1 = p.2) (h : Zme P ρ t l c n c0 cN s = some (v, s')) : Res P ((execOp ρ' o).run P w) s ι w v s' := by simp [Zme] at h
theorem Zwh {t tx ty : TypeId} {x y x' y' : Value} {m : Nat} {l c : List Value} {cs : List Cell} {s1 : St} (hx : VR ι x x') (hy : VR ι y y') (he : Emb P ι s.h.get w) (hf : Fresh ι s.n s'.n) (hob : ∀ p ∈ s'.ob, p.1 = p.2) (e1 : s1.h = s.h) (e2 : s1.n = s.n) (h : ZlX P s1 t tx x y m l c cs = some (v, s')) :
  ∃ v' w' ι', (Builtin.append_ #[t, tx] ty #[x', y']).run P w = .ok v' w' ∧ Step P ι s.h.get w ι' s'.h.get w' ∧ Dom ι ι' s.n s'.n ∧ VR ι' v v' := by
 unfold ZlX at h;split at h
 ·rename_i j n1 n2 s2 ht
  obtain ⟨hj, h⟩ := Zl h;split at h
  ·rename_i cl e hk
   injection h with h;injection h with h1 h2
   subst h1 h2;obtain ⟨q1, q2, q3⟩ := Zao.1 (hob (dP (n1 = m ∧ n2 = m ∧ cl = Zm cs), true) (by simp [St.told]));subst q1 q2 q3;obtain ⟨s3, h4, e3, e4⟩ := Zne (fun p hp => hob p (by simp only [St.told]; exact List.mem_cons_of_mem _ hp)) ht;obtain ⟨v', w', ι', r1, r2, r3, r4⟩ := Zeg (ty := ty) hx hy (e1 ▸ he) (e2 ▸ e4 ▸ hf) h4;obtain ⟨ι2, hst, hm, hdm⟩ := Step.frz r2.emb (e3 ▸ hk);have hv := Zug hst.ext hm 0 r4;have ej : Zo0 s1.n (code cs) 0 (.slice (some ⟨j, 0, none⟩) n2 n2) = .slice (some ⟨code cs, 0, some 0⟩) n2 n2 := by show (bif Nat.beq j s1.n then _ else _) = _;rw [hj]; rfl
   rw [ej] at hv;refine ⟨v', w', ι2, r1, ?_, ?_, hv⟩
   ·have hh : (s2.h.set s1.n none).get = upd s3.h.get s1.n none := by rw [← e3]; exact Tr.get_set ..
    show Step P ι s.h.get w ι2 (s2.h.set s1.n none).get w';rw [hh, ← e1];exact r2.trans hst
   ·show Dom ι ι2 s.n s2.n
    rw [e4, ← e2];exact fun k hk => (hdm k hk).elim (fun q => r3 k q) fun q => .inr (.inr q)
  ·cases h
 ·cases h
theorem Zwi {o : Oper} {c : Call} {b : Builtin} (ho : o.op = .call c) (hc : c.callee = .builtin b) (hρ : ∀ x, VR ι (ρ x) (ρ' x)) (he : Emb P ι s.h.get w) (hf : Fresh ι s.n s'.n) (hob : ∀ p ∈ s'.ob, p.1 = p.2) (h : Zjj P ρ o c b s = some (v, s')) :
  Res P ((execOp ρ' o).run P w) s ι w v s' := by
 have hs : ∀ cs b, o.op ≠ .select cs b := fun cs b e => by rw [ho] at e; cases e
 obtain ⟨cs, hrun⟩ : ∃ cs, (execOp ρ' o).run P w = (builtin b c.argTypes o.type cs (c.args.map ρ')).run P w := ⟨_, by simp [execOp, ho, resolve, hc, invoke, Result.andThen, Sem.run];rfl⟩
 unfold Zjj at h;split at h
 ·split at h
  ·rename_i t tx x y ht hx
   obtain ⟨v', w', ι', hr, h1, h2, h3⟩ : ∃ v' w' ι', (Builtin.append_ #[t, tx] o.type #[ρ' x, ρ' y]).run P w = .ok v' w' ∧ Step P ι s.h.get w ι' s'.h.get w' ∧ Dom ι ι' s.n s'.n ∧ VR ι' v v' := by
    split at h
    ·rename_i s1 hw
     obtain ⟨e1, e2, _⟩ := ZC hw;obtain ⟨s2, h4, e3, e4⟩ := Zne hob h;have := Zeg (ty := o.type) (hρ x) (hρ y) (e1 ▸ he) (e2 ▸ e4 ▸ hf) h4;rw [e3, e4, ← e1, ← e2];exact this
    ·rename_i s1 hw
     obtain ⟨e1, e2, _⟩ := ZC hw;obtain ⟨s2, h4, e3, e4⟩ := Z0u hob h;have := Zeg (ty := o.type) (hρ x) (hρ y) (e1 ▸ he) (e2 ▸ e4 ▸ hf) h4;rw [e3, e4, ← e1, ← e2];exact this
    ·rename_i s1 hw
     obtain ⟨e1, e2, _⟩ := ZC hw;obtain ⟨s2, h4, e3, e4⟩ := Z0v hob h;have := Zeg (ty := o.type) (hρ x) (hρ y) (e1 ▸ he) (e2 ▸ e4 ▸ hf) h4;rw [e3, e4, ← e1, ← e2];exact this
    ·rename_i s1 hw
     obtain ⟨e1, e2, _⟩ := ZC hw;exact Zwh (hρ x) (hρ y) he hf hob e1 e2 h
    ·rename_i s1 hw
     obtain ⟨e1, e2, _⟩ := ZC hw;exact Zwf (hρ x) (hρ y) he hf hob e1 e2 h
    ·cases h
    ·rename_i s1 hw
     obtain ⟨e1, e2, _⟩ := ZC hw;have := Zeg (ty := o.type) (hρ x) (hρ y) (e1 ▸ he) (e2 ▸ hf) h;rw [← e1, ← e2];exact this
   refine ⟨.value v', w', ι', v', ?_, .inl rfl, h1, h2, h3⟩;have e1 : c.argTypes = #[t, tx] := by rw [← Array.toArray_toList (xs := c.argTypes), ht]
   have e2 : c.args.map ρ' = #[ρ' x, ρ' y] := by rw [← Array.toArray_toList (xs := c.args), hx]; simp
   rw [hrun, e1, e2];simp [builtin, hr, Result.andThen, Sem.run]
  ·cases h
 ·split at h
  ·rename_i t x ht hx
   split at h
   ·rename_i e a n k hu hxx
    injection h with h;injection h with h1 h2
    subst h1 h2;have e1 : c.argTypes = #[t] := by rw [← Array.toArray_toList (xs := c.argTypes), ht]
    have e2 : c.args.map ρ' = #[ρ' x] := by rw [← Array.toArray_toList (xs := c.args), hx]; simp
    have hv := hxx ▸ hρ x;have hl : ∃ a' c', ρ' x = .slice a' n c' := by
     generalize ρ' x = x' at hv;cases hv with
     | atom h => simp [Ev.atom] at h
     | slice => exact ⟨_, _, rfl⟩
     | slice0 => exact ⟨_, _, rfl⟩
     | mslice => exact ⟨_, _, rfl⟩
    obtain ⟨a', c', hl⟩ := hl;refine Res.same he (v' := goInt n) ?_ (.atom rfl);rw [hrun, e1, e2, hl];simp [builtin, Builtin.len_, run_underlying hu, Result.andThen, Sem.run]
   ·rename_i kt et b0 hu hxx
    split at h
    ·rename_i es hes
     injection h with h;injection h with h1 h2
     subst h1 h2;have e1 : c.argTypes = #[t] := by rw [← Array.toArray_toList (xs := c.argTypes), ht]
     have e2 : c.args.map ρ' = #[ρ' x] := by rw [← Array.toArray_toList (xs := c.args), hx]; simp
     refine Res.same he (v' := goInt es.length) ?_ (.atom rfl);rw [hrun, e1, e2];simp [builtin, ZxZ (ty := o.type) hu (hxx ▸ hρ x) he hes, Result.andThen, Sem.run]
    ·cases h
   ·exact (Zb9 hs hρ he h).2
  ·cases h
 ·split at h
  ·rename_i t t2 x k ht hx
   have e1 : c.argTypes = #[t, t2] := by rw [← Array.toArray_toList (xs := c.argTypes), ht]
   have e2 : c.args.map ρ' = #[ρ' x, ρ' k] := by rw [← Array.toArray_toList (xs := c.args), hx]; simp
   obtain ⟨w', q1, q2, q3, rfl⟩ := ZxY (t2 := t2) (ty := o.type) (hρ x) (hρ k) he h;refine ⟨.value (.tuple #[]), w', ι, .tuple #[], ?_, .inl rfl, q2, q3 ▸ Dom.refl, VR.of_free rfl⟩;rw [hrun, e1, e2];simp [builtin, q1, Result.andThen, Sem.run]
  ·cases h
 ·split at h
  ·rename_i t x ht hx
   have e1 : c.argTypes = #[t] := by rw [← Array.toArray_toList (xs := c.argTypes), ht]
   have e2 : c.args.map ρ' = #[ρ' x] := by rw [← Array.toArray_toList (xs := c.args), hx]; simp
   obtain ⟨w', q1, q2, q3, rfl⟩ := Z0y (ty := o.type) (hρ x) he h;refine ⟨.value (.tuple #[]), w', ι, .tuple #[], ?_, .inl rfl, q2, q3 ▸ Dom.refl, VR.of_free rfl⟩;rw [hrun, e1, e2];simp [builtin, q1, Result.andThen, Sem.run]
  ·cases h
 ·exact (Zb9 hs hρ he h).2
theorem Zui {o : Oper} {x : Operand} (ho : o.op = .nilCheck x) (hρ : ∀ x, VR ι (ρ x) (ρ' x)) (he : Emb P ι s.h.get w) (h : (match ρ x with
  | .pointer (some a) => some ((.pointer (some a) : Value), s)
  | .func (.func f) a b => some (.func (.func f) a b, s)
  | _ => none) = some (v, s')) : s' = s ∧ Res P ((execOp ρ' o).run P w) s ι w v s' := by
 split at h
 ·rename_i a hx
  injection h with h;injection h with h1 h2
  subst h1 h2;have hv := hx ▸ hρ x;refine ⟨rfl, Res.same he (v' := ρ' x) ?_ hv⟩;have : ∃ a', ρ' x = .pointer (some a') := by
   generalize ρ' x = x' at hv;cases hv with
   | atom h => simp [Ev.atom] at h
   | ptr h => exact ⟨_, rfl⟩
   | mptr h => exact ⟨_, rfl⟩
  obtain ⟨a', hx'⟩ := this;simp [execOp, ho, hx', Sem.run]
 ·rename_i f a b hx
  injection h with h;injection h with h1 h2
  subst h1 h2;have hv := hx ▸ hρ x;refine ⟨rfl, Res.same he (v' := ρ' x) ?_ hv⟩;have : ∃ a' b', ρ' x = .func (.func f) a' b' := by
   generalize ρ' x = x' at hv;cases hv with
   | atom h => exact ⟨_, _, rfl⟩
   | func => exact ⟨_, _, rfl⟩
  obtain ⟨a', b', hx'⟩ := this;simp [execOp, ho, hx', Sem.run]
 ·cases h
theorem ZoG : ∀ {l : List Value} {ns : List Int}, Zmf l = some ns → l = ns.map (Value.int .u8)
 | [], ns, h => by simp [Zmf] at h; subst h; rfl
 | x :: l, ns, h => by
  unfold Zmf at h;split at h
  ·cases ‹_ :: _ = []›
  ·rename_i n l' hx
   injection hx with h1 h2;subst h1 h2
   split at h
   ·rename_i r hr
    injection h with h;subst h
    rw [ZoG hr];rfl
   ·cases h
  ·cases h
theorem Zuj {o : Oper} {a b : TypeId} {x : Operand} {ns : List Int} (ho : o.op = .convert a b x) (hρ : ∀ x, VR ι (ρ x) (ρ' x)) (he : Emb P ι s.h.get w) (hob : ∀ p ∈ s'.ob, p.1 = p.2) (h : ZhB P ρ a b x ns s = some (v, s')) :
  s'.h = s.h ∧ s'.n = s.n ∧ Res P ((execOp ρ' o).run P w) s ι w v s := by
 simp [ZhB] at h
theorem Zla {src dst u t : TypeId} {i j : TypeInfo} {w : World} {b : Nat} {C : Array Value} {fr : Nat × Nat} (hs : P.underlying src = some .unsafePointer) (hd : P.underlying dst = some (.pointer u)) (hi : P.info? u = some i) (h0 : 0 < i.size) (hsub : Z3Z P t u = true) (hj : P.info? t = some j) (hj0 : 0 < j.size)
  (hB : w.heap[b]? = some (.cells C t fr)) (hC : j.size ≤ C.size) : (convert src dst (.pointer (some ⟨b, 0, none⟩))).run P w = .ok (.pointer (some ⟨b, 0, none⟩)) w := by
 have hsh : w.shape? b = some (t, C.size) := by simp [World.shape?, hB]
 have hc : P.cellsOf t = j.size := by simp [Program.cellsOf, hj]
 have hcu : P.cellsOf u = i.size := by simp [Program.cellsOf, hi]
 have hl : liesAt P P.depth t (C.size / P.cellsOf t) 0 u 1 = true := by
  have hd : P.depth = (2 * (P.types.size + Made.depth) + 1) + 1 := rfl;rw [hd];simp only [liesAt, Bool.or_eq_true];left;rw [hd];have h1 : 1 ≤ C.size / j.size := (Nat.le_div_iff_mul_le hj0).2 (by omega);have h2 : j.size ≠ 0 := by omega
  have h3 : i.size ≠ 0 := by omega
  unfold Z3Z at hsub;rw [Bool.or_eq_true] at hsub;rcases hsub with hsub | hsub
  ·obtain rfl := Nat.eq_of_beq_eq_true hsub
   simp [Go.rowAt, hc, sameLayout, h2, h1]
  ·split at hsub
   ·rename_i fs hfs
    rw [Bool.and_eq_true] at hsub;obtain ⟨hst, hsub⟩ := hsub;split at hsub
    ·rename_i f hf
     rw [Bool.and_eq_true] at hsub;have e1 := Nat.eq_of_beq_eq_true hsub.1;have e2 := Nat.eq_of_beq_eq_true hsub.2;have hm : f ∈ fs := Array.mem_of_getElem? hf;have hin : Go.rowAt P (fun x => sameLayout P (2 * (P.types.size + Made.depth) + 1 + 1) x u) (2 * (P.types.size + Made.depth) + 1) u 1 0 1 = true := by simp [Go.rowAt, hcu, sameLayout, h3]
     unfold Go.rowAt;simp only [hc, h2, if_false, Nat.zero_div, Nat.zero_mod, hfs, Bool.or_eq_true, Bool.and_eq_true, decide_eq_true_eq];right;refine ⟨by omega, hst, ?_⟩;rw [Array.any_eq_true'];refine ⟨f, hm, ?_⟩;rw [e1, e2, hcu];simp only [Nat.zero_add, Nat.sub_zero, Nat.le_refl, decide_true, Bool.true_and];rw [hin];simpa using h0
    ·cases hsub
   ·cases hsub
 have hz : i.size ≠ 0 := by omega
 simp [convert, Conv.unsafePointer, Conv.seenAt, viewAt, cellsIn, sizeOf, typeInfo, run_underlying hs, run_underlying hd, hi, hz, hsh, variablesAt, hl, Result.andThen]
theorem ZnI {o : Oper} {a b : TypeId} {x : Operand} (ho : o.op = .convert a b x) (hρ : ∀ x, VR ι (ρ x) (ρ' x)) (he : Emb P ι s.h.get w) (h : Zh4 P ρ a b x s = some (v, s')) :
  s' = s ∧ Res P ((execOp ρ' o).run P w) s ι w v s' := by
 unfold Zh4 at h;split at h
 ·rename_i e k o' n c hua hub hx
  split at h
  ·rename_i l hue hl
   split at h
   ·rename_i ns hns
    injection h with h;injection h with h1 h2
    subst h1 h2;have hbs := ZoG hns;obtain ⟨bk, cs, hb, hcl, hll, hcs, hvv⟩ := Znc he hl;have hcs' : cs = ns.map (Value.int .u8) := by
     rw [← hbs];apply List.ext_getElem (by omega);intro i h1 h2;have hq := hvv i l[i] cs[i] (List.getElem?_eq_getElem h2) (List.getElem?_eq_getElem h1);have hli : l[i] = .int .u8 (ns[i]'(by rw [hbs] at h2; simpa using h2)) := by simp [hbs]
     rw [hli] at hq ⊢;exact hq.int_inv
    have hv := hx ▸ hρ x;have : ∃ a' c', ρ' x = .slice a' n c' ∧ (Conv.bytesToString (.slice a' n c')).run P w = .ok (.string (ns.foldl (fun r n => r.push (UInt8.ofNat n.toNat)) ByteArray.empty)) w := by
     generalize ρ' x = x' at hv;cases hv with
     | atom h => simp [Ev.atom] at h
     | slice hb2 hn hc hq =>
      rename_i b2 c';rw [hb] at hb2; injection hb2 with hb2; subst hb2
      refine ⟨_, _, rfl, ?_⟩;have := run_loadCells_list (P := P) w ⟨bk.1, o', none⟩ cs hcs;rw [hcl] at this;rw [hcs'] at this;exact run_bytesToString w _ n c' ns this
     | slice0 _h0 =>
      rename_i a';have : ns = [] := List.eq_nil_of_length_eq_zero (by rw [hbs] at hll; simpa using hll);subst this;cases a' with
      | none => exact ⟨none, 0, rfl, rfl⟩
      | some a' => exact ⟨some a', 0, rfl, run_bytesToString w a' 0 0 [] rfl⟩
    obtain ⟨a', c', hx', hrun⟩ := this;refine ⟨rfl, Res.same he (v' := .string _) ?_ (.atom rfl)⟩;simp [execOp, ho, hx', run_convert_bytes_string w a b e a' n c' hua hue hub, hrun, Result.andThen, Sem.run]
   ·cases h
  ·cases h
 ·rename_i t k o' hua hub hx
  split at h
  ·rename_i i u hi hrow
   obtain ⟨hz, h⟩ := (show ∀ {b : Bool} {x : Option (Value × St)} {y : Value × St}, (bif b then none else x) = some y → b = false ∧ x = some y from fun {b x y} h => by cases b <;> simp at h; exact ⟨rfl, h⟩) h;injection h with h
   injection h with h1 h2;subst h1 h2
   obtain ⟨bk, C, tt, hbk, hB, hl, hxx⟩ := ZsJ he hrow;obtain ⟨y, hy, hv⟩ := hxx 0 _ rfl;obtain ⟨b', hb', hp⟩ := (hx ▸ hρ x).ptr_inv;rw [hbk] at hb'; injection hb' with hb'; subst hb'
   have hc : w.cell? ⟨bk.1, o', none⟩ = some y := by rw [Z4d hB];simpa using hy
   have hsz : (P.info? t).map (fun i => decide (i.size = 0)) = some false := by rw [hi];simp only [Option.map_some, Option.some.injEq, decide_eq_false_iff_not];intro e;rw [e] at hz;simp at hz
   refine ⟨rfl, Res.same he (v' := .pointer (some ⟨bk.1, o', none⟩)) ?_ (.ptr hbk)⟩;simp [execOp, ho, hp, run_convert_to_unsafe (w := w) hua hub hsz hc, Result.andThen, Sem.run]
  ·cases h
 ·rename_i u k hua hub hx
  split at h
  ·rename_i i c t hi hk
   replace h := Zl h;obtain ⟨hg, h⟩ := h;simp only [Bool.and_eq_true] at hg;have h0 := Nat.le_of_ble_eq_true hg.1;have hsub := hg.2.1;have hft := hg.2.2;unfold Z3a at hft;split at hft
   case h_2 => cases hft
   rename_i j hj;rw [Bool.and_eq_true] at hft;have hj0 := Nat.le_of_ble_eq_true hft.1;have hc := Nat.le_of_ble_eq_true hft.2;injection h with h
   injection h with h1 h2;subst h1 h2
   obtain ⟨bk, C, hbk, hB, hcr, _⟩ := he.objF k c t hk;obtain ⟨b', hb', hp⟩ := (hx ▸ hρ x).ptr_inv;rw [hbk] at hb'; injection hb' with hb'; subst hb'
   obtain ⟨fr, hB, _⟩ := hB;refine ⟨rfl, Res.same he (v' := .pointer (some ⟨bk.1, 0, none⟩)) ?_ (.ptr hbk)⟩;simp [execOp, ho, hp, Zla (w := w) hua hub hi h0 hsub hj hj0 hB (by have := hcr.1; omega), Result.andThen, Sem.run]
  ·cases h
 ·cases h
theorem Zya {o : Oper} {a b : TypeId} {x : Operand} {z : ByteArray} {r : Option Told} (ho : o.op = .convert a b x) (hx : ρ' x = .string z) (he : Emb P ι s.h.get w) (hf : Fresh ι s.n s'.n) (hob : ∀ p ∈ s'.ob, p.1 = p.2) (h : Zkq P a b z r s = some (v, s')) :
  Res P ((execOp ρ' o).run P w) s ι w v s' := by
 simp [Zkq] at h
theorem Z3l {o : Oper} (hρ : ∀ x, VR ι (ρ x) (ρ' x)) (he : Emb P ι s.h.get w) (hf : Fresh ι s.n s'.n) (hob : ∀ p ∈ s'.ob, p.1 = p.2) (h : ev1 P ρ o s = some (v, s')) :
  Res P ((execOp ρ' o).run P w) s ι w v s' := by
 obtain ⟨dst, op, type, pos, after, guard⟩ := o;cases op
 case move x =>
  simp only [ev1, Option.some.injEq, Prod.mk.injEq] at h;obtain ⟨rfl, rfl⟩ := h;exact Res.same he (v' := ρ' x) (by simp [execOp, Sem.run]) (hρ x)
 case assign x =>
  simp only [ev1, Option.some.injEq, Prod.mk.injEq] at h;obtain ⟨rfl, rfl⟩ := h;exact Res.same he (v' := ρ' x) (by simp [execOp, Sem.run]) (hρ x)
 case pick c a b =>
  simp only [ev1] at h;split at h
  ·rename_i t ht
   have hc := (ht ▸ hρ c).bool_inv;split at h
   ·injection h with h
    injection h with h1 h2;subst h1 h2
    exact Res.same he (v' := ρ' a) (by simp [execOp, hc, asBool, Result.andThen, Sem.run]) (hρ a)
   ·injection h with h
    injection h with h1 h2;subst h1 h2
    exact Res.same he (v' := ρ' b) (by simp [execOp, hc, asBool, Result.andThen, Sem.run]) (hρ b)
  ·cases h
 case alloc t =>
  exact Zwg (o := ⟨dst, .alloc t, type, pos, after, guard⟩) rfl he hf hob (by simpa only [ev1] using h)
 case box t x =>
  simp only [ev1, Option.some.injEq, Prod.mk.injEq] at h;obtain ⟨rfl, rfl⟩ := h;exact Z3b rfl (hρ x) he hf
 case build t ps =>
  simp only [ev1] at h;obtain ⟨rfl, hr⟩ := Z0p (o := ⟨dst, .build t ps, type, pos, after, guard⟩) rfl hρ he h;exact hr
 case buildSlice t n ps => exact Zr7 (o := ⟨dst, .buildSlice t n ps, type, pos, after, guard⟩) rfl hρ he hf h
 case load t a =>
  simp only [ev1] at h;split at h
  ·rename_i l s1 hx
   obtain ⟨e1, e2, _⟩ := ZxL hx;exact Res.heap (Z0n (o := ⟨dst, .load t a, type, pos, after, guard⟩) (s := s1) rfl (hρ a) (e1 ▸ he) hob h) e1.symm e2.symm
  ·rename_i s1 hx
   obtain ⟨e1, e2, _⟩ := ZxL hx;split at h
   ·rename_i k o ha
    split at h
    ·rename_i u hu
     injection h with h;injection h with h1 h2
     subst h1 h2;exact Res.heap (Znd (o := ⟨dst, .load t a, type, pos, after, guard⟩) (s := s1) rfl ha (hρ a) (e1 ▸ he) hu) e1.symm e2.symm
    ·cases h
   ·cases h
 case store t a x =>
  simp only [ev1] at h;split at h
  ·rename_i c s1 hw
   obtain ⟨e1, e2, _⟩ := ZC hw;obtain ⟨s2, h4, e3, e4⟩ := Zv8 hob h;exact ((Zl6 (o := ⟨dst, .store t a x, type, pos, after, guard⟩) (s := s1) rfl hρ (e1 ▸ he) h4).heap e1.symm e2.symm).behind e3 e4
  ·rename_i k cs c s1 hw
   obtain ⟨e1, e2, _⟩ := ZC hw;exact Res.heap (ZxU (o := ⟨dst, .store t a x, type, pos, after, guard⟩) (s := s1) rfl hρ (e1 ▸ he) hob h) e1.symm e2.symm
  ·cases h
  ·rename_i s1 hw
   obtain ⟨e1, e2, _⟩ := ZC hw;exact (Zl6 (o := ⟨dst, .store t a x, type, pos, after, guard⟩) (s := s1) rfl hρ (e1 ▸ he) h).heap e1.symm e2.symm
 case nilCheck x =>
  simp only [ev1] at h;obtain ⟨rfl, hr⟩ := Zui (o := ⟨dst, .nilCheck x, type, pos, after, guard⟩) rfl hρ he h;exact hr
 case fieldAddr t x f => obtain ⟨rfl, hr⟩ := ZsK (o := ⟨dst, .fieldAddr t x f, type, pos, after, guard⟩) rfl hρ he h; exact hr
 case field t x f => obtain ⟨rfl, hr⟩ := Z0l (o := ⟨dst, .field t x f, type, pos, after, guard⟩) rfl hρ he h; exact hr
 case index t x ix =>
  simp only [ev1] at h;split at h
  ·split at h
   ·rename_i c s1 hw
    obtain ⟨e1, e2, _⟩ := ZC hw;obtain ⟨e3, e4, hq⟩ := ZxQ (o := ⟨dst, .index t x ix, type, pos, after, guard⟩) (s := s1) rfl hρ (e1 ▸ he) hob h;exact (hq.heap e1.symm e2.symm).behind e3 e4
   ·cases h
   ·rename_i s1 hw
    obtain ⟨e1, e2, _⟩ := ZC hw;obtain ⟨rfl, hr⟩ := Zb9 (o := ⟨dst, .index t x ix, type, pos, after, guard⟩) (s := s1) (fun _ _ e => by cases e) hρ (e1 ▸ he) h;exact hr.heap e1.symm e2.symm
  split at h
  ·rename_i r hr
   injection h with h;subst h
   obtain ⟨e1, hq⟩ := Z0m (o := ⟨dst, .index t x ix, type, pos, after, guard⟩) rfl hρ he hr;subst e1;exact hq
  ·obtain ⟨rfl, hr⟩ := Zb9 (o := ⟨dst, .index t x ix, type, pos, after, guard⟩) (fun _ _ e => by cases e) hρ he h; exact hr
 case indexAddr t x ix =>
  simp only [ev1] at h;split at h
  ·rename_i n s1 hx
   obtain ⟨e1, e2, _⟩ := ZxK hx;exact Res.heap (Zr6 (o := ⟨dst, .indexAddr t x ix, type, pos, after, guard⟩) (s := s1) rfl hρ (e1 ▸ he) hob h) e1.symm e2.symm
  ·rename_i s1 hx
   obtain ⟨e1, e2, _⟩ := ZxK hx;obtain ⟨rfl, hr⟩ := ZfO (o := ⟨dst, .indexAddr t x ix, type, pos, after, guard⟩) (s := s1) rfl hρ (e1 ▸ he) h;exact Res.heap hr e1.symm e2.symm
 case extract x i =>
  simp only [ev1] at h;split at h
  ·rename_i vs hx
   split at h
   ·rename_i u hu
    injection h with h;injection h with h1 h2
    subst h1 h2;obtain ⟨vs', hx', hs, hc⟩ := (hx ▸ hρ x).tuple_inv;have hlt : i < vs'.size := by rw [← hs]; exact (Array.getElem?_eq_some_iff.1 hu).1
    exact Res.same he (v' := vs'[i]) (by simp [execOp, Instr.extract, hx', Array.getElem?_eq_getElem hlt, Result.andThen, Sem.run]) (hc i _ _ hu (Array.getElem?_eq_getElem hlt))
   ·cases h
  ·cases h
 case slice t x lo hi mx =>
  simp only [ev1] at h;split at h
  ·unfold Z2e at h
   split at h
   ·rename_i l m s1 hw
    obtain ⟨e1, e2, _⟩ := ZC hw;obtain ⟨h4, e3, e4⟩ := Z3d hob h;obtain ⟨_, hq⟩ := ZqX (o := ⟨dst, .slice t x lo hi none, type, pos, after, guard⟩) (s := s1) rfl hρ (e1 ▸ he) h4;exact (hq.heap e1.symm e2.symm).behind e3 e4
   ·rename_i l m m2 cs s1 hw
    obtain ⟨e1, e2, _⟩ := ZC hw;obtain ⟨e3, e4, hq⟩ := ZxS (o := ⟨dst, .slice t x lo hi none, type, pos, after, guard⟩) (s := s1) rfl hρ (e1 ▸ he) hob h;exact (hq.heap e1.symm e2.symm).behind e3 e4
   ·rename_i m c s1 hw
    obtain ⟨e1, e2, _⟩ := ZC hw;exact (Z3e (o := ⟨dst, .slice t x lo hi none, type, pos, after, guard⟩) (s := s1) rfl hρ (e1 ▸ he) (e2 ▸ hf) hob h).heap e1.symm e2.symm
   ·rename_i M s1 hw
    obtain ⟨e1, e2, _⟩ := ZC hw;obtain ⟨e3, e4, hq⟩ := ZxP (o := ⟨dst, .slice t x lo hi none, type, pos, after, guard⟩) (s := s1) rfl hρ (e1 ▸ he) hob h;exact (hq.heap e1.symm e2.symm).behind e3 e4
   ·cases h
   ·rename_i s1 hw
    obtain ⟨e1, e2, _⟩ := ZC hw;split at h
    ·rename_i r hr
     injection h with h;subst h
     obtain ⟨e1', hq⟩ := ZqX (o := ⟨dst, .slice t x lo hi none, type, pos, after, guard⟩) (s := s1) rfl hρ (e1 ▸ he) hr;subst e1';exact hq.heap e1.symm e2.symm
    ·split at h
     ·rename_i r hr
      injection h with h;subst h
      exact (ZxO (o := ⟨dst, .slice t x lo hi none, type, pos, after, guard⟩) (s := s1) rfl hρ (e1 ▸ he) hob hr).heap e1.symm e2.symm
     ·obtain ⟨rfl, hr⟩ := Zb9 (o := ⟨dst, .slice t x lo hi none, type, pos, after, guard⟩) (s := s1) (fun _ _ e => by cases e) hρ (e1 ▸ he) h
      exact hr.heap e1.symm e2.symm
  ·cases h
 case binOp op t x y yt =>
  by_cases hop : op = .rem
  ·subst hop
   simp only [ev1] at h;split at h
   ·rename_i s1 hw
    obtain ⟨e1, e2, _⟩ := ZC hw;obtain ⟨e3, e4, hr⟩ := Z2q (o := ⟨dst, .binOp .rem t x y yt, type, pos, after, guard⟩) (s := s1) rfl hρ (e1 ▸ he) hob h;exact (hr.heap e1.symm e2.symm).behind e3 e4
   ·cases h
   ·rename_i s1 hw
    obtain ⟨e1, e2, _⟩ := ZC hw;obtain ⟨rfl, hr⟩ := Zjk (o := ⟨dst, .binOp .rem t x y yt, type, pos, after, guard⟩) (s := s1) rfl hρ (e1 ▸ he) h;exact hr.heap e1.symm e2.symm
  ·by_cases hl : op = .shl
   ·subst hl
    simp only [ev1] at h;split at h
    ·rename_i n s1 hw
     obtain ⟨e1, e2, _⟩ := ZC hw;obtain ⟨e3, e4, hr⟩ := ZvE (o := ⟨dst, .binOp .shl t x y yt, type, pos, after, guard⟩) (s := s1) rfl hρ (e1 ▸ he) hob h;exact (hr.heap e1.symm e2.symm).behind e3 e4
    ·cases h
    ·rename_i s1 hw
     obtain ⟨e1, e2, _⟩ := ZC hw;obtain ⟨rfl, hr⟩ := Zjk (o := ⟨dst, .binOp .shl t x y yt, type, pos, after, guard⟩) (s := s1) rfl hρ (e1 ▸ he) h;exact hr.heap e1.symm e2.symm
   ·by_cases hr : op = .shr
    ·subst hr
     simp only [ev1] at h;split at h
     ·rename_i n s1 hw
      obtain ⟨e1, e2, _⟩ := ZC hw;obtain ⟨e3, e4, hr⟩ := ZvE (o := ⟨dst, .binOp .shr t x y yt, type, pos, after, guard⟩) (s := s1) rfl hρ (e1 ▸ he) hob h;exact (hr.heap e1.symm e2.symm).behind e3 e4
     ·cases h
     ·rename_i s1 hw
      obtain ⟨e1, e2, _⟩ := ZC hw;obtain ⟨rfl, hr⟩ := Zjk (o := ⟨dst, .binOp .shr t x y yt, type, pos, after, guard⟩) (s := s1) rfl hρ (e1 ▸ he) h;exact hr.heap e1.symm e2.symm
    ·by_cases ha : op = .add
     ·subst ha
      simp only [ev1] at h;split at h
      ·obtain ⟨e3, e4, hr⟩ := Z3k (o := ⟨dst, .binOp .add t x y yt, type, pos, after, guard⟩) rfl hρ he hob h
       exact hr.behind e3 e4
      ·obtain ⟨rfl, hr⟩ := Zjk (o := ⟨dst, .binOp .add t x y yt, type, pos, after, guard⟩) rfl hρ he h
       exact hr
     ·have h : ZiU P ρ ⟨dst, .binOp op t x y yt, type, pos, after, guard⟩ op t x y s = some (v, s') := by cases op <;> first | exact h | exact absurd rfl hop | exact absurd rfl hl | exact absurd rfl hr | exact absurd rfl ha
      obtain ⟨rfl, hr⟩ := Zjk (o := ⟨dst, .binOp op t x y yt, type, pos, after, guard⟩) rfl hρ he h;exact hr
 case makeSlice t l c =>
  simp only [ev1] at h;split at h
  ·rename_i n cp cs s1 hw
   obtain ⟨e1, e2, _⟩ := ZC hw;obtain ⟨s2, h4, e3, e4⟩ := Z4g hob h;exact ((Zlc (o := ⟨dst, .makeSlice t l c, type, pos, after, guard⟩) (s := s1) rfl hρ (e1 ▸ he) (e2 ▸ e4 ▸ hf) h4).heap e1.symm e2.symm).behind e3 e4
  ·rename_i n l0 c0 cN s1 hw
   obtain ⟨e1, e2, _⟩ := ZC hw;exact (Z00 (o := ⟨dst, .makeSlice t l c, type, pos, after, guard⟩) (s := s1) rfl hρ (e1 ▸ he) (e2 ▸ hf) hob h).heap e1.symm e2.symm
  ·cases h
  ·rename_i s1 hw
   obtain ⟨e1, e2, _⟩ := ZC hw;exact (Zlc (o := ⟨dst, .makeSlice t l c, type, pos, after, guard⟩) (s := s1) rfl hρ (e1 ▸ he) (e2 ▸ hf) h).heap e1.symm e2.symm
 case makeFunc fn a b =>
  simp only [ev1, Option.some.injEq, Prod.mk.injEq] at h;obtain ⟨rfl, rfl⟩ := h;have h1 := Zqf hρ a;have h2 := Zqf hρ b;exact Res.same he (v' := .func fn (a.map ρ') (b.map ρ')) (by simp [execOp, Instr.makeFunc, Result.andThen, Sem.run]) (.func h1.1 h2.1 h1.2 h2.2)
 case makeMap t r =>
  exact Zwe (o := ⟨dst, .makeMap t r, type, pos, after, guard⟩) rfl hρ he hf h
 case range t x =>
  exact Z0x (o := ⟨dst, .range t x, type, pos, after, guard⟩) rfl hρ he hf h
 case next it q =>
  exact Z2n (o := ⟨dst, .next it q, type, pos, after, guard⟩) rfl hρ he h
 case lookup t x ix ok =>
  simp only [ev1] at h;split at h
  ·rename_i r s1 hw
   obtain ⟨e1, e2, _⟩ := ZC hw;obtain ⟨s2, h4, e3, e4⟩ := Z2o hob h;obtain ⟨e5, hr⟩ := ZoE (o := ⟨dst, .lookup t x ix ok, type, pos, after, guard⟩) (s := s1) rfl hρ (e1 ▸ he) h4;subst e5;exact (hr.heap e1.symm e2.symm).behind e3 e4
  ·cases h
  ·rename_i s1 hw
   obtain ⟨e1, e2, _⟩ := ZC hw;obtain ⟨e5, hr⟩ := ZoE (o := ⟨dst, .lookup t x ix ok, type, pos, after, guard⟩) (s := s1) rfl hρ (e1 ▸ he) h;subst e5;exact hr.heap e1.symm e2.symm
 case mapUpdate t m k x =>
  simp only [ev1] at h;split at h
  ·rename_i l s1 hw
   obtain ⟨e1, e2, _⟩ := ZC hw;obtain ⟨s2, h4, e3, e4⟩ := Z2p hob h;exact ((ZoF (o := ⟨dst, .mapUpdate t m k x, type, pos, after, guard⟩) (s := s1) rfl hρ (e1 ▸ he) h4).heap e1.symm e2.symm).behind e3 e4
  ·cases h
  ·rename_i s1 hw
   obtain ⟨e1, e2, _⟩ := ZC hw;exact (ZoF (o := ⟨dst, .mapUpdate t m k x, type, pos, after, guard⟩) (s := s1) rfl hρ (e1 ▸ he) h).heap e1.symm e2.symm
 case makeInterface t x => obtain ⟨rfl, hr⟩ := Zb9 (o := ⟨dst, .makeInterface t x, type, pos, after, guard⟩) (fun _ _ e => by cases e) hρ he h; exact hr
 case unOp op t x => obtain ⟨rfl, hr⟩ := Zb9 (o := ⟨dst, .unOp op t x, type, pos, after, guard⟩) (fun _ _ e => by cases e) hρ he h; exact hr
 case convert a b x =>
  simp only [ev1] at h;split at h
  ·split at h
   ·rename_i ns s1 hw
    obtain ⟨e1, e2, _⟩ := ZC hw;obtain ⟨e3, e4, hr⟩ := Zuj (o := ⟨dst, .convert a b x, type, pos, after, guard⟩) (s := s1) rfl hρ (e1 ▸ he) hob h;exact (hr.heap e1.symm e2.symm).behind e3 e4
   ·cases h
   ·rename_i s1 hw
    obtain ⟨e1, e2, _⟩ := ZC hw;obtain ⟨e3, hr⟩ := ZnI (o := ⟨dst, .convert a b x, type, pos, after, guard⟩) (s := s1) rfl hρ (e1 ▸ he) h;subst e3;exact hr.heap e1.symm e2.symm
  ·rename_i z hz
   have hz' : ρ' x = .string z := (hz ▸ hρ x).eq_of_atom rfl;generalize hw : s.nextW = q at h;obtain ⟨r, s1⟩ := q;obtain ⟨e1, e2, _⟩ := ZC hw;simp only at h;split at h
   ·rename_i r2 hr
    injection h with h;subst h
    have hq := Zya (o := ⟨dst, .convert a b x, type, pos, after, guard⟩) (s := s1) rfl hz' (e1 ▸ he) (e2 ▸ hf) hob hr;exact hq.heap e1.symm e2.symm
   ·obtain ⟨e3, hr⟩ := Zb9 (o := ⟨dst, .convert a b x, type, pos, after, guard⟩) (s := s1) (fun _ _ e => by cases e) hρ (e1 ▸ he) h
    subst e3;exact hr.heap e1.symm e2.symm
  ·split at h
   ·rename_i r hr
    injection h with h;subst h
    obtain ⟨e1, hq⟩ := ZnI (o := ⟨dst, .convert a b x, type, pos, after, guard⟩) rfl hρ he hr;subst e1;exact hq
   ·obtain ⟨rfl, hr⟩ := Zb9 (o := ⟨dst, .convert a b x, type, pos, after, guard⟩) (fun _ _ e => by cases e) hρ he h; exact hr
 case call c =>
  simp only [ev1] at h;split at h
  ·rename_i b hc
   exact Zwi (o := ⟨dst, .call c, type, pos, after, guard⟩) rfl hc hρ he hf hob h
  ·cases h
 all_goals (simp [ev1] at h)
theorem Z5w {o : Oper} {v v1 : Value} {s1 : St} (h : ZxH o v s = (v1, s1)) (hob : ∀ p ∈ s1.ob, p.1 = p.2) : v1 = v ∧ s1.h = s.h ∧ s1.n = s.n := by
 unfold ZxH at h;split at h
 all_goals first
  | (generalize hq : s.tst _ = q at h; obtain ⟨b, s2⟩ := q; simp only [Prod.mk.injEq] at h; obtain ⟨rfl, rfl⟩ := h; obtain ⟨rfl, e1, e2⟩ := Z5Y hq hob; exact ⟨rfl, e1, e2⟩)
  | (generalize hq : s.vst _ = q at h; obtain ⟨b, s2⟩ := q; simp only [Prod.mk.injEq] at h; obtain ⟨rfl, rfl⟩ := h; obtain ⟨rfl, e1, e2⟩ := Z5Z hq hob; exact ⟨rfl, e1, e2⟩)
  | (simp only [Prod.mk.injEq] at h; obtain ⟨rfl, rfl⟩ := h; exact ⟨rfl, rfl, rfl⟩)
end

/-! ### Numbers rise, and answers stay -/
theorem Zgd {a b : List (Bool × Bool)} (h : a <:+ b) (hb : ∀ p ∈ b, p.1 = p.2) : ∀ p ∈ a, p.1 = p.2 := fun p hp => hb p (h.subset hp)
structure Up (s s' : St) : Prop where
 n : s.n ≤ s'.n
 ob : s.ob <:+ s'.ob
 log : ∃ l, s'.wr = l ++ s.wr ∧ ∀ k, k ∉ l → ¬ (s.n ≤ k ∧ k < s'.n) → s'.h.get k = s.h.get k
theorem Up.refl (s : St) : Up s s := ⟨Nat.le_refl _, List.suffix_refl _, [], rfl, fun _ _ _ => rfl⟩
theorem Up.trans {a b c : St} (h : Up a b) (k : Up b c) : Up a c := by obtain ⟨l, h1, h2⟩ := h.log;obtain ⟨m, k1, k2⟩ := k.log;refine ⟨Nat.le_trans h.n k.n, h.ob.trans k.ob, m ++ l, by rw [k1, h1, List.append_assoc], fun j hj hn => ?_⟩;have := h.n;have := k.n;rw [k2 j (fun e => hj (List.mem_append_left _ e)) (by omega), h2 j (fun e => hj (List.mem_append_right _ e)) (by omega)]
theorem Z6c {s s1 : St} {t b : Bool} (h : s.tst t = (b, s1)) : Up s s1 := by
 unfold St.tst at h;split at h <;> (injection h with h1 h2; subst h1 h2)
 ·exact Up.refl _
 ·exact ⟨Nat.le_refl _, List.suffix_refl _, [], rfl, fun _ _ _ => rfl⟩
 ·exact ⟨Nat.le_refl _, List.suffix_cons _ _, [], rfl, fun _ _ _ => rfl⟩
theorem Z6d {s s1 : St} {x y : Int} (h : s.vst x = (y, s1)) : Up s s1 := by
 unfold St.vst at h;split at h <;> (injection h with h1 h2; subst h1 h2)
 ·exact Up.refl _
 ·exact ⟨Nat.le_refl _, List.suffix_refl _, [], rfl, fun _ _ _ => rfl⟩
 ·exact ⟨Nat.le_refl _, List.suffix_cons _ _, [], rfl, fun _ _ _ => rfl⟩
theorem Zdp {s s1 : St} {k o : Nat} {l : List Value} (h : Ziw s k o l = some s1) : Up s s1 := by
 unfold Ziw at h;split at h
 ·replace h := Zl h
  obtain ⟨_, h⟩ := h;injection h with h
  subst h;refine ⟨Nat.le_refl _, List.suffix_refl _, [k], rfl, fun j hj _ => ?_⟩;show (s.h.set k _).get j = _;rw [Tr.get_set, Zf (by simpa using hj)]
 ·cases h
section
variable {P : Program} {ρ : Operand → Value} {s s' : St} {v : Value}
theorem ZaF {o : Oper} (h : ZdC P ρ o s = some (v, s')) : Up s s' := by
 unfold ZdC at h;replace h := (Zl h).2;split at h
 ·replace h := (Zl h).2
  injection h with h; injection h with h1 h2; subst h1 h2; exact Up.refl _
 ·cases h
theorem up_add {c : List Value} {t : TypeId} : Up s (s.add c t) := ⟨Nat.le_succ _, List.suffix_refl _, [], rfl, fun j _ hn => by show (s.h.set s.n _).get j = _;rw [Tr.get_set, Zf (fun e => hn ⟨by omega, by show j < s.n + 1; omega⟩)]⟩
theorem up_turn {k : Nat} {c : List Value} {t : TypeId} {q : Bool} : Up s (s.turn k c t q) := ⟨Nat.le_succ _, List.suffix_refl _, [k], rfl, fun j hj hn => by show ((s.h.set k none).set s.n _).get j = _;rw [Tr.get_set, Zf (fun e => hn ⟨by omega, by show j < s.n + 1; omega⟩), Tr.get_set, Zf (by simpa using hj)]⟩
theorem Z3m {t tx : TypeId} {x y : Value} (h : ZdI P s t tx x y = some (v, s')) : Up s s' := by
 unfold ZdI at h
 try simp only [cond_eq_ite] at h
 repeat' (split at h)
 all_goals first
  | (cases h; done)
  | (injection h with h; injection h with h1 h2; subst h1 h2; first | exact Up.refl _ | exact up_add | exact up_turn | exact Zdp (by assumption))
  | exact ZaF h
theorem Zwj {t n : Nat} {ps : Array (Nat × Operand)} (h : ZfY P ρ t n ps s = some (v, s')) : Up s s' := by
 unfold ZfY at h
 try simp only [cond_eq_ite] at h
 repeat' (split at h)
 all_goals first
  | (cases h; done)
  | (injection h with h; injection h with h1 h2; subst h1 h2; first | exact Up.refl _ | exact up_add | exact up_turn | exact Zdp (by assumption))
  | exact ZaF h
theorem Z4j {t : Nat} {ps : Array (Nat × Operand)} (h : ZlW P ρ t ps s = some (v, s')) : Up s s' := by
 unfold ZlW at h
 try simp only [cond_eq_ite] at h
 repeat' (split at h)
 all_goals first
  | (cases h; done)
  | (injection h with h; injection h with h1 h2; subst h1 h2; first | exact Up.refl _ | exact up_add | exact up_turn | exact Zdp (by assumption))
  | exact ZaF h
theorem Z4k {t : Nat} {a x : Operand} (h : Zix P ρ t a x s = some (v, s')) : Up s s' := by
 unfold Zix at h
 try simp only [cond_eq_ite] at h
 repeat' (split at h)
 all_goals first
  | (cases h; done)
  | (injection h with h; injection h with h1 h2; subst h1 h2; first | exact Up.refl _ | exact up_add | exact up_turn | exact Zdp (by assumption))
  | exact ZaF h
theorem Zyb {t f : Nat} {x : Operand} (h : ZgT P ρ t x f s = some (v, s')) : Up s s' := by
 unfold ZgT at h
 try simp only [cond_eq_ite] at h
 repeat' (split at h)
 all_goals first
  | (cases h; done)
  | (injection h with h; injection h with h1 h2; subst h1 h2; first | exact Up.refl _ | exact up_add | exact up_turn | exact Zdp (by assumption))
  | exact ZaF h
theorem Z4l {t f : Nat} {x : Operand} (h : ZlZ P ρ t x f s = some (v, s')) : Up s s' := by
 unfold ZlZ at h
 try simp only [cond_eq_ite] at h
 repeat' (split at h)
 all_goals first
  | (cases h; done)
  | (injection h with h; injection h with h1 h2; subst h1 h2; first | exact Up.refl _ | exact up_add | exact up_turn | exact Zdp (by assumption))
  | exact ZaF h
theorem Z4m {t : Nat} {x ix : Operand} (h : Zma P ρ t x ix s = some (v, s')) : Up s s' := by simp [Zma] at h
theorem ZoH {t : Nat} {x ix : Operand} (h : ZdX P ρ t x ix s = some (v, s')) : Up s s' := by
 unfold ZdX at h
 try simp only [cond_eq_ite] at h
 repeat' (split at h)
 all_goals first
  | (cases h; done)
  | (injection h with h; injection h with h1 h2; subst h1 h2; first | exact Up.refl _ | exact up_add | exact up_turn | exact Zdp (by assumption))
  | exact ZaF h
theorem Zr8 {t : Nat} {x : Operand} {lo hi : Option Operand} (h : Zh3 P ρ t x lo hi s = some (v, s')) : Up s s' := by
 unfold Zh3 at h
 try simp only [cond_eq_ite] at h
 repeat' (split at h)
 all_goals first
  | (cases h; done)
  | (injection h with h; injection h with h1 h2; subst h1 h2; first | exact Up.refl _ | exact up_add | exact up_turn | exact Zdp (by assumption))
  | exact ZaF h
theorem Zyc {t : Nat} {l c : Operand} (h : ZeP P ρ t l c s = some (v, s')) : Up s s' := by
 unfold ZeP at h
 try simp only [cond_eq_ite] at h
 repeat' (split at h)
 all_goals first
  | (cases h; done)
  | (injection h with h; injection h with h1 h2; subst h1 h2; first | exact Up.refl _ | exact up_add | exact up_turn | exact Zdp (by assumption))
  | exact ZaF h
theorem ZsS {a b : TypeId} {x : Operand} (h : Zh4 P ρ a b x s = some (v, s')) : Up s s' := by
 unfold Zh4 at h
 try simp only [cond_eq_ite] at h
 repeat' (split at h)
 all_goals first
  | (cases h; done)
  | (injection h with h; injection h with h1 h2; subst h1 h2; first | exact Up.refl _ | exact up_add | exact up_turn | exact Zdp (by assumption))
  | exact ZaF h
theorem Zyd {o : Oper} {op : BinOp} {t : TypeId} {x y : Operand} (h : ZiU P ρ o op t x y s = some (v, s')) : Up s s' := by
 unfold ZiU at h;split at h
 ·injection h with h; injection h with h1 h2; subst h1 h2; exact Up.refl _
 ·injection h with h; injection h with h1 h2; subst h1 h2; exact Up.refl _
 split at h
 ·rename_i r hr
  injection h with h; subst h
  exact ZaF hr
 ·split at h <;> first | (cases h; done) | (injection h with h; injection h with h1 h2; subst h1 h2; exact Up.refl _)
theorem ZA {s s1 : St} {a : Option Told} (h : s.nextW = (a, s1)) : Up s s1 := by unfold St.nextW at h;split at h <;> (injection h with h1 h2; subst h1 h2; exact ⟨Nat.le_refl _, List.suffix_refl _, [], rfl, fun _ _ _ => rfl⟩)
theorem ZaC (q : Bool) : Up s (s.told q) := ⟨Nat.le_refl _, List.suffix_cons _ _, [], rfl, fun _ _ _ => rfl⟩
theorem up_putK {k : Nat} {c : List Value} {t : TypeId} {q : Bool} : Up s (s.putK k c t q) := ⟨Nat.le_refl _, List.suffix_refl _, [k], rfl, fun j hj _ => by show (s.h.set k _).get j = _;rw [Tr.get_set, Zf (by simpa using hj)]⟩
theorem ZvF {t : Nat} {a x : Operand} {c : List Value} (h : Zhq P ρ t a x c s = some (v, s')) : Up s s' := by
 unfold Zhq at h
 try simp only [cond_eq_ite] at h
 repeat' (split at h)
 all_goals first
  | (cases h; done)
  | (injection h with h; injection h with h1 h2; subst h1 h2; exact up_putK.trans (ZaC _))
theorem Z3n {t : Nat} {a x : Operand} {k : Nat} {cs : List Cell} {c : List Value} (h : Zki P ρ t a x k cs c s = some (v, s')) : Up s s' := by
 unfold Zki at h;split at h
 ·refine Up.trans (b := (⟨s.h.set k none, s.n, k :: s.wr, s.orc, s.ob⟩ : St)) ⟨Nat.le_refl _, List.suffix_refl _, [k], rfl, fun j hj _ => ?_⟩ ((ZaC _).trans (ZvF h))
  show (s.h.set k none).get j = _;rw [Tr.get_set, Zf (by simpa using hj)]
 ·cases h
theorem Z5x {x y : Operand} (h : Zo3 ρ x y s = some (v, s')) : Up s s' := by
 unfold Zo3 at h;split at h
 ·injection h with h; injection h with h1 h2; subst h1 h2; exact ZaC _
 ·cases h
theorem Z6e {op : BinOp} {x y : Operand} {n : Nat} (h : Zqa ρ op x y n s = some (v, s')) : Up s s' := by
 unfold Zqa at h;split at h
 ·injection h with h; injection h with h1 h2; subst h1 h2; exact ZaC _
 ·injection h with h; injection h with h1 h2; subst h1 h2; exact ZaC _
 ·cases h
theorem Z3o {x y : Operand} (h : ZsF ρ x y s = some (v, s')) : Up s s' := by simp [ZsF] at h
theorem Z3p {t : Nat} {x : Operand} {lo hi : Option Operand} {l m : Nat} (h : Zkl P ρ t x lo hi l m s = some (v, s')) : Up s s' := by
 unfold Zkl at h
 try simp only [cond_eq_ite] at h
 repeat' (split at h)
 all_goals first
  | (cases h; done)
  | (injection h with h; injection h with h1 h2; subst h1 h2; exact ((ZaC _).trans (ZaC _)).trans (ZaC _))
theorem Z3q {t : Nat} {x : Operand} {lo hi : Option Operand} {l m m2 : Nat} {cs : List Cell} (h : Zkm P ρ t x lo hi l m m2 cs s = some (v, s')) : Up s s' := by
 unfold Zkm at h
 repeat' (split at h)
 all_goals first
  | (cases h; done)
  | (injection h with h; injection h with h1 h2; subst h1 h2; exact ((ZaC _).trans (ZaC _)).trans (ZaC _))
theorem Z01 {a b : TypeId} {x : Operand} {ns : List Int} (h : ZhB P ρ a b x ns s = some (v, s')) : Up s s' := by simp [ZhB] at h
theorem Z5y {t : Nat} {x : Operand} {lo hi : Option Operand} {m : Nat} {c : List Value} (h : Zo1 P ρ t x lo hi m c s = some (v, s')) : Up s s' := by simp [Zo1] at h
theorem Z4n {t : Nat} {l c : Operand} {n cp : Nat} {cs : List Value} (h : Zmc P ρ t l c n cp cs s = some (v, s')) : Up s s' := by
 unfold Zmc at h
 try simp only [cond_eq_ite] at h
 repeat' (split at h)
 all_goals first
  | (cases h; done)
  | (injection h with h; injection h with h1 h2; subst h1 h2; exact ((up_add.trans (ZaC _)).trans (ZaC _)).trans (ZaC _))
theorem Znh {t tx : TypeId} {x y : Value} {m : Nat} {l c : List Value} (h : Zgz P s t tx x y m l c = some (v, s')) : Up s s' := by
 unfold Zgz at h
 try simp only [cond_eq_ite] at h
 repeat' (split at h)
 all_goals first
  | (cases h; done)
  | (injection h with h; injection h with h1 h2; subst h1 h2; first | exact up_add.trans (ZaC _) | exact up_turn.trans (ZaC _))
theorem ZvG {t tx : TypeId} {x y : Value} {m : Nat} {l c : List Value} (h : Zgz P s t tx x y m l c = some (v, s')) : s.n < s'.n := by
 unfold Zgz at h
 try simp only [cond_eq_ite] at h
 repeat' (split at h)
 all_goals first
  | (cases h; done)
  | (injection h with h; injection h with h1 h2; subst h1 h2; exact Nat.lt_succ_self _)
theorem Up.setN {s s1 : St} (h : Up s s1) (hn : s.n < s1.n) (o : Option AObj) : Up s ⟨s1.h.set s.n o, s1.n, s1.wr, s1.orc, s1.ob⟩ := by obtain ⟨h1, h2, ws, h3, h4⟩ := h;refine ⟨h1, h2, ws, h3, fun j hj hq => ?_⟩;show (s1.h.set s.n o).get j = _;rw [Tr.get_set, Zf (fun e => hq ⟨by omega, by show j < s1.n; omega⟩)];exact h4 j hj hq
theorem Z2r {t tx : TypeId} {x y : Value} {m : Nat} {l c : List Value} {cs : List Cell} (h : ZlX P s t tx x y m l c cs = some (v, s')) : Up s s' := by
 unfold ZlX at h;split at h
 ·rename_i ht
  obtain ⟨_, h⟩ := Zl h;split at h
  ·injection h with h
   injection h with h1 h2;subst h1 h2
   exact ((Znh ht).setN (ZvG ht) none).trans (ZaC _)
  ·cases h
 ·cases h
theorem Z4o {t : Nat} (h : Zmd P t s = some (v, s')) : Up s s' := by
 unfold Zmd at h;split at h
 ·split at h
  ·split at h
   ·injection h with h
    injection h with h1 h2;subst h1 h2
    exact ((ZA (by assumption)).trans up_add).trans (ZaC _)
   ·cases h
   ·injection h with h
    injection h with h1 h2;subst h1 h2
    exact (ZA (by assumption)).trans up_add
  ·injection h with h
   injection h with h1 h2;subst h1 h2
   exact up_add
 ·cases h
theorem Z4p {t : Nat} {l c : Operand} {n : Nat} {c0 cN : List Value} (h : Zme P ρ t l c n c0 cN s = some (v, s')) : Up s s' := by simp [Zme] at h
theorem Z2s {t tx : TypeId} {x y : Value} {m : Nat} {l c0 c : List Value} (h : ZlY P s t tx x y m l c0 c = some (v, s')) : Up s s' := by
 unfold ZlY at h;split at h
 ·rename_i ht
  split at h
  ·injection h with h
   injection h with h1 h2;subst h1 h2
   exact ((Znh ht).setN (ZvG ht) _).trans (ZaC _)
  ·cases h
 ·cases h
theorem Z02 {t tx : TypeId} {x y : Value} {m : Nat} {l c : List Value} (h : Zkj P s t tx x y m l c = some (v, s')) : Up s s' := by simp [Zkj] at h
theorem Z03 {t tx : TypeId} {x y : Value} (h : Zkk P s t tx x y = some (v, s')) : Up s s' := by
 unfold Zkk at h
 try simp only [cond_eq_ite] at h
 repeat' (split at h)
 all_goals first
  | (cases h; done)
  | (injection h with h; injection h with h1 h2; subst h1 h2; exact ZaC _)
theorem Z2t {kk : IntKind} {e : Nat} {args : Array Value} {z : Int} {c : List Value} (h : Zjf kk e args z c s = some (v, s')) : Up s s' := by simp [Zjf] at h
theorem Z5z {O : Obj} : Up s (s.addM O) := ⟨Nat.le_succ _, List.suffix_refl _, [], rfl, fun j _ hn => by show (s.h.set s.n _).get j = _;rw [Tr.get_set, Zf (by intro e; subst e; exact hn ⟨Nat.le_refl _, Nat.lt_succ_self _⟩)]⟩
theorem up_putM {k : Nat} {O : Obj} : Up s (s.putM k O) := ⟨Nat.le_refl _, List.suffix_refl _, [k], rfl, fun j hj _ => by show (s.h.set k _).get j = _;rw [Tr.get_set, Zf (by intro e; subst e; exact hj (List.mem_singleton.2 rfl))]⟩
theorem Z4q {t : TypeId} {x : Value} (h : Zmh P s t x = some (v, s')) : Up s s' := by simp [Zmh] at h
theorem Z3r {t : TypeId} {x k : Value} (h : Zkt P s t x k = some (v, s')) : Up s s' := by simp [Zkt] at h
theorem Z4r {t : TypeId} {x : Operand} (h : Zmg P ρ t x s = some (v, s')) : Up s s' := by simp [Zmg] at h
theorem Z50 {it : Operand} {q : Bool} (h : Zo5 ρ it q s = some (v, s')) : Up s s' := by simp [Zo5] at h
theorem Z2u {t : TypeId} {r : Option Operand} (h : Zji P ρ t r s = some (v, s')) : Up s s' := by
 unfold Zji at h
 repeat' (split at h)
 all_goals first
  | (cases h; done)
  | (injection h with h; injection h with h1 h2; subst h1 h2; exact Z5z)
theorem Z3s {t : TypeId} {x ix : Operand} {ok : Bool} (h : Zfr P ρ t x ix ok s = some (v, s')) : Up s s' := by
 unfold Zfr at h
 repeat' (split at h)
 all_goals first
  | (cases h; done)
  | skip
 all_goals (replace h := (Zl h).2)
 all_goals first
  | (cases h; done)
  | (replace h := (Zl h).2; injection h with h; injection h with h1 h2; subst h1 h2; exact Up.refl _)
theorem Z2v {t : TypeId} {x ix : Operand} {ok : Bool} {r : Option Value} (h : Zjg P ρ t x ix ok r s = some (v, s')) : Up s s' := by
 unfold Zjg at h
 repeat' (split at h)
 all_goals first
  | (cases h; done)
  | skip
 all_goals (replace h := (Zl h).2; injection h with h; injection h with h1 h2; subst h1 h2; exact ZaC _)
theorem Z3t {t : TypeId} {m k x : Operand} (h : Zfs P ρ t m k x s = some (v, s')) : Up s s' := by
 unfold Zfs at h
 repeat' (split at h)
 all_goals first
  | (cases h; done)
  | skip
 all_goals (replace h := (Zl h).2)
 all_goals first
  | (cases h; done)
  | (injection h with h; injection h with h1 h2; subst h1 h2; exact up_putM)
theorem Z2w {t : TypeId} {m k x : Operand} {l : List MapEntry} (h : Zjh P ρ t m k x l s = some (v, s')) : Up s s' := by
 unfold Zjh at h
 repeat' (split at h)
 all_goals first
  | (cases h; done)
  | skip
 all_goals (replace h := (Zl h).2; injection h with h; injection h with h1 h2; subst h1 h2; exact up_putM.trans (ZaC _))
theorem Z2x {o : Oper} {c : Call} {b : Builtin} (h : Zjj P ρ o c b s = some (v, s')) : Up s s' := by
 unfold Zjj at h;split at h
 ·split at h
  ·split at h
   ·exact (ZA (by assumption)).trans (Znh h)
   ·exact (ZA (by assumption)).trans (Z02 h)
   ·exact (ZA (by assumption)).trans (Z03 h)
   ·exact (ZA (by assumption)).trans (Z2r h)
   ·exact (ZA (by assumption)).trans (Z2s h)
   ·cases h
   ·exact (ZA (by assumption)).trans (Z3m h)
  ·cases h
 ·split at h
  ·split at h
   ·injection h with h; injection h with h1 h2; subst h1 h2; exact Up.refl _
   ·split at h
    ·injection h with h; injection h with h1 h2; subst h1 h2; exact Up.refl _
    ·cases h
   ·exact ZaF h
  ·cases h
 ·split at h
  ·exact Z3r h
  ·cases h
 ·split at h
  ·exact Z4q h
  ·cases h
 ·exact ZaF h
theorem Zye {s s1 : St} {a : Option Nat} (h : s.nextX = (a, s1)) : Up s s1 := by
 unfold St.nextX at h;split at h <;> (injection h with h1 h2; subst h1 h2)
 ·exact Up.refl _
 ·exact ⟨Nat.le_refl _, List.suffix_refl _, [], rfl, fun _ _ _ => rfl⟩
theorem Zyf {s s1 : St} {a : Option (List Cell)} (h : s.nextL = (a, s1)) : Up s s1 := by
 unfold St.nextL at h;split at h <;> (injection h with h1 h2; subst h1 h2)
 ·exact Up.refl _
 ·exact ⟨Nat.le_refl _, List.suffix_refl _, [], rfl, fun _ _ _ => rfl⟩
theorem up_told {s : St} {q : Bool} : Up s (s.told q) := ⟨Nat.le_refl _, List.suffix_cons _ _, [], rfl, fun _ _ _ => rfl⟩
theorem Zwk {t : Nat} {x ix : Operand} {i : Nat} (h : ZfZ P ρ t x ix i s = some (v, s')) : Up s s' := by
 unfold ZfZ at h
 repeat' (split at h)
 all_goals first
  | (cases h; done)
  | (injection h with h; injection h with h1 h2; subst h1 h2; exact up_told.trans up_told)
theorem Z4s {t : Nat} {a : Operand} {l : List Cell} (h : Zmb P ρ t a l s = some (v, s')) : Up s s' := by
 unfold Zmb at h
 repeat' (split at h)
 all_goals first
  | (cases h; done)
  | (injection h with h; injection h with h1 h2; subst h1 h2; exact up_told)
theorem Z3u {t : Nat} {x : Operand} {lo hi : Option Operand} {M : List Int} (h : Zko P ρ t x lo hi M s = some (v, s')) : Up s s' := by simp [Zko] at h
theorem Z3v {t : Nat} {x ix : Operand} {c : List Int} (h : Zkp P ρ t x ix c s = some (v, s')) : Up s s' := by simp [Zkp] at h
theorem ZoI {t : Nat} {x : Operand} {lo hi : Option Operand} (h : Zkn P ρ t x lo hi s = some (v, s')) : Up s s' := by simp [Zkn] at h
theorem Z13 {o : Oper} {t : Nat} {x : Operand} {lo hi : Option Operand} (h : Z2e P ρ o t x lo hi s = some (v, s')) : Up s s' := by
 unfold Z2e at h;split at h
 ·exact (ZA (by assumption)).trans (Z3p h)
 ·exact (ZA (by assumption)).trans (Z3q h)
 ·exact (ZA (by assumption)).trans (Z5y h)
 ·exact (ZA (by assumption)).trans (Z3u h)
 ·cases h
 ·split at h
  ·injection h with h; subst h; exact (ZA (by assumption)).trans (Zr8 (by assumption))
  ·split at h
   ·injection h with h; subst h; exact (ZA (by assumption)).trans (ZoI (by assumption))
   ·exact (ZA (by assumption)).trans (ZaF h)
theorem Z3w {a b : TypeId} {z : ByteArray} {r : Option Told} (h : Zkq P a b z r s = some (v, s')) : Up s s' := by simp [Zkq] at h
theorem Z6f {o : Oper} (h : ev1 P ρ o s = some (v, s')) : Up s s' := by
 unfold ev1 at h;split at h
 all_goals first
  | exact Z4o h | exact Z13 h | exact Zwj h | exact Z4j h | exact Zyb h | exact Z4l h | exact ZoH h | exact Zyd h | exact Z3o h | exact ZaF h
  | (injection h with h; injection h with h1 h2; subst h1 h2; first | exact Up.refl _ | exact up_add)
  | (cases h; done)
  | skip
 ·split at h
  ·split at h <;> (injection h with h; injection h with h1 h2; subst h1 h2; exact Up.refl _)
  ·cases h
 all_goals (repeat' (split at h))
 all_goals first
  | (cases h; done)
  | exact (ZA (by assumption)).trans (ZvF h)
  | exact (ZA (by assumption)).trans (Z3n h)
  | exact (ZA (by assumption)).trans (Z4k h)
  | exact (ZA (by assumption)).trans (Z5x h)
  | exact (ZA (by assumption)).trans (Z6e h)
  | exact (ZA (by assumption)).trans (Zyd h)
  | exact Z3o h
  | exact Zyd h
  | exact Z2u h
  | exact Z4r h
  | exact Z50 h
  | exact (ZA (by assumption)).trans (Z2v h)
  | exact (ZA (by assumption)).trans (Z3s h)
  | exact (ZA (by assumption)).trans (Z2w h)
  | exact (ZA (by assumption)).trans (Z3t h)
  | exact Z13 h
  | exact (ZA (by assumption)).trans (Z4n h)
  | exact (ZA (by assumption)).trans (Z4p h)
  | exact (ZA (by assumption)).trans (Z01 h)
  | exact (ZA (by assumption)).trans (ZsS h)
  | exact (ZA (by assumption)).trans (Zyc h)
  | exact (ZA (by assumption)).trans (Z3v h)
  | exact (ZA (by assumption)).trans (ZaF h)
  | (injection h with h; subst h; first | exact (ZA (by assumption)).trans (Zr8 (by assumption)) | exact (ZA (by assumption)).trans (ZoI (by assumption)))
  | exact (Zyf (by assumption)).trans (Z4s h)
  | exact (Zye (by assumption)).trans (Zwk h)
  | exact (Zye (by assumption)).trans (ZoH h)
  | (injection h with h; injection h with h1 h2; subst h1 h2; exact Zyf (by assumption))
  | exact Z2x h
  | exact ZaF h
  | (injection h with h; injection h with h1 h2; subst h1 h2; first | exact Up.refl _ | exact up_add)
  | (injection h with h; subst h; exact (ZA (by assumption)).trans (Z3w (by assumption)))
  | (injection h with h; subst h; first | exact Z4m (by assumption) | exact Zr8 (by assumption) | exact ZoI (by assumption) | exact ZsS (by assumption))
theorem Z51 {n : Nat} {args : Array Value} (h : Zo4 n args s = some (v, s')) : Up s s' := by simp [Zo4] at h
theorem Z3x {kk : IntKind} {e : Nat} {args : Array Value} (h : Ziz kk e args s = some (v, s')) : Up s s' := by simp [Ziz] at h
theorem Z14 {o : Oper} {v1 : Value} {s1 : St} (h : ZxH o v s = (v1, s1)) : Up s s1 := by
 unfold ZxH at h;split at h
 all_goals first
  | (generalize hq : s.tst _ = q at h; obtain ⟨b, s2⟩ := q; simp only [Prod.mk.injEq] at h; obtain ⟨rfl, rfl⟩ := h; exact Z6c hq)
  | (generalize hq : s.vst _ = q at h; obtain ⟨b, s2⟩ := q; simp only [Prod.mk.injEq] at h; obtain ⟨rfl, rfl⟩ := h; exact Z6d hq)
  | (simp only [Prod.mk.injEq] at h; obtain ⟨rfl, rfl⟩ := h; exact Up.refl _)
end
mutual
inductive Dec (w : World) : Nat → Nat → Nat → Prop
 | mk {b base id : Nat} {c : List Cell} {C : Array Value} {t : TypeId} {fr : Nat × Nat} (h1 : Zoz id = some c) (h2 : w.heap[b]? = some (.cells C t fr)) (h3 : 0 < c.length → base + c.length ≤ C.size) (h4 : ∀ (i : Nat) (x : Cell) (y : Value), c[i]? = some x → C[base + i]? = some y → DecC w x y) : Dec w b base id
inductive DecC (w : World) : Cell → Value → Prop
 | i {n : Int} : DecC w (.i n) (.int .i64 n)
 | k {q : IntKind} {n : Int} : DecC w (.k q n) (.int q n)
 | b {q : Bool} : DecC w (.b q) (.bool q)
 | s {x : ByteArray} : DecC w (.s x) (.string x)
 | m0 {id o : Nat} {a : Option Addr} : DecC w (.m id o 0 0) (.slice a 0 0)
 | m {b base id o n c c' : Nat} (h : Dec w b base id) (hn : n ≤ c) (hc : c ≤ c') : DecC w (.m id o n c) (.slice (some ⟨b, base + o, none⟩) n c')
end
noncomputable def ιMk (w : World) : Ren := fun k => @dite _ (∃ b base id, k = ZO b base id ∧ Dec w b base id) (Classical.propDecidable _) (fun h => some (h.choose, 0)) (fun _ => none)
theorem ιMk_of {w : World} {b base id : Nat} (h : Dec w b base id) : ιMk w (ZO b base id) = some (b, 0) := by
 have hex : ∃ b' base' id', ZO b base id = ZO b' base' id' ∧ Dec w b' base' id' := ⟨b, base, id, rfl, h⟩
 unfold ιMk;rw [dif_pos hex];obtain ⟨base', id', h1, _⟩ := hex.choose_spec;rw [← (Zr3 h1).1]
theorem ιMk_inv {w : World} {k : Nat} {q : Nat × Nat} (h : ιMk w k = some q) : ∃ b base id, k = ZO b base id ∧ q = (b, 0) ∧ Dec w b base id := by
 unfold ιMk at h;by_cases hex : ∃ b' base' id', k = ZO b' base' id' ∧ Dec w b' base' id'
 ·rw [dif_pos hex] at h
  injection h with h;obtain ⟨base', id', h1, h2⟩ := hex.choose_spec
  exact ⟨_, base', id', h1, h.symm, h2⟩
 ·rw [dif_neg hex] at h; cases h
theorem DecC.vr {w : World} {x : Cell} {y : Value} (h : DecC w x y) : VR (ιMk w) (ZdP x) y := by
 cases h with
 | i => exact .atom rfl
 | k => exact .atom rfl
 | b => exact .atom rfl
 | s => exact .atom rfl
 | m0 => exact .slice0 fun _ => rfl
 | m h hn hc => exact .mslice (ιMk_of h) hn hc
def TabW (w : World) : Prop := ∀ x ∈ tabs, ∃ C t fr, w.heap[x.1]? = some (.cells C t fr) ∧ TabC x.2 C
theorem Z52 : Zu (fun x : Nat × List Cell => Zu atom (Zm x.2)) tabs = true := by rfl
theorem Z4t {w : World} {x : Cell} (h : atom (ZdP x) = true) : DecC w x (ZdP x) := by
 cases x with
 | i n => exact .i
 | b q => exact .b
 | k q n => exact .k
 | s x => exact .s
 | any => exact (Bool.false_ne_true h).elim
 | m id o n c => exact (Bool.false_ne_true h).elim
theorem TabW.dec {w : World} (h : TabW w) : ∀ x ∈ tabs, Dec w x.1 0 (code x.2) := fun x hx => by
 obtain ⟨C, t, fr, h1, hC⟩ := h x hx;obtain ⟨g, l⟩ := x;cases l with
 | nil => exact .mk (Zdn []) h1 (fun h => by simp at h) fun i z y hz hy => by simp at hz
 | cons z0 l =>
 obtain rfl : C = _ := hC;generalize hx2 : (g, z0 :: l) = x at *;obtain rfl : g = x.1 := by rw [← hx2]
 have e2 : z0 :: l = x.2 := by rw [← hx2]
 have ha := Zaf Z52 x hx;have hl : (Zm x.2).length = x.2.length := by unfold Zm; rw [List.length_map]
 refine .mk (Zdn x.2) h1 (fun _ => by simp [hl]) fun i z y hz hy => ?_;have hv : (Zm x.2)[i]? = some (ZdP z) := by unfold Zm; rw [List.getElem?_map, hz]; rfl
 rw [Nat.zero_add, List.getElem?_toArray, hv] at hy;injection hy with hy
 subst hy;exact Z4t (Zaf ha _ (List.mem_of_getElem? hv))
theorem Emb.tabw {P : Program} {ι : Ren} {h : AH} {w : World} (e : Emb P ι h w) : TabW w := fun x hx => by obtain ⟨q, hq⟩ := e.tb x hx;obtain ⟨_, ⟨⟨c, C, t, fr, h1, h2, h3, h4, h5⟩, _⟩, _⟩ := e.mks _ _ _ _ hq;exact ⟨C, t, fr, h2, h5 x hx rfl⟩
theorem Z53 (P : Program) {w : World} (ht : TabW w) : Emb P (ιMk w) (fun _ => none) w := by
 refine ⟨fun k c t q hk => (by cases hk), fun k O hk => (by cases hk), fun k k' b1 b2 h1 => (by cases h1), fun k b1 hk => ?_, fun b base id q hq => ?_, fun x hx => ⟨_, ιMk_of (ht.dec x hx)⟩⟩
 ·obtain ⟨b, base, id, rfl, rfl, h⟩ := ιMk_inv hk
  cases h with
  | mk _ h2 _ _ => exact (Array.getElem?_eq_some_iff.1 h2).1
 ·obtain ⟨b', base', id', h1, rfl, h⟩ := ιMk_inv hq
  obtain ⟨rfl, rfl, rfl⟩ := Zr3 h1;cases h with
  | mk h1 h2 h3 h4 =>
   rename_i c C t fr;refine ⟨rfl, ⟨⟨c, C, t, fr, h1, h2, h3, fun i x y hx hy => ?_, fun x hx hb => ?_⟩, fun o c' hc => ιMk_of ?_⟩, fun k d hk => (by cases hk)⟩
   ·unfold Zm at hx
    rw [List.getElem?_map] at hx;cases hb : c[i]? with
    | none => rw [hb] at hx; cases hx
    | some z =>
     rw [hb] at hx;injection hx with hx
     subst hx;exact (h4 i z y hb hy).vr
   ·obtain ⟨C', t', fr', h6, h7⟩ := ht x hx
    rw [hb, h2] at h6;injection h6 with h6
    injection h6 with h6;rw [h6]; exact h7
   ·unfold ZS at hc
    rw [h1] at hc;obtain ⟨e, hl⟩ := Ze2 hc;have hl' : c'.length ≤ c.length - o := by simpa using hl
    refine .mk (Zdn c') h2 (fun h0 => by have := h3 (by omega); omega) fun i x y hx hy => ?_;have hi : i < c'.length := (List.getElem?_eq_some_iff.1 hx).1;refine h4 (o + i) x y ?_ (by rw [← Nat.add_assoc]; exact hy);rw [e, List.getElem?_take_of_lt hi, List.getElem?_drop] at hx;exact hx

def Zx4 (P : Program) (ι : Ren) (s : St) (w : World) (v : Value) (s' : St) (e : Ending) (w' : World) : Prop :=
  ∃ v' ι', e = .returned v' ∧ Step P ι s.h.get w ι' s'.h.get w' ∧ Dom ι ι' s.n s'.n ∧ VR ι' v v'
def Goes (P : Program) (f : FuncId) (args : Array Value) (w : World) (R : Ending → World → Prop) : Prop :=
  ((∃ (fn : Func) (c : Code), P.funcs[f]? = some fn ∧ fn.body = some c) ∧ Calls P f args w R) ∨ ∃ v w', (callFunc f args).run P w = .ok (.value v) w' ∧ R (.returned v) w'
structure Zyg (P : Program) (f : FuncId) (g : Array Value → St → Out) : Prop where
  up : ∀ args s v s', g args s = some (v, s') → Up s s'
  does : ∀ args s v s', g args s = some (v, s') → (∀ p ∈ s'.ob, p.1 = p.2) → ∀ ι w args', VRs ι args args' → Emb P ι s.h.get w → Fresh ι s.n s'.n → Goes P f args' w (Zx4 P ι s w v s')
def Zi6 (v : Value) : List PanicEntry := [{ v := v, recovered := false }]
def Zb3 (P : Program) (f : FuncId) (args : Array Value) (pre : List (Nat × AObj)) (v : Value) (post : List (Nat × Option AObj)) (n dn : Nat) : Prop :=
  ∀ ι w args', VRs ι args args' → Emb P ι (fun k => Zaq k pre) w → Fresh ι n (n + dn) → Calls P f args' w fun e w' => (∃ v' ι', e = .returned v' ∧ Step P ι (fun k => Zaq k pre) w ι' (behind pre post) w' ∧ Dom ι ι' n (n + dn) ∧ VR ι' v v') ∨ (Zc4 v = true ∧ ∃ ι', e = .panicked (Zi6 v) ∧ Step P ι (fun k => Zaq k pre) w ι' (behind pre post) w' ∧ Dom ι ι' n (n + dn))
structure Fit (P : Program) (ext : FuncId → Option Ext) : Prop where
  mixed : P.follows .mixedOrders = true
  go : ∀ (f : Nat) (fn : Func), P.funcs[f]? = some fn → (fn.name == "runtime.NumGoroutine") = false
  fn : ∀ (f : Nat) (g : List Value → Option Value), ext f = some (.fn g) → (∃ (fn : Func) (c : Code), P.funcs[f]? = some fn ∧ fn.body = some c) ∧ ∀ (args : Array Value) (v : Value), Zu free args.toList = true → g args.toList = some v → ∀ w, TabW w → Calls P f args w fun e w' => e = .returned v ∧ Below w.heap.size w w'
  hp : ∀ (f : Nat) (g : Array Value → St → Out), ext f = some (.hp g) → Zyg P f g
  tc : ∀ (f : Nat) (S : Array Value → List (Nat × AObj) → Value → List (Nat × Option AObj) → Nat → Nat → Prop), ext f = some (.tc S) → (∃ (fn : Func) (c : Code), P.funcs[f]? = some fn ∧ fn.body = some c) ∧ ∀ args pre v post n dn, S args pre v post n dn → Zb3 P f args pre v post n dn
  mark : ∀ (f : Nat) (n : Nat), ext f = some (.mark n) → ∃ fn : Func, P.funcs[f]? = some fn ∧ fn.body.isNone = true ∧ Extern.findNext fn = none ∧
    (n = 0 ∧ (∃ m : Mark, Extern.find fn = some (fun _ => do mark m; pure Extern.Race.none_)) ∨ n = 1 ∧ ∃ m : Addr → Mark, Extern.find fn = some (Extern.Race.marked m))
  ext : ∀ (f : Nat) (kk : IntKind) (e : Nat), ext f = some (.at kk e) → ∃ fn : Func, P.funcs[f]? = some fn ∧ fn.body.isNone = true ∧ Extern.findNext fn = none ∧
    (e = 0 ∧ Extern.find fn = some (Extern.Atomic.loadT (.int kk)) ∨ e = 1 ∧ Extern.find fn = some Extern.Atomic.storeT ∨
     e = 2 ∧ Extern.find fn = some (Extern.Atomic.update (Op.intArith .add) kk true) ∨ e = 3 ∧ Extern.find fn = some (Extern.Atomic.casT (.int kk)))
section
variable {P : Program} {ext : FuncId → Option Ext}

theorem up_fn {g : List Value → Option Value} {args : Array Value} {s s' : St} {v : Value} (h : Z2f g args s = some (v, s')) : Up s s' := by
  unfold Z2f at h;replace h := (Zl h).2;split at h
  · replace h := (Zl h).2;injection h with h; injection h with h1 h2; subst h1 h2; exact Up.refl _
  · cases h
theorem Zge {ops : Array Oper} {T : Tr Value} {o : Oper} {s s' : St} {b : Bool} (h : Zh5 ops T o s = some (b, s')) : Up s s' := by
  unfold Zh5 at h;split at h
  · injection h with h; injection h with h1 h2; subst h1 h2; exact Up.refl _
  · split at h
    · split at h
      · injection h with h; injection h with h1 h2; subst h1 h2; exact Up.refl _
      · injection h with h; injection h with h1 h2; subst h1 h2; exact Up.refl _
      · cases h
    · cases h
theorem Zlg {h : Tr AObj} (k : Nat) : ∀ (t : List Nat), (Zlb h t).get k = if k ∈ t then h.get k else none
  | [] => by simp [Zlb, Tr.get_nil]
  | j :: t => by
    rw [Zlb, Tr.get_set];by_cases hk : k = j
    · subst hk; rw [Zk]; simp
    · rw [Zf hk, Zlg k t];simp [hk]
theorem ZdY {r h : Tr AObj} (k : Nat) : ∀ (t : List Nat), (Zft r t h).get k = if k ∈ t then r.get k else h.get k
  | [] => by simp [Zft]
  | j :: t => by
    rw [Zft, Tr.get_set];by_cases hk : k = j
    · subst hk; rw [Zk]; simp
    · rw [Zf hk, ZdY k t];simp [hk]
section
variable {P : Program}
/-! ### What is elsewhere stays -/
noncomputable def join (h x : AH) : AH := fun k => match h k with | some o => some o | none => x k
theorem ZdZ {h x : AH} {k : Nat} (hk : (h k).isSome) : join h x k = h k := by
  unfold join;cases he : h k with
  | none => rw [he] at hk; cases hk
  | some o => rfl
theorem ZbU {h x : AH} {k : Nat} (hk : h k = none) : join h x k = x k := by unfold join; rw [hk]
theorem Emb.sub {ι : Ren} {h g : AH} {w : World} (e : Emb P ι g w) (hs : ∀ k o, h k = some o → g k = some o) : Emb P ι h w := by
  have iso : ∀ k b, Zae (h k) b = true → Zae (g k) b = true := fun k b hk => by
    cases he : h k with
    | none => rw [he] at hk; cases hk
    | some o => rw [hs k o he, ← he]; exact hk
  have isoC : ∀ k b, ZQ (h k) b = true → ZQ (g k) b = true := fun k b hk => by
    cases he : h k with
    | none => rw [he] at hk; cases hk
    | some o => rw [hs k o he, ← he]; exact hk
  exact ⟨fun k c t q hk => e.obj k c t q (hs k _ hk), fun k O hk => e.ro k O (hs k _ hk), fun k k' b b' h1 h2 => e.inj k k' b b' (isoC k _ h1) (iso k' _ h2), e.lt, fun b base id q hq => ⟨(e.mks b base id q hq).1, (e.mks b base id q hq).2.1, fun k d hk hd => (e.mks b base id q hq).2.2 k d (isoC k _ hk) hd⟩, e.tb⟩
theorem Step.framed {ι ι' : Ren} {h h' x : AH} {w w' : World} (st : Step P ι h w ι' h' w') (e : Emb P ι (join h x) w) (hx : ∀ k, (x k).isSome → h k = none) :
    Step P ι (join h x) w ι' (join h' x) w' := by
  have hl : ∀ k b, Zae (h k) b = true → Zae (join h x k) b = true := fun k b hk => by rw [ZdZ (Zcz hk)]; exact hk
  have hlC : ∀ k b, ZQ (h k) b = true → ZQ (join h x k) b = true := fun k b hk => by rw [ZdZ (Zbh hk)]; exact hk
  have xlC : ∀ k b, ZQ (x k) b = true → ZQ (join h x k) b = true := fun k b hk => by rw [ZbU (hx k (Zbh hk))]; exact hk
  have xl : ∀ k b, Zae (x k) b = true → Zae (join h x k) b = true := fun k b hk => by rw [ZbU (hx k (Zcz hk))]; exact hk
  have xi : ∀ k, (x k).isSome → (join h x k).isSome := fun k hk => by rw [ZbU (hx k hk)]; exact hk
  have partsS : ∀ k b, Zae (join h' x k) b = true → Zae (h' k) b = true ∨ (h' k = none ∧ Zae (x k) b = true) := fun k b hk => by
    cases he : h' k with
    | some o => rw [ZdZ (by rw [he]; rfl), he] at hk; exact .inl hk
    | none => rw [ZbU he] at hk; exact .inr ⟨rfl, hk⟩
  have parts : ∀ k, (join h' x k).isSome → (h' k).isSome ∨ (h' k = none ∧ (x k).isSome) := fun k hk => by
    cases he : h' k with
    | some o => exact .inl rfl
    | none => rw [ZbU he] at hk; exact .inr ⟨rfl, hk⟩
  have partsC : ∀ k b, ZQ (join h' x k) b = true → ZQ (h' k) b = true ∨ (h' k = none ∧ ZQ (x k) b = true) := fun k b hk => by
    cases he : h' k with
    | some o => rw [ZdZ (by rw [he]; rfl), he] at hk; exact .inl hk
    | none => rw [ZbU he] at hk; exact .inr ⟨rfl, hk⟩
  have xι : ∀ k, (x k).isSome → ∃ b, ι k = some b ∧ ι' k = some b := fun k hk => by obtain ⟨b, hb⟩ := e.live (xi k hk);exact ⟨b, hb, st.ext k b hb⟩
  refine ⟨st.ext, ⟨fun k c t q hk => ?_, fun k O hk => ?_, fun k k' b b' h1 h2 h3 h4 h5 => ?_, st.emb.lt, ?_, st.emb.tb⟩, st.os, st.tape, st.output, st.size, fun b hb hno => st.frame b hb fun k c hk => hno k c (hlC k c hk), fun k b h1 h2 h0 => ?_, fun k b h1 h2 => ?_, fun k b h1 h2 => ?_⟩
  · rcases parts k (by rw [hk]; rfl) with h1 | ⟨h1, h2⟩
    · rw [ZdZ h1] at hk;exact st.emb.obj k c t q hk
    · rw [ZbU h1] at hk;obtain ⟨b, hb, hz | ⟨q0, C, hB, hC, hQ⟩⟩ := e.obj k c t q (by rw [ZbU (hx k h2)]; exact hk)
      · exact ⟨b, st.ext k b hb, .inl hz⟩
      refine ⟨b, st.ext k b hb, .inr ⟨q0, C, ?_, hC.ext st.ext, hQ⟩⟩;rw [st.frame b.1 (e.lt k b hb)]
      · exact hB
      · intro j d hj hd he;have : j = k := e.inj j k d b (hlC j d hj) (xl k b (by rw [hk]; exact Zd1 q0)) hd hb he;subst this;rw [hx j h2] at hj;cases hj
  · rcases parts k (by rw [hk]; rfl) with h1 | ⟨h1, h2⟩
    · rw [ZdZ h1] at hk;exact st.emb.ro k O hk
    · rw [ZbU h1] at hk;obtain ⟨b, hb, hB⟩ := e.ro k O (by rw [ZbU (hx k h2)]; exact hk);refine ⟨b, st.ext k b hb, ?_⟩;rw [st.frame b.1 (e.lt k b hb)]
      · exact hB
      · intro j d hj hd he;have : j = k := e.inj j k d b (hlC j d hj) (xl k b (by rw [hk]; rfl)) hd hb he;subst this;rw [hx j h2] at hj;cases hj
  · -- one of h', one of x
    have mixed : ∀ {k k' : Nat} {b b' : Nat × Nat}, Zae (h' k) b = true → Zae (x k') b' = true → (ZQ (h' k) b = true ∨ ZQ (x k') b' = true) → ι' k = some b → ι' k' = some b' → b.1 = b'.1 → k = k' := fun {k k' b b'} h1 h2 hor h3 h4 h5 => by
      obtain ⟨c, hc, hc'⟩ := xι k' (Zcz h2);rw [h4] at hc'; injection hc' with hc'; subst hc'
      cases hk : ι k with
      | some d =>
        have e1 := st.ext k d hk;rw [h3] at e1; injection e1 with e1; subst e1
        rcases hor with hC | hC
        · exact e.inj k k' b b' (hlC k b (st.kind k b hC hk)) (xl k' b' h2) hk hc h5
        · exact (e.inj k' k b' b (xlC k' b' hC) (hl k b (st.alive k b h1 hk)) hc hk h5.symm).symm
      | none =>
        rcases st.new k b hk h3 (.inl h1) with h6 | ⟨j, d, hj, hd, he⟩
        · have := e.lt k' b' hc;omega
        · have : j = k' := e.inj j k' d b' (hlC j d hj) (xl k' b' h2) hd hc (he.trans h5);subst this;rw [hx j (Zcz h2)] at hj;cases hj
    rcases partsC k b h1 with q1 | ⟨_, q1⟩ <;> rcases partsS k' b' h2 with q2 | ⟨_, q2⟩
    · exact st.emb.inj k k' b b' q1 q2 h3 h4 h5
    · exact mixed (Zd1 q1) q2 (.inl q1) h3 h4 h5
    · exact (mixed q2 (Zd1 q1) (.inr q1) h4 h3 h5.symm).symm
    · obtain ⟨c, hc, hc'⟩ := xι k (Zbh q1);obtain ⟨d, hd, hd'⟩ := xι k' (Zcz q2);rw [h3] at hc'; injection hc' with hc'; subst hc'
      rw [h4] at hd'; injection hd' with hd'; subst hd'
      exact e.inj k k' b b' (xlC k b q1) (xl k' b' q2) hc hd h5
  · intro b base id q hq;obtain ⟨m1, m2, m3⟩ := st.emb.mks b base id q hq;refine ⟨m1, m2, fun k d hk hd => ?_⟩;rcases partsC k d hk with q1 | ⟨_, q1⟩
    · exact m3 k d q1 hd
    · obtain ⟨c, hc, hc'⟩ := xι k (Zbh q1);rw [hd] at hc'; injection hc' with hc'; subst hc'
      cases hm : ι (ZO b base id) with
      | some q' => exact (e.mks b base id q' hm).2.2 k d (xlC k d q1) hc
      | none =>
        rcases st.new _ q hm hq (.inr (Zfq b base id)) with h6 | ⟨j, c', hj, hc'', he⟩
        · have := e.lt k d hc;omega
        · intro hdb;have : j = k := e.inj j k c' d (hlC j c' hj) (xl k d (Zd1 q1)) hc'' hc (by omega);subst this;rw [hx j (Zbh q1)] at hj;cases hj
  · have h0' : Zae (h' k) b = true ∨ Zc7 k := by
      rcases h0 with h0 | h0
      · rcases partsS k b h0 with q1 | ⟨_, q1⟩
        · exact .inl q1
        · obtain ⟨c, hc, _⟩ := xι k (Zcz q1);rw [h1] at hc; cases hc
      · exact .inr h0
    rcases st.new k b h1 h2 h0' with h3 | ⟨j, c, hj, hc⟩
    · exact .inl h3
    · exact .inr ⟨j, c, hlC j c hj, hc⟩
  · rcases partsS k b h1 with q1 | ⟨_, q1⟩
    · exact hl k b (st.alive k b q1 (by
        rcases Option.isSome_iff_exists.1 (Zcz q1) with ⟨o, ho⟩
        exact h2))
    · exact xl k b q1
  · rcases partsC k b h1 with q1 | ⟨_, q1⟩
    · exact hlC k b (st.kind k b q1 h2)
    · exact xlC k b q1

end
theorem ZoJ (h : Tr AObj) : ∀ (l : List (Nat × Option AObj)) (k : Nat), (Zqb h l).get k = match Zaq k l with | some o => o | none => h.get k
  | [], k => rfl
  | x :: l, k => by
    show ((Zqb h l).set x.1 x.2).get k = _;rw [Tr.get_set];unfold Zaq;by_cases hk : k = x.1
    · subst hk;rw [Zk, Nat.beq_refl];rfl
    · rw [Zf hk, ZoJ h l k, Zi2 (fun e => hk e.symm)];rfl
theorem Zkx {α : Type} {k : Nat} {o : α} : ∀ {l : List (Nat × α)}, Zaq k l = some o → (k, o) ∈ l
  | [], h => by cases h
  | x :: l, h => by
    unfold Zaq at h;cases hb : Nat.beq x.1 k with
    | true =>
      rw [hb] at h;injection h with h
      have := Nat.eq_of_beq_eq_true hb;obtain ⟨a, b⟩ := x;subst this h;exact List.mem_cons_self
    | false =>
      rw [hb] at h;exact List.mem_cons_of_mem _ (Zkx h)
theorem Zra {pre : List (Nat × AObj)} {n n' : Nat} : ∀ {post : List (Nat × Option AObj)}, ZsG pre n n' post = true → ∀ k o, Zaq k post = some o → (Zaq k pre).isSome ∨ (o.isSome ∧ n ≤ k ∧ k < n')
  | [], _, k, o, h => by cases h
  | x :: l, hk, k, o, h => by
    simp only [ZsG, Bool.and_eq_true, Bool.or_eq_true] at hk;unfold Zaq at h;cases hb : Nat.beq x.1 k with
    | true =>
      rw [hb] at h;injection h with h
      have := Nat.eq_of_beq_eq_true hb;subst this h;rcases hk.1 with h1 | ⟨h0, h1, h2⟩
      · exact .inl h1
      · exact .inr ⟨h0, Nat.le_of_ble_eq_true h1, Nat.le_of_ble_eq_true h2⟩
    | false => rw [hb] at h; exact Zra hk.2 k o h
theorem Zmn {s : St} : ∀ (l : List (Nat × AObj)), s.ob <:+ Zqc s l
  | [] => List.suffix_refl _
  | x :: l => (Zmn l).trans (List.suffix_cons _ _)
theorem Zrb {s : St} : ∀ {l : List (Nat × AObj)} {x : Nat × AObj}, x ∈ l → (AObj.sameAs (s.h.get x.1) x.2, true) ∈ Zqc s l
  | y :: l, x, h => by
    rcases List.mem_cons.1 h with rfl | h
    · exact List.mem_cons_self
    · exact List.mem_cons_of_mem _ (Zrb h)
theorem Z04 {o : Option AObj} {p : AObj} (h : AObj.sameAs o p = true) : o = some p := by
  unfold AObj.sameAs at h;split at h
  · rename_i c t c' t';cases hb : Nat.beq t t' with
    | true =>
      rw [hb] at h;rw [Nat.eq_of_beq_eq_true hb, Zao.1 h]
    | false => rw [hb] at h; cases h
  · rename_i c t c' t';cases hb : Nat.beq t t' with
    | true =>
      rw [hb] at h;rw [Nat.eq_of_beq_eq_true hb, Zao.1 h]
    | false => rw [hb] at h; cases h
  · rw [Zao.1 h]
  · rw [Zao.1 h]
  · cases h
theorem Z4u {S : Array Value → List (Nat × AObj) → Value → List (Nat × Option AObj) → Nat → Nat → Prop} {args : Array Value} {pre : List (Nat × AObj)} {u v : Value} {post : List (Nat × Option AObj)} {dn : Nat} {s s' : St} (h : Zqd S args pre u post dn s = some (v, s')) : Up s s' := by
  unfold Zqd at h;replace h := (Zl h).2;injection h with h
  injection h with h1 h2;subst h1 h2
  refine ⟨Nat.le_add_right _ _, (Zmn pre).trans (List.suffix_cons _ _), _, rfl, fun k hk _ => ?_⟩;show (Zqb s.h post).get k = _;rw [ZoJ];cases hl : Zaq k post with
  | none => rfl
  | some o => exact absurd (List.mem_map.2 ⟨_, Zkx hl, rfl⟩) hk
theorem Zyh {S : Array Value → List (Nat × AObj) → Value → List (Nat × Option AObj) → Nat → Nat → Prop} {args : Array Value} {pre : List (Nat × AObj)} {u v : Value} {post : List (Nat × Option AObj)} {dn : Nat} {s s' : St} (h : ZxI S args pre u post dn s = some (v, s')) : Zc4 u = false ∧ Zqd S args pre u post dn s = some (v, s') := by
  unfold ZxI at h;split at h
  · cases h
  · exact ⟨by assumption, h⟩
theorem Z54 {S : Array Value → List (Nat × AObj) → Value → List (Nat × Option AObj) → Nat → Nat → Prop} {args : Array Value} {pre : List (Nat × AObj)} {u v : Value} {post : List (Nat × Option AObj)} {dn : Nat} {s s' : St} (h : ZxI S args pre u post dn s = some (v, s')) : Up s s' := Z4u (Zyh h).2
theorem Z05 {P : Program} {f : FuncId} {S : Array Value → List (Nat × AObj) → Value → List (Nat × Option AObj) → Nat → Nat → Prop} (hS : ∀ args pre v post n dn, S args pre v post n dn → Zb3 P f args pre v post n dn) {args args' : Array Value} {pre : List (Nat × AObj)} {u v : Value} {post : List (Nat × Option AObj)} {dn : Nat} {s s' : St} (h : Zqd S args pre u post dn s = some (v, s')) (ho : ∀ p ∈ s'.ob, p.1 = p.2)
    {ι : Ren} {w : World} (ha : VRs ι args args') (he : Emb P ι s.h.get w) (hf : Fresh ι s.n s'.n) : v = u ∧ Calls P f args' w fun e w' => Zx4 P ι s w v s' e w' ∨ (Zc4 v = true ∧ ∃ ι', e = .panicked (Zi6 v) ∧ Step P ι s.h.get w ι' s'.h.get w' ∧ Dom ι ι' s.n s'.n) := by
  unfold Zqd at h;obtain ⟨hg, h⟩ := Zl h;simp only [Bool.and_eq_true] at hg;injection h with h
  injection h with h1 h2;subst h1 h2
  have hc := hS _ _ _ _ _ _ (Zao.1 (ho _ List.mem_cons_self));have hpre : ∀ k o, Zaq k pre = some o → s.h.get k = some o := fun k o hk => Z04 (ho (AObj.sameAs (s.h.get k) o, true) (List.mem_cons_of_mem _ (Zrb (x := (k, o)) (Zkx hk))))
  let x : AH := fun k => if (Zaq k pre).isSome then none else s.h.get k
  have hx : ∀ k, (x k).isSome → (fun k => Zaq k pre) k = none := fun k hk => by
    show Zaq k pre = none;cases hl : Zaq k pre with
    | none => rfl
    | some o => simp [x, hl] at hk
  have e1 : join (fun k => Zaq k pre) x = s.h.get := funext fun k => by
    cases hl : Zaq k pre with
    | none => rw [ZbU hl]; simp [x, hl]
    | some o => rw [ZdZ (h := fun k => Zaq k pre) (by simp [hl])]; simp only [hl]; exact (hpre k o hl).symm
  have e2 : join (behind pre post) x = (Zqb s.h post).get := funext fun k => by
    rw [ZoJ];cases hl : Zaq k post with
    | some o =>
      cases o with
      | some o =>
        have hb : behind pre post k = some o := by unfold behind; rw [hl]
        rw [ZdZ (by rw [hb]; rfl), hb]
      | none =>
        have hb : behind pre post k = none := by unfold behind; rw [hl]
        rw [ZbU hb];rcases Zra hg.1 k none hl with h1 | ⟨h1, _⟩
        · simp [x, h1]
        · cases h1
    | none =>
      have hb : behind pre post k = Zaq k pre := by unfold behind; rw [hl]
      cases hp : Zaq k pre with
      | none => rw [ZbU (by rw [hb, hp])]; simp [x, hp]
      | some o => rw [ZdZ (by rw [hb, hp]; rfl), hb, hp]; exact (hpre k o hp).symm
  refine ⟨rfl, (hc ι w args' ha (he.sub fun k o hk => hpre k o hk) hf).mono ?_⟩
  rintro e w' (⟨v', ι', rfl, g1, g2, g3⟩ | ⟨ht, ι', rfl, g1, g2⟩)
  · have := g1.framed (x := x) (by rw [e1]; exact he) hx;rw [e1, e2] at this;exact .inl ⟨v', ι', rfl, this, g2, g3⟩
  · have := g1.framed (x := x) (by rw [e1]; exact he) hx;rw [e1, e2] at this;exact .inr ⟨ht, ι', rfl, this, g2⟩
theorem Z2y {P : Program} {f : FuncId} {S : Array Value → List (Nat × AObj) → Value → List (Nat × Option AObj) → Nat → Nat → Prop} (hS : ∀ args pre v post n dn, S args pre v post n dn → Zb3 P f args pre v post n dn) {args args' : Array Value} {pre : List (Nat × AObj)} {u v : Value} {post : List (Nat × Option AObj)} {dn : Nat} {s s' : St} (h : ZxI S args pre u post dn s = some (v, s')) (ho : ∀ p ∈ s'.ob, p.1 = p.2)
    {ι : Ren} {w : World} (ha : VRs ι args args') (he : Emb P ι s.h.get w) (hf : Fresh ι s.n s'.n) : Calls P f args' w (Zx4 P ι s w v s') := by
  obtain ⟨h1, h2⟩ := Zyh h;obtain ⟨rfl, h3⟩ := Z05 hS h2 ho ha he hf;refine h3.mono ?_
  rintro e w' (h4 | ⟨h4, _⟩)
  · exact h4
  · rw [h1] at h4; cases h4
theorem Zjl (hup : ∀ (f : Nat) (g : Array Value → St → Out), ext f = some (.hp g) → ∀ args s v s', g args s = some (v, s') → Up s s') : ∀ fu : Nat, (∀ nt c T s e T' s', Zbc P ext nt fu c T s = some (e, T', s') → Up s s') ∧ (∀ nt ops l T s T' s', ZhF P ext nt fu ops l T s = some (T', s') → Up s s') ∧
    (∀ ρ o s v s', Zi1 P ext fu ρ o s = some (v, s') → Up s s') ∧ (∀ f args s v s', ZhG P ext fu f args s = some (v, s') → Up s s') ∧ (∀ nt ops done l T s es T' s', Ze0 P ext nt fu ops done l T s = some (es, T', s') → Up s s') ∧ (∀ xs ρ o s v s' r, ZjV P ext fu xs ρ o s = some (v, s', r) → Up s s') := by
  intro fu
  induction fu with
  | zero => exact ⟨fun _ _ _ _ _ _ _ h => by simp [Zbc] at h, fun _ _ _ _ _ _ _ h => by simp [ZhF, St.keep_eq] at h, fun _ _ _ _ _ h => by simp [Zi1] at h, fun _ _ _ _ _ h => by simp [ZhG] at h, fun _ _ _ _ _ _ _ _ _ h => by simp [Ze0, St.keep_eq] at h, fun _ _ _ _ _ _ _ h => by simp [ZjV] at h⟩
  | succ fu ih =>
    obtain ⟨ihC, ihO, ihP, ihF, ihD, ihE⟩ := ih;refine ⟨fun nt c T s e T' s' h => ?_, fun nt ops l T s T' s' h => ?_, fun ρ o s v s' h => ?_, fun f args s v s' h => ?_, fun nt ops done l T s es T' s' h => ?_, fun xs ρ o s v s' r h => ?_⟩
    · cases c <;> simp only [Zbc] at h
      case skip => injection h with h; simp only [Prod.mk.injEq] at h; obtain ⟨_, _, rfl⟩ := h; exact Up.refl _
      case label l => injection h with h; simp only [Prod.mk.injEq] at h; obtain ⟨_, _, rfl⟩ := h; exact Up.refl _
      case scope c => exact ihC _ _ _ _ _ _ _ h
      case ret => injection h with h; simp only [Prod.mk.injEq] at h; obtain ⟨_, _, rfl⟩ := h; exact Up.refl _
      case exit id => injection h with h; simp only [Prod.mk.injEq] at h; obtain ⟨_, _, rfl⟩ := h; exact Up.refl _
      case seq a b =>
        split at h
        · exact (ihC _ _ _ _ _ _ _ (by assumption)).trans (ihC _ _ _ _ _ _ _ h)
        · injection h with h; simp only [Prod.mk.injEq] at h; obtain ⟨_, _, rfl⟩ := h; exact ihC _ _ _ _ _ _ _ (by assumption)
        · injection h with h; simp only [Prod.mk.injEq] at h; obtain ⟨_, _, rfl⟩ := h; exact ihC _ _ _ _ _ _ _ (by assumption)
        · cases h
      case cond x a b =>
        split at h
        · split at h
          · exact ihC _ _ _ _ _ _ _ h
          · exact ihC _ _ _ _ _ _ _ h
        · cases h
      case block id a =>
        split at h
        · rename_i i T1 s1 h1;cases hb : Nat.beq i id <;> rw [hb] at h <;> (injection h with h; simp only [Prod.mk.injEq] at h; obtain ⟨_, _, rfl⟩ := h; exact ihC _ _ _ _ _ _ _ (by assumption))
        · injection h with h; simp only [Prod.mk.injEq] at h; obtain ⟨_, _, rfl⟩ := h; exact ihC _ _ _ _ _ _ _ (by assumption)
        · injection h with h; simp only [Prod.mk.injEq] at h; obtain ⟨_, _, rfl⟩ := h; exact ihC _ _ _ _ _ _ _ (by assumption)
        · cases h
      case loop a =>
        split at h
        · exact (ihC _ _ _ _ _ _ _ (by assumption)).trans (ihC _ _ _ _ _ _ _ h)
        · injection h with h; simp only [Prod.mk.injEq] at h; obtain ⟨_, _, rfl⟩ := h; exact ihC _ _ _ _ _ _ _ (by assumption)
        · injection h with h; simp only [Prod.mk.injEq] at h; obtain ⟨_, _, rfl⟩ := h; exact ihC _ _ _ _ _ _ _ (by assumption)
        · cases h
      case region id ops draw =>
        cases draw with
        | true =>
          simp only [cond_true] at h;split at h
          · injection h with h; simp only [Prod.mk.injEq] at h; obtain ⟨_, _, rfl⟩ := h; exact ihD _ _ _ _ _ _ _ _ _ (by assumption)
          · cases h
        | false =>
          simp only [cond_false] at h;split at h
          · injection h with h; simp only [Prod.mk.injEq] at h; obtain ⟨_, _, rfl⟩ := h; exact ihO _ _ _ _ _ _ _ (by assumption)
          · cases h
      all_goals cases h
    · cases l with
      | nil => simp only [ZhF, St.keep_eq] at h; injection h with h; simp only [Prod.mk.injEq] at h; obtain ⟨_, rfl⟩ := h; exact Up.refl _
      | cons o l =>
        simp only [ZhF, St.keep_eq] at h;replace h := (Zl h).2;split at h
        · split at h
          · exact (Zge (by assumption)).trans ((ihP _ _ _ _ _ (by assumption)).trans (ihO _ _ _ _ _ _ _ h))
          · cases h
        · exact (Zge (by assumption)).trans (ihO _ _ _ _ _ _ _ h)
        · cases h
    · simp only [Zi1] at h;split at h
      · split at h
        · split at h
          · split at h
            · exact (ZA (by assumption)).trans (Z2t h)
            · cases h
            · exact (ZA (by assumption)).trans (Z3x h)
          · exact Z51 h
          · exact hup _ _ (by assumption) _ _ _ _ h
          · split at h
            · exact (ZA (by assumption)).trans (Z54 h)
            · cases h
          · exact up_fn h
          · exact ihF _ _ _ _ _ h
        · cases h
      · split at h
        · rename_i v1 s1 h1;injection h with h
          exact (Z6f h1).trans (Z14 h)
        · cases h
    · simp only [ZhG] at h;split at h
      · split at h
        · replace h := (Zl h).2;split at h
          · cases h
          · split at h
            · injection h with h; simp only [Prod.mk.injEq] at h; obtain ⟨_, rfl⟩ := h; exact ihC _ _ _ _ _ _ _ (by assumption)
            · injection h with h; simp only [Prod.mk.injEq] at h; obtain ⟨_, rfl⟩ := h; exact ihC _ _ _ _ _ _ _ (by assumption)
            · cases h
          · cases h
        · cases h
      · cases h
    · cases l with
      | nil => simp only [Ze0, St.keep_eq] at h; injection h with h; simp only [Prod.mk.injEq] at h; obtain ⟨_, _, rfl⟩ := h; exact Up.refl _
      | cons o l =>
        simp only [Ze0, St.keep_eq] at h;replace h := (Zl h).2;split at h
        · split at h
          · replace h := (Zl h).2;exact (Zge (by assumption)).trans ((ihE _ _ _ _ _ _ _ (by assumption)).trans (ihD _ _ _ _ _ _ _ _ _ h))
          · cases h
        · replace h := (Zl h).2;exact (Zge (by assumption)).trans (ihD _ _ _ _ _ _ _ _ _ h)
        · cases h
    · simp only [ZjV] at h;split at h
      · split at h
        · rename_i v1 s1 h1;obtain ⟨hg, h⟩ := Zl h;injection h with h; simp only [Prod.mk.injEq] at h; obtain ⟨_, rfl, _⟩ := h
          have u := ihP _ _ _ _ _ h1;obtain ⟨l, e1, e2⟩ := u.log;simp only [List.append_nil] at e1;refine ⟨u.n, u.ob, l, by rw [e1], fun k hk hn => ?_⟩;show (Zft _ _ _).get k = _;rw [ZdY];split
          · rfl
          · rename_i hm;rw [e2 k hk hn];show (Zft _ _ _).get k = _;rw [ZdY, if_neg hm]
        · cases h
      · replace h := (Zl h).2;generalize (Zh6 s ρ o).1 = w at h;generalize (Zh6 s ρ o).2 = t at h;generalize Zmi ρ o = q at h;split at h
        · rename_i v1 s1 h1;obtain ⟨hg, h⟩ := Zl h;injection h with h; simp only [Prod.mk.injEq] at h; obtain ⟨_, rfl, _⟩ := h
          have u := ihP _ _ _ _ _ h1;obtain ⟨l, e1, e2⟩ := u.log;simp only [List.append_nil] at e1;refine ⟨u.n, u.ob, l, by rw [e1], fun k hk hn => ?_⟩;show (Tr.set _ _ _).get k = _;rw [Tr.get_set];by_cases hkn : k = s.n
          · subst hkn;rw [Zk];have hn' : ¬ s.n < s1.n := fun e => hn ⟨Nat.le_refl _, e⟩;have : s1.n = s.n := by have := u.n; simp only at this; omega
            rw [Zkv this];rfl
          · rw [Zf hkn];cases w with
            | false => rfl
            | true =>
              simp only [cond_true];rw [ZdY];split
              · rename_i hm;rw [e2 k hk hn, Zlg, if_pos (List.mem_append_left _ hm)]
              · rfl
        · cases h
end
section
variable {P : Program} {ext : FuncId → Option Ext}

def Ex.out : Ex → Exit
 | .normal => .normal
 | .exit id => .exit id
 | .ret => .ret
def TR (ι : Ren) (nt : Nat) (D : List Deferred) (T : Tr Value) (a : Act) : Prop := a.tmps.size = nt ∧ a.defers = D ∧ ∀ t, VR ι ((T.get t).getD undef) (a.tmps.getD t undef)
theorem TR.on {ι ι' : Ren} {nt : Nat} {D : List Deferred} {T : Tr Value} {a : Act} (h : TR ι nt D T a) (hi : ∀ k b, ι k = some b → ι' k = some b) : TR ι' nt D T a := ⟨h.1, h.2.1, fun t => (h.2.2 t).ext hi⟩
theorem VR.undef' {ι : Ren} : VR ι undef undef := VR.of_free rfl
theorem TR.put {ι : Ren} {nt : Nat} {D : List Deferred} {T : Tr Value} {a : Act} (h : TR ι nt D T a) {dst : Option Tmp} (hd : ZmZ nt dst = true) {v v' : Value} (hv : VR ι v v') : TR ι nt D (Zi0 T dst v) (a.put dst v') := by
 cases dst with
 | none => exact h
 | some d =>
  have hlt : d < a.tmps.size := by rw [h.1];simpa [ZmZ, Nat.blt_eq] using hd
  refine ⟨by simp [Act.put, h.1], h.2.1, fun t => ?_⟩;simp only [Zi0, Tr.get_set, Act.put];by_cases ht : t = d
  ·subst ht
   rw [Zk];simp [Array.getD, hlt];exact hv
  ·rw [Zf ht]
   have : (a.tmps.setIfInBounds d v').getD t undef = a.tmps.getD t undef := by simp [Array.getD_eq_getD_getElem?, Array.getElem?_setIfInBounds_ne (fun e => ht e.symm)]
   rw [this];exact h.2.2 t
def Zg2 (a : Act) : Operand → Value
 | .const v => bif free v then v else undef
 | x => a.eval x
theorem TR.opnd {ι : Ren} {nt : Nat} {D : List Deferred} {T : Tr Value} {a : Act} (h : TR ι nt D T a) (x : Operand) : VR ι (Ev.opnd T x) (Zg2 a x) := by
 cases x with
 | tmp t => exact h.2.2 t
 | const v =>
  simp only [Ev.opnd, Zg2];cases hf : free v
  ·exact VR.undef'
  ·exact VR.of_free hf
 | global g => exact .glob rfl
 | func f => exact .atom rfl
theorem Z3y {a : Act} {o : Oper} (hs : ∀ cs b, o.op ≠ .select cs b) (hg : Zu ZlV o.op.operands.toList = true) : execOp (Zg2 a) o = execOp a.eval o :=
 execOp_congr o hs fun x hx => by
  have := Zaf hg x (by simpa using hx);cases x with
  | const v =>
   simp only [ZlV] at this;simp [Zg2, this, Act.eval]
  | _ => rfl
theorem Zni {a : Act} {x : Operand} {t : Bool} (h : Zg2 a x = .bool t) : a.eval x = .bool t := by
 cases x with
 | const v =>
  simp only [Zg2] at h;cases hf : free v <;> rw [hf] at h
  ·simp [undef] at h
  ·exact h
 | _ => exact h
theorem Zky {ι : Ren} {T : Tr Value} {a : Act} {ops : Array Oper} {o : Oper} {s s' : St} {b : Bool} (h : ∀ t ∈ o.looksAt ops, VR ι ((T.get t).getD undef) (a.tmps.getD t undef)) (hw : Zh5 ops T o s = some (b, s')) :
  Region.wanted o (yielded ops a.tmps) = b ∧ s'.h = s.h ∧ s'.n = s.n := by
 unfold Zh5 at hw;unfold Region.wanted;split at hw
 ·rename_i hg
  injection hw with hw; injection hw with h1 h2; subst h1 h2
  rw [hg];exact ⟨rfl, rfl, rfl⟩
 ·rename_i j want hg
  rw [hg];simp only;split at hw
  ·rename_i d hd
   have hv := h d (by unfold Oper.looksAt; rw [hg]; simp [hd]);split at hw
   ·rename_i q hq
    rw [hq] at hv;have hv' := hv.bool_inv;have hget : a.tmps[d]? = some (.bool q) := by
     simp only [Array.getD_eq_getD_getElem?] at hv';cases hx : a.tmps[d]? with
     | none => rw [hx] at hv'; simp [undef] at hv'
     | some u => rw [hx] at hv'; simpa using hv'
    have hy : yielded ops a.tmps j = some q := by unfold yielded;rw [hd];simp [hget]
    rw [hy];injection hw with hw; injection hw with h1 h2; subst h1 h2
    exact ⟨by cases q <;> cases want <;> rfl, rfl, rfl⟩
   ·rename_i u hq
    injection hw with hw; injection hw with h1 h2; subst h1 h2
    rw [hq] at hv;refine ⟨?_, rfl, rfl⟩;have hy : yielded ops a.tmps j = none := by
     unfold yielded;rw [hd];simp only [Option.bind_some];split
     ·rename_i c hc
      exfalso;simp only [Array.getD_eq_getD_getElem?, hc, Option.getD_some] at hv;cases hv
     ·rfl
    rw [hy];rfl
   ·cases hw
  ·cases hw
def Zmo (tmps : Array Value) : ResultVar → Sem Value
 | .tmp t => pure (tmps.getD t undef)
 | .cell b t => do loadVar t (← asAddr (tmps.getD b undef))
theorem Zjx {ι : Ren} {nt : Nat} {D : List Deferred} {T : Tr Value} {a : Act} {s : St} {w : World} (h : TR ι nt D T a) (he : Emb P ι s.h.get w) : ∀ (rs : List ResultVar) (l : List Value), Zdd P T s rs = some l →
  ∃ l' : List Value, (rs.mapM (Zmo a.tmps)).run P w = .ok l' w ∧ l.length = l'.length ∧ ∀ (i : Nat) x y, l[i]? = some x → l'[i]? = some y → VR ι x y
 | [], l, hr => by simp only [Zdd, Option.some.injEq] at hr;subst hr;exact ⟨[], by simp [Sem.run], rfl, fun i x y hx => by simp at hx⟩
 | .tmp t :: rs, l, hr => by
  simp only [Zdd] at hr;split at hr
  ·rename_i r hr'
   injection hr with hr;subst hr
   obtain ⟨l', h1, h2, h3⟩ := Zjx h he rs r hr';refine ⟨a.tmps.getD t undef :: l', ?_, by simp [h2], fun i x y hx hy => ?_⟩
   ·have e0 : (Zmo a.tmps (.tmp t)).run P w = .ok (a.tmps.getD t undef) w := rfl
    simp only [List.mapM_cons, Sem.run_bind, e0, Result.andThen, h1];rfl
   ·cases i with
    | zero => simp at hx hy; subst hx hy; simpa using h.2.2 t
    | succ i => exact h3 i x y (by simpa using hx) (by simpa using hy)
  ·cases hr
 | .cell b t :: rs, l, hr => by
  simp only [Zdd] at hr;split at hr
  ·rename_i k o hb
   split at hr
   ·rename_i u r hu hr'
    injection hr with hr;subst hr
    obtain ⟨l', h1, h2, h3⟩ := Zjx h he rs r hr';obtain ⟨bk, v', hbk, hrun, hv⟩ := ZnG he hu;have hp := h.2.2 b;rw [hb] at hp;obtain ⟨bk', hbk', hp'⟩ := hp.ptr_inv;rw [hbk] at hbk'; injection hbk' with hbk'; subst hbk'
    refine ⟨v' :: l', ?_, by simp [h2], fun i x y hx hy => ?_⟩
    ·have e0 : (Zmo a.tmps (.cell b t)).run P w = .ok v' w := by simp [Zmo, hp', asAddr, hrun, -Array.getD_eq_getD_getElem?]
     simp only [List.mapM_cons, Sem.run_bind, e0, Result.andThen, h1];rfl
    ·cases i with
     | zero => simp at hx hy; subst hx hy; exact hv
     | succ i => exact h3 i x y (by simpa using hx) (by simpa using hy)
   ·cases hr
  ·cases hr
theorem Zl7 {ι : Ren} {nt : Nat} {D : List Deferred} {T : Tr Value} {a : Act} {s : St} {w : World} {fn : Func} {v : Value} (h : TR ι nt D T a) (he : Emb P ι s.h.get w)
  (hr : (match Zdd P T s fn.results.toList with | some [v] => some v | some vs => some (.tuple vs.toArray) | none => none) = some v) : ∃ v', (results fn a.tmps).run P w = .ok v' w ∧ VR ι v v' := by
 have hR : results fn a.tmps = (do let vs ← fn.results.mapM (Zmo a.tmps); pure (if h : vs.size = 1 then vs[0] else .tuple vs)) := rfl;cases hx : Zdd P T s fn.results.toList with
 | none => rw [hx] at hr; cases hr
 | some l =>
  rw [hx] at hr;obtain ⟨l', h1, h2, h3⟩ := Zjx h he fn.results.toList l hx;have hA : (fn.results.mapM (Zmo a.tmps)).run P w = .ok l'.toArray w := by rw [Array.mapM_eq_mapM_toList];simp [h1]
  rw [hR];rcases l with _ | ⟨x, _ | ⟨y, l⟩⟩
  ·injection hr with hr
   subst hr;have : l' = [] := List.eq_nil_of_length_eq_zero (by simpa using h2.symm);subst this;exact ⟨.tuple #[], by simp [hA], .tuple rfl fun i x y hx => by simp at hx⟩
  ·injection hr with hr
   subst hr;rcases l' with _ | ⟨x', _ | ⟨y', l'⟩⟩
   ·simp at h2
   ·exact ⟨x', by simp [hA], h3 0 x x' rfl rfl⟩
   ·simp at h2
  ·injection hr with hr
   subst hr;have hne : ¬ l'.length = 1 := by simp at h2; omega
   exact ⟨.tuple l'.toArray, by simp [hA, hne], .tuple (by simpa using h2) fun i x y hx hy => h3 i x y (by simpa using hx) (by simpa using hy)⟩
end
section
variable {P : Program} {ext : FuncId → Option Ext}

theorem Zg3 {f : FuncId} {fn : Func} {c : Code} (hf : P.funcs[f]? = some fn) (hn : (fn.name == "runtime.NumGoroutine") = false) (hb : fn.body = some c) (args : Array Value) (w : World) :
  (callFunc f args).run P w = .ok (.enter f args) w := by
 have h1 : fn.name ≠ "runtime.NumGoroutine" := by simpa using hn
 simp [callFunc, hf, h1, hb]
theorem Z2z (F : Fit P ext) {f n : Nat} (hx : ext f = some (.mark n)) {ι : Ren} {w : World} {s s' : St} {args args' : Array Value} {v : Value} (ha : VRs ι args args') (he : Emb P ι s.h.get w) (h : Zo4 n args s = some (v, s')) :
  Res P ((callFunc f args').run P w) s ι w v s' := by
 simp [Zo4] at h
theorem ZoK (F : Fit P ext) {f e : Nat} {kk : IntKind} (hx : ext f = some (.at kk e)) {ι : Ren} {w : World} {s s' : St} {args args' : Array Value} {v : Value} (ha : VRs ι args args') (he : Emb P ι s.h.get w) (ho : ∀ p ∈ s'.ob, p.1 = p.2) (h : Ziz kk e args s = some (v, s')) :
  Res P ((callFunc f args').run P w) s ι w v s' := by
 simp [Ziz] at h
theorem Z20 {kk : IntKind} {e : Nat} {args : Array Value} {z : Int} {c' : List Value} {s s' : St} {v : Value} (hob : ∀ p ∈ s'.ob, p.1 = p.2) (h : Zjf kk e args z c' s = some (v, s')) (hw : s.orc.w = s.orc.w) :
  ∃ s0 s1, Ziz kk e args s0 = some (v, s1) ∧ s0.h = s.h ∧ s0.n = s.n ∧ s'.h = s1.h ∧ s'.n = s1.n ∧ ∀ p ∈ s1.ob, p.1 = p.2 := by
 simp [Zjf] at h
end
noncomputable section
section
variable {P : Program} {ext : FuncId → Option Ext}

/-! ### What an operation turns -/
def Dk (r : Rec) (k : Nat) : Bool := (r.w && Zo7 k r.t) || (Nat.ble r.n0 k && Nat.blt k r.n1)
def Kof (e : Ent) : AH := if e.r.small then (Zlb e.s.h (e.r.t ++ e.r.q)).get else (Zft .nil e.r.q e.s.h).get
def Zyi (e : Ent) : AH := fun k => if Dk e.r k then e.s'.h.get k else Kof e k
theorem Zkz {k : Nat} : ∀ {l : List Nat}, Zo7 k l = true ↔ k ∈ l
 | [] => by simp [Zo7]
 | x :: l => by
  simp only [Zo7, Bool.or_eq_true, List.mem_cons, Zkz (l := l)];constructor
  ·rintro (h | h)
   ·exact .inl (Nat.eq_of_beq_eq_true h)
   ·exact .inr h
  ·rintro (h | h)
   ·exact .inl (Zkv h)
   ·exact .inr h
theorem Zdq {a b : List Nat} (h : ZhD a b = true) {k : Nat} (ha : k ∈ a) (hb : k ∈ b) : False := by have := Zaf h k ha;rw [Zkz.2 hb] at this;cases this
theorem ZfF {n0 n1 : Nat} {l : List Nat} (h : Zmj n0 n1 l = true) {k : Nat} (hk : k ∈ l) (h1 : n0 ≤ k) (h2 : k < n1) : False := by have := Zaf h k hk;rw [Nat.ble_eq_true_of_le h1, show Nat.blt k n1 = true from Nat.ble_eq_true_of_le h2] at this;cases this
theorem ZeW {r : Rec} {k : Nat} : Dk r k = true ↔ (r.w = true ∧ k ∈ r.t) ∨ (r.n0 ≤ k ∧ k < r.n1) := by
 unfold Dk;simp only [Bool.or_eq_true, Bool.and_eq_true, Zkz];constructor
 ·rintro (h | ⟨h1, h2⟩)
  ·exact .inl h
  ·exact .inr ⟨Nat.le_of_ble_eq_true h1, Nat.le_of_ble_eq_true h2⟩
 ·rintro (h | ⟨h1, h2⟩)
  ·exact .inl h
  ·exact .inr ⟨Nat.ble_eq_true_of_le h1, Nat.ble_eq_true_of_le h2⟩
structure ZsT (r : Rec) : Prop where
 lt : ∀ k ∈ r.t, k < r.n0
 ltq : ∀ k ∈ r.q, k < r.n0
 le : r.n0 ≤ r.n1
 big : r.small = false → r.w = true
 qt : r.small = false → ∀ k ∈ r.t, k ∉ r.q
def Zyj (a b : Rec) : Prop := (a.small = true → ∀ k ∈ a.t ++ a.q, Dk b k = false) ∧ (a.small = false → ∀ k, k < a.n0 → k ∉ a.q → Dk b k = false)
theorem Z06 {a b : Rec} (h : ZsH a b = true) (ha : ZsT a) (hb : ZsT b) (hab : a.n1 ≤ b.n0) : Zyj a b ∧ Zyj b a ∧ ∀ k, Dk a k = true → Dk b k = true → False := by
 have la := ha.le;have lb := hb.le;unfold ZsH at h;have nd : ∀ {r : Rec} {k : Nat}, ¬ ((r.w = true ∧ k ∈ r.t) ∨ (r.n0 ≤ k ∧ k < r.n1)) → Dk r k = false := fun {r k} hn => by
  cases hd : Dk r k
  ·rfl
  ·exact absurd (ZeW.1 hd) hn
 split at h
 ·rename_i h1 h2
  simp only [Bool.and_eq_true, Bool.or_eq_true] at h;obtain ⟨⟨hw, hn⟩, ⟨hq1, hq2⟩, hnq⟩ := h;have conf : ∀ k, k ∈ a.t → k ∈ b.t → a.w = true ∨ b.w = true → False := fun k k1 k2 k3 => by
   rcases hw with hw | hw
   ·rcases k3 with k3 | k3 <;> rw [k3] at hw <;> simp at hw
   ·exact Zdq hw k1 k2
  refine ⟨⟨fun _ k hk => nd ?_, fun e => absurd (h1.symm.trans e) (by decide)⟩, ⟨fun _ k hk => nd ?_, fun e => absurd (h2.symm.trans e) (by decide)⟩, fun k k1 k2 => ?_⟩
  ·rcases List.mem_append.1 hk with hk | hk
   ·rintro (⟨q1, q2⟩ | ⟨q1, q2⟩)
    ·exact conf k hk q2 (.inr q1)
    ·have := ha.lt k hk; omega
   ·rintro (⟨q1, q2⟩ | ⟨q1, q2⟩)
    ·rcases hq1 with h | h
     ·rw [q1] at h; simp at h
     ·exact Zdq h hk q2
    ·have := ha.ltq k hk; omega
  ·rcases List.mem_append.1 hk with hk | hk
   ·rintro (⟨q1, q2⟩ | ⟨q1, q2⟩)
    ·exact conf k q2 hk (.inl q1)
    ·exact ZfF hn hk q1 q2
   ·rintro (⟨q1, q2⟩ | ⟨q1, q2⟩)
    ·rcases hq2 with h | h
     ·rw [q1] at h; simp at h
     ·exact Zdq h q2 hk
    ·exact ZfF hnq hk q1 q2
  ·rcases ZeW.1 k1 with ⟨q1, q2⟩ | ⟨q1, q2⟩ <;> rcases ZeW.1 k2 with ⟨r1, r2⟩ | ⟨r1, r2⟩
   ·exact conf k q2 r2 (.inl q1)
   ·have := ha.lt k q2; omega
   ·exact ZfF hn r2 q1 q2
   ·omega
 ·rename_i h1 h2
  simp only [Bool.and_eq_true, Bool.not_eq_true', Bool.or_eq_true] at h;obtain ⟨⟨⟨hw, hn⟩, hap⟩, haq⟩ := h;have na : ∀ k, Dk a k = true → (k ∈ b.q ∧ a.n0 ≤ k ∧ k < a.n1 ∧ k ∉ b.t) := fun k hd => by
   rcases ZeW.1 hd with ⟨q1, q2⟩ | ⟨q1, q2⟩
   ·rw [hw] at q1; cases q1
   ·rcases hn with hn | ⟨⟨h3, h4⟩, h5⟩
    ·have := Nat.eq_of_beq_eq_true hn; omega
    ·have h4 := Nat.le_of_ble_eq_true h4
     obtain rfl : k = a.n0 := by omega
     exact ⟨Zkz.1 h3, q1, q2, fun hb => ZfF h5 hb q1 q2⟩
  have nb : ∀ k, k ∉ b.q → Dk a k = false := fun k hk => by
   cases hd : Dk a k
   ·rfl
   ·exact absurd (na k hd).1 hk
  refine ⟨⟨fun _ k hk => nd ?_, fun e => absurd (h1.symm.trans e) (by decide)⟩, ⟨fun e => absurd (h2.symm.trans e) (by decide), fun _ k _ hk => nb k hk⟩, fun k k1 k2 => ?_⟩
  rotate_left
  ·obtain ⟨_, q1, q2, q3⟩ := na k k1
   rcases ZeW.1 k2 with ⟨_, r2⟩ | ⟨r1, r2⟩
   ·exact q3 r2
   ·omega
  rcases List.mem_append.1 hk with hk | hk
  ·rintro (⟨q1, q2⟩ | ⟨q1, q2⟩)
   ·exact Zdq hap hk q2
   ·have := ha.lt k hk; omega
  ·rintro (⟨q1, q2⟩ | ⟨q1, q2⟩)
   ·exact Zdq haq hk q2
   ·have := ha.ltq k hk; omega
 ·rename_i h1 h2
  simp only [Bool.and_eq_true, Bool.not_eq_true'] at h;obtain ⟨⟨⟨hw, hap⟩, hn⟩, haq, hnq⟩ := h;refine ⟨⟨fun e => absurd (h1.symm.trans e) (by decide), fun _ k hk _ => nd ?_⟩, ⟨fun _ k hk => nd ?_, fun e => absurd (h2.symm.trans e) (by decide)⟩, fun k k1 k2 => ?_⟩
  ·rintro (⟨q1, q2⟩ | ⟨q1, q2⟩)
   ·rw [hw] at q1; cases q1
   ·omega
  ·rcases List.mem_append.1 hk with hk | hk
   ·rintro (⟨q1, q2⟩ | ⟨q1, q2⟩)
    ·exact Zdq hap q2 hk
    ·exact ZfF hn hk q1 q2
   ·rintro (⟨q1, q2⟩ | ⟨q1, q2⟩)
    ·exact Zdq haq q2 hk
    ·exact ZfF hnq hk q1 q2
  ·rcases ZeW.1 k2 with ⟨r1, r2⟩ | ⟨r1, r2⟩
   ·rw [hw] at r1; cases r1
   ·rcases ZeW.1 k1 with ⟨q1, q2⟩ | ⟨q1, q2⟩
    ·have := ha.lt k q2; omega
    ·omega
 ·cases h
end
end
section
variable {P : Program} {ext : FuncId → Option Ext}

structure EntOk (P : Program) (ext : FuncId → Option Ext) (nt fu : Nat) (ops : Array Oper) (before : List Ent) (T T' : Tr Value) (s s' : St) (e : Ent) : Prop where
 eT : e.T = T
 eT' : T' = Zi0 T e.o.dst e.v
 es' : s' = e.s'
 dst : ZmZ nt e.o.dst = true
 good : Zu ZlV e.o.op.operands.toList = true
 edges : Zmk before.length e.o.after.toList = true
 em : e.m = Zde before e.o.after.toList
 pairs : Zkb ops e.o e.r e.m 0 before = true
 run : ∃ b, Zh5 ops T e.o s = some (b, e.s) ∧ (b = true → ∃ fu', fu' < fu ∧ ∃ xs, ZjV P ext fu' xs (opnd (Zqe T (ZhE e.o.op.operands.toList))) e.o e.s = some (e.v, e.s', e.r)) ∧ (b = false → e.v = undef ∧ e.s' = e.s ∧ e.r = Zjw e.s)
theorem EntOk.fuel {nt fu fu1 : Nat} {ops : Array Oper} {before : List Ent} {T T' : Tr Value} {s s' : St} {e : Ent} (h : EntOk P ext nt fu ops before T T' s s' e) (hf : fu ≤ fu1) : EntOk P ext nt fu1 ops before T T' s s' e :=
 ⟨h.eT, h.eT', h.es', h.dst, h.good, h.edges, h.em, h.pairs, by obtain ⟨b, h1, h2, h3⟩ := h.run;exact ⟨b, h1, fun hb => (by obtain ⟨fu', h4, h5⟩ := h2 hb; exact ⟨fu', Nat.lt_of_lt_of_le h4 hf, h5⟩), h3⟩⟩
theorem ZsU (nt : Nat) (ops : Array Oper) : ∀ (fu : Nat) (l : List Oper) (done : List Ent) (T : Tr Value) (s : St) (es : List Ent) (T' : Tr Value) (s' : St), Ze0 P ext nt fu ops done l T s = some (es, T', s') →
  ∃ (es2 : List Ent) (σ : Nat → St) (τ : Nat → Tr Value), es = done ++ es2 ∧ es2.map (·.o) = l ∧ σ 0 = s ∧ τ 0 = T ∧ σ l.length = s' ∧ τ l.length = T' ∧
   ∀ (i : Nat) (e : Ent), es2[i]? = some e → EntOk P ext nt fu ops (done ++ es2.take i) (τ i) (τ (i + 1)) (σ i) (σ (i + 1)) e
 | 0, _, _, _, _, _, _, _, h => by simp [Ze0, St.keep_eq] at h
 | fu + 1, [], done, T, s, es, T', s', h => by
  simp only [Ze0, St.keep_eq] at h;injection h with h
  simp only [Prod.mk.injEq] at h;obtain ⟨rfl, rfl, rfl⟩ := h;exact ⟨[], fun _ => s, fun _ => T, by simp, rfl, rfl, rfl, rfl, rfl, fun i e hi => by simp at hi⟩
 | fu + 1, o :: l, done, T, s, es, T', s', h => by
  simp only [Ze0, St.keep_eq] at h;obtain ⟨hg, h⟩ := Zl h;simp only [Bool.and_eq_true] at hg;have go : ∀ (e1 : Ent), EntOk P ext nt (fu + 1) ops done T (Zi0 T e1.o.dst e1.v) s e1.s' e1 → e1.o = o → Ze0 P ext nt fu ops (done ++ [e1]) l (Zi0 T e1.o.dst e1.v) e1.s' = some (es, T', s') →
    ∃ (es2 : List Ent) (σ : Nat → St) (τ : Nat → Tr Value), es = done ++ es2 ∧ es2.map (·.o) = o :: l ∧ σ 0 = s ∧ τ 0 = T ∧ σ (o :: l).length = s' ∧ τ (o :: l).length = T' ∧
     ∀ (i : Nat) (e : Ent), es2[i]? = some e → EntOk P ext nt (fu + 1) ops (done ++ es2.take i) (τ i) (τ (i + 1)) (σ i) (σ (i + 1)) e := fun e1 hok ho hrec => by
   obtain ⟨es2, σ, τ, h1, h2, h3, h4, h5, h6, h7⟩ := ZsU nt ops fu l _ _ _ es T' s' hrec;refine ⟨e1 :: es2, fun i => match i with | 0 => s | i + 1 => σ i, fun i => match i with | 0 => T | i + 1 => τ i, by rw [h1]; simp, by simp [h2, ho], rfl, rfl, by simpa using h5, by simpa using h6, fun i e hi => ?_⟩;cases i with
   | zero =>
    simp at hi;subst hi;simp only [List.take_zero, List.append_nil, h3, h4];exact hok
   | succ i =>
    have := (h7 i e (by simpa using hi)).fuel (Nat.le_succ fu);simpa using this
  split at h
  ·rename_i s1 hw
   split at h
   ·rename_i v s2 r hv
    obtain ⟨hp, h⟩ := Zl h;exact go ⟨o, Zde done o.after.toList, r, T, s1, v, s2⟩ ⟨rfl, rfl, rfl, hg.1.1, hg.1.2, hg.2, rfl, hp, true, hw, fun _ => ⟨fu, Nat.lt_succ_self _, _, hv⟩, (fun e => by cases e)⟩ rfl h
   ·cases h
  ·rename_i s1 hw
   obtain ⟨hp, h⟩ := Zl h;exact go ⟨o, Zde done o.after.toList, Zjw s1, T, s1, undef, s1⟩ ⟨rfl, rfl, rfl, hg.1.1, hg.1.2, hg.2, rfl, hp, false, hw, (fun e => by cases e), fun _ => ⟨rfl, rfl, rfl⟩⟩ rfl h
  ·cases h

/-! ### Which operations stand ahead -/
theorem ZoL {i : Nat} : ∀ {l : List Edge}, Zmk i l = true → ∀ e ∈ l, Region.binds .any e = true → e.on < i
 | [], _, e, he => by cases he
 | d :: l, h, e, he => by
  simp only [Zmk, Bool.and_eq_true, Bool.or_eq_true, Bool.not_eq_true'] at h;rcases List.mem_cons.1 he with rfl | he
  ·intro hb
   rcases h.1 with h1 | h1
   ·rw [hb] at h1; cases h1
   ·exact Nat.le_of_ble_eq_true h1
  ·exact ZoL h.2 e he
theorem Zl8 {before : List Ent} {j : Nat} : ∀ {l : List Edge}, (Zde before l).testBit j = true → ∃ e ∈ l, Region.binds .any e = true ∧ (e.on = j ∨ ∃ d, before[e.on]? = some d ∧ d.m.testBit j = true)
 | [], h => by simp [Zde] at h
 | d :: l, h => by
  simp only [Zde] at h;cases hb : Region.binds .any d with
  | false =>
   rw [hb] at h;obtain ⟨e, h1, h2⟩ := Zl8 (l := l) (by simpa using h);exact ⟨e, List.mem_cons_of_mem _ h1, h2⟩
  | true =>
   rw [hb] at h;simp only [cond_true, Nat.testBit_or, Bool.or_eq_true] at h;rcases h with (h | h) | h
   ·rw [Nat.testBit_two_pow] at h
    exact ⟨d, by simp, hb, .inl (by simpa using h)⟩
   ·refine ⟨d, by simp, hb, .inr ?_⟩
    split at h
    ·exact ⟨_, by assumption, h⟩
    ·simp at h
   ·obtain ⟨e, h1, h2⟩ := Zl8 (l := l) h
    exact ⟨e, List.mem_cons_of_mem _ h1, h2⟩
theorem ZoM {ops : Array Oper} {o : Oper} {r : Rec} {m : Nat} : ∀ {l : List Ent} {j : Nat}, Zkb ops o r m j l = true → ∀ (i : Nat) (d : Ent), l[i]? = some d → m.testBit (j + i) = true ∨ (Oper.apart ops d.o o = true ∧ ZsH d.r r = true)
 | [], j, _, i, d, hd => by simp at hd
 | x :: l, j, h, i, d, hd => by
  simp only [Zkb, Bool.and_eq_true, Bool.or_eq_true] at h;cases i with
  | zero =>
   simp at hd;subst hd;rcases h.1 with h1 | h1
   ·exact .inl (by simpa using h1)
   ·exact .inr h1
  | succ i =>
   have := ZoM h.2 i d (by simpa using hd);rwa [show j + 1 + i = j + (i + 1) by omega] at this
def Zuk (es : List Ent) (L : Nat → Bool) : Prop := ∀ (i : Nat) (e : Ent), es[i]? = some e → L i = true → ∀ d ∈ e.o.after.toList, Region.binds .any d = true → L d.on = true
theorem Zrc {es : List Ent} {L : Nat → Bool} (hc : Zuk es L) (hm : ∀ (i : Nat) (e : Ent), es[i]? = some e → e.m = Zde (es.take i) e.o.after.toList) {j : Nat} :
  ∀ (i : Nat) (e : Ent), es[i]? = some e → (∀ d ∈ e.o.after.toList, Region.binds .any d = true → L d.on = true) → e.m.testBit j = true → L j = true := by
 intro i
 induction i using Nat.strongRecOn with
 | _ i ih =>
  intro e he hr hb;rw [hm i e he] at hb;obtain ⟨d, hd, hbd, h1 | ⟨x, hx, hxb⟩⟩ := Zl8 hb
  ·rw [← h1]; exact hr d hd hbd
  ·have hlt : d.on < i := by have := (List.getElem?_eq_some_iff.1 hx).1;rw [List.length_take] at this;omega
   rw [List.getElem?_take_of_lt hlt] at hx;exact ih d.on hlt x hx (hc d.on x hx (hr d hd hbd)) hxb
end
noncomputable section
section
variable {β : Type}
def ovf (L D : Nat → Bool) (V : Nat → β) (x0 : β) : Nat → β
  | 0 => x0
  | p + 1 => if L p && D p then V p else ovf L D V x0 p
def ZdJ (L : Nat → Bool) (i : Nat) : Nat → Bool := fun j => if j = i then true else L j
theorem Zlh {L D : Nat → Bool} {V S : Nat → β} (i n : Nat) (hi : i ≤ n) (hS : ∀ p, p < n → S (p + 1) = if D p then V p else S p) (h1 : ∀ p, p < i → L p = false → D p = false) (h2 : ∀ p, i ≤ p → p < n → L p = true → D p = false) :
    ovf L D V (S 0) n = S i := by
  have A : ∀ p, p ≤ i → ovf L D V (S 0) p = S p := by
    intro p
    induction p with
    | zero => intro _; rfl
    | succ p ih =>
      intro hp;rw [ovf, ih (by omega), hS p (by omega)];cases hL : L p with
      | true => simp
      | false => rw [h1 p (by omega) hL]; simp
  have B : ∀ p, i ≤ p → p ≤ n → ovf L D V (S 0) p = S i := by
    intro p
    induction p with
    | zero => intro h _; obtain rfl : i = 0 := by omega
              rfl
    | succ p ih =>
      intro h hp;by_cases he : i = p + 1
      · rw [he]; exact A (p + 1) (by omega)
      · rw [ovf, ih (by omega) (by omega)];cases hL : L p with
        | true => rw [h2 p (by omega) (by omega) hL]; simp
        | false => simp
  exact B n hi (Nat.le_refl _)
theorem Z15 {L D : Nat → Bool} {V : Nat → β} {x0 : β} (i n : Nat) (hi : i < n) (hL : L i = false) (h : ∀ p, i < p → p < n → L p = true → D p = true → D i = false) :
    ovf (ZdJ L i) D V x0 n = if D i then V i else ovf L D V x0 n := by
  have A : ∀ p, p ≤ i → ovf (ZdJ L i) D V x0 p = ovf L D V x0 p := by
    intro p
    induction p with
    | zero => intro _; rfl
    | succ p ih =>
      intro hp;rw [ovf, ovf, ih (by omega)];have : ZdJ L i p = L p := by unfold ZdJ; rw [if_neg (by omega)]
      rw [this]
  have B : ∀ p, i < p → p ≤ n → ovf (ZdJ L i) D V x0 p = if D i then V i else ovf L D V x0 p := by
    intro p
    induction p with
    | zero => intro h _; omega
    | succ p ih =>
      intro hp hn;by_cases he : p = i
      · subst he;rw [ovf, ovf, A p (Nat.le_refl _), hL];have : ZdJ L p p = true := by simp [ZdJ]
        rw [this];simp
      · rw [ovf, ovf, ih (by omega) (by omega)];have : ZdJ L i p = L p := by unfold ZdJ; rw [if_neg he]
        rw [this];cases hLp : L p with
        | false => simp
        | true =>
          cases hD : D p with
          | false => simp
          | true => rw [h p (by omega) (by omega) hLp hD]; simp
  exact B n hi (Nat.le_refl _)
end
section
variable {P : Program} {ext : FuncId → Option Ext}

section
variable (es : List Ent)
def Zl9 (k p : Nat) : Bool := match es[p]? with | some e => Dk e.r k | none => false
def Zyk (k p : Nat) : Option AObj := match es[p]? with | some e => e.s'.h.get k | none => none
def HL (L : Nat → Bool) (s : St) : AH := fun k => ovf L (Zl9 es k) (Zyk es k) (s.h.get k) es.length
def ZoN (t p : Nat) : Bool := match es[p]? with | some e => e.o.dst == some t | none => false
def Zyl (p : Nat) : Option Value := match es[p]? with | some e => some e.v | none => none
def TL (L : Nat → Bool) (T : Tr Value) : Nat → Option Value := fun t => ovf L (ZoN es t) (Zyl es) (T.get t) es.length
end
structure Ctx (P : Program) (ext : FuncId → Option Ext) (nt fu : Nat) (ops : Array Oper) (es : List Ent) (σ : Nat → St) (τ : Nat → Tr Value) : Prop where
  len : es.length = ops.size
  op : ∀ (i : Nat) (e : Ent), es[i]? = some e → ops[i]? = some e.o
  ok : ∀ (i : Nat) (e : Ent), es[i]? = some e → EntOk P ext nt fu ops (es.take i) (τ i) (τ (i + 1)) (σ i) (σ (i + 1)) e
  rok : ∀ (i : Nat) (e : Ent), es[i]? = some e → ZsT e.r ∧ e.r.n0 = (σ i).n ∧ e.r.n1 = (σ (i + 1)).n ∧ (∀ k, Dk e.r k = false → (σ (i + 1)).h.get k = (σ i).h.get k) ∧ e.s.h = (σ i).h
  old : ∀ k, ((σ 0).h.get k).isSome → ¬ ((σ 0).n ≤ k ∧ k < (σ es.length).n)
  sem : ∀ (i : Nat) (e : Ent), es[i]? = some e → ∀ (ι : Ren) (w : World) (a : Act) (K : Act → World → Prop) (Q : Exit → Act → World → Prop), (∀ t ∈ e.o.looksAt ops, VR ι (((τ i).get t).getD undef) (a.tmps.getD t undef)) → Emb P ι (Kof e) w → Fresh ι (σ i).n (σ (i + 1)).n →
    (∀ v' w' ι', Step P ι (Kof e) w ι' (Zyi e) w' → Dom ι ι' (σ i).n (σ (i + 1)).n → VR ι' e.v v' → K (a.put e.o.dst v') w') → wpOp P ops Q i K a w
variable {nt fu : Nat} {ops : Array Oper} {es : List Ent} {σ : Nat → St} {τ : Nat → Tr Value}
theorem Ctx.get (C : Ctx P ext nt fu ops es σ τ) {i : Nat} (hi : i < es.length) : ∃ e, es[i]? = some e := ⟨_, List.getElem?_eq_getElem hi⟩
theorem Ctx.mono (C : Ctx P ext nt fu ops es σ τ) : ∀ {i j : Nat}, i ≤ j → j ≤ es.length → (σ i).n ≤ (σ j).n := by
  intro i j
  induction j with
  | zero => intro h _; obtain rfl : i = 0 := by omega
            exact Nat.le_refl _
  | succ j ih =>
    intro h hj;by_cases he : i = j + 1
    · subst he; exact Nat.le_refl _
    · obtain ⟨e, hee⟩ := C.get (i := j) (by omega);obtain ⟨r1, r2, r3, _⟩ := C.rok j e hee;have := r1.le;exact Nat.le_trans (ih (by omega) (by omega)) (by omega)
theorem Ctx.chainH (C : Ctx P ext nt fu ops es σ τ) (k p : Nat) (hp : p < es.length) : (σ (p + 1)).h.get k = if Zl9 es k p then Zyk es k p else (σ p).h.get k := by
  obtain ⟨e, he⟩ := C.get hp;obtain ⟨_, _, _, r4, _⟩ := C.rok p e he;have hs := (C.ok p e he).es';unfold Zl9 Zyk;rw [he];simp only;cases hd : Dk e.r k with
  | true => simp [hs]
  | false => simpa using r4 k hd
theorem Ctx.chainT (C : Ctx P ext nt fu ops es σ τ) (t p : Nat) (hp : p < es.length) : (τ (p + 1)).get t = if ZoN es t p then Zyl es p else (τ p).get t := by
  obtain ⟨e, he⟩ := C.get hp;have hs := (C.ok p e he).eT';unfold ZoN Zyl;rw [he, hs];simp only;cases hd : e.o.dst with
  | none => simp [Zi0]
  | some d =>
    simp only [Zi0, Tr.get_set];by_cases ht : t = d
    · subst ht; simp [Zk]
    · rw [Zf ht];have : ((some d : Option Nat) == some t) = false := by simpa using fun e => ht e.symm
      rw [this];simp
theorem Ctx.dk_lt (C : Ctx P ext nt fu ops es σ τ) {p k : Nat} {e : Ent} (he : es[p]? = some e) (hd : Dk e.r k = true) : k < (σ (p + 1)).n := by
  obtain ⟨r1, r2, r3, _⟩ := C.rok p e he;rcases ZeW.1 hd with ⟨_, h⟩ | ⟨_, h⟩
  · have := r1.lt k h; have := r1.le; omega
  · omega
theorem Ctx.pair (C : Ctx P ext nt fu ops es σ τ) {i j : Nat} {d e : Ent} (hij : i < j) (hd : es[i]? = some d) (he : es[j]? = some e) : e.m.testBit i = true ∨ (Oper.apart ops d.o e.o = true ∧ Zyj d.r e.r ∧ Zyj e.r d.r ∧ ∀ k, Dk d.r k = true → Dk e.r k = true → False) := by
  have hj : j < es.length := (List.getElem?_eq_some_iff.1 he).1;rcases ZoM (C.ok j e he).pairs i d (by rw [List.getElem?_take_of_lt hij]; exact hd) with h | ⟨h1, h2⟩
  · exact .inl (by simpa using h)
  · obtain ⟨r1, r2, r3, _⟩ := C.rok i d hd;obtain ⟨q1, q2, q3, _⟩ := C.rok j e he;exact .inr ⟨h1, Z06 h2 r1 q1 (by rw [r3, q2]; exact C.mono (by omega) (by omega))⟩
structure Zqg (es : List Ent) (L : Nat → Bool) (i : Nat) (e : Ent) : Prop where
  at_ : es[i]? = some e
  cl : Zuk es L
  not : L i = false
  deps : ∀ d ∈ e.o.after.toList, Region.binds .any d = true → L d.on = true
theorem Ctx.masks (C : Ctx P ext nt fu ops es σ τ) : ∀ (i : Nat) (e : Ent), es[i]? = some e → e.m = Zde (es.take i) e.o.after.toList := fun i e he => (C.ok i e he).em
theorem Ctx.loose (C : Ctx P ext nt fu ops es σ τ) {L : Nat → Bool} {i j : Nat} {e d : Ent} (R : Zqg es L i e) (hd : es[j]? = some d) (hne : j < i ∧ L j = false ∨ i < j ∧ L j = true) :
    (∀ t, d.o.dst = some t → t ∉ e.o.looksAt ops) ∧ (∀ t, d.o.dst = some t → e.o.dst ≠ some t) ∧ Zyj e.r d.r ∧ ∀ k, Dk d.r k = true → Dk e.r k = true → False := by
  rcases hne with ⟨h1, h2⟩ | ⟨h1, h2⟩
  · rcases C.pair h1 hd R.at_ with h | ⟨g1, g2, g3, g4⟩
    · have := Zrc R.cl C.masks i e R.at_ R.deps h;rw [h2] at this; cases this
    · obtain ⟨a1, a2, a3⟩ := Oper.apart_spec g1;exact ⟨a1, a2, g3, g4⟩
  · rcases C.pair h1 R.at_ hd with h | ⟨g1, g2, g3, g4⟩
    · have := Zrc R.cl C.masks j d hd (R.cl j d hd h2) h;rw [R.not] at this; cases this
    · obtain ⟨a1, a2, a3⟩ := Oper.apart_spec g1;exact ⟨a3, fun t ht he => a2 t he ht, g2, fun k k1 k2 => g4 k k2 k1⟩
theorem Ctx.live (C : Ctx P ext nt fu ops es σ τ) : ∀ (i : Nat), i ≤ es.length → ∀ k, ((σ i).h.get k).isSome → ¬ ((σ i).n ≤ k ∧ k < (σ es.length).n) := by
  intro i
  induction i with
  | zero => intro _ k hk; exact C.old k hk
  | succ i ih =>
    intro hi k hk;obtain ⟨e, he⟩ := C.get (i := i) (by omega);rw [C.chainH k i (by omega)] at hk;have hd : Zl9 es k i = Dk e.r k := by unfold Zl9; rw [he]
    rw [hd] at hk;cases hdk : Dk e.r k with
    | true => have := C.dk_lt he hdk; omega
    | false =>
      rw [hdk] at hk;have := ih (by omega) k (by simpa using hk);have := C.mono (i := i) (j := i + 1) (by omega) hi;omega
theorem Ctx.agreeH (C : Ctx P ext nt fu ops es σ τ) {L : Nat → Bool} {i : Nat} {e : Ent} (R : Zqg es L i e) (k : Nat) (h1 : e.r.small = true → k ∈ e.r.t ++ e.r.q) (h2 : e.r.small = false → ¬ ((σ i).n ≤ k ∧ k < (σ es.length).n)) (h3 : e.r.small = false → k ∉ e.r.q) : HL es L (σ 0) k = (σ i).h.get k := by
  have hi : i < es.length := (List.getElem?_eq_some_iff.1 R.at_).1;have key : ∀ p, p < es.length → (p < i ∧ L p = false ∨ i < p ∧ L p = true) → Zl9 es k p = false := fun p hp hh => by
    obtain ⟨d, hd⟩ := C.get hp;obtain ⟨_, _, g3, _⟩ := C.loose R hd hh;unfold Zl9;rw [hd];simp only;cases hs : e.r.small with
    | true => exact g3.1 hs k (h1 hs)
    | false =>
      by_cases hk : k < e.r.n0
      · exact g3.2 hs k hk (h3 hs)
      · cases hdk : Dk d.r k with
        | false => rfl
        | true =>
          exfalso;have q := C.dk_lt hd hdk;have := C.mono (i := p + 1) (j := es.length) (by omega) (Nat.le_refl _);have := (C.rok i e R.at_).2.1;exact h2 hs ⟨by omega, by omega⟩
  exact Zlh (S := fun p => (σ p).h.get k) i es.length (by omega) (fun p hp => C.chainH k p hp) (fun p hp hL => key p (by omega) (.inl ⟨hp, hL⟩)) (fun p hp hn hL => by
    by_cases he : p = i
    · subst he; rw [R.not] at hL; cases hL
    · exact key p hn (.inr ⟨by omega, hL⟩))
theorem Ctx.agreeT (C : Ctx P ext nt fu ops es σ τ) {L : Nat → Bool} {i : Nat} {e : Ent} (R : Zqg es L i e) (t : Nat) (ht : t ∈ e.o.looksAt ops) : TL es L (τ 0) t = (τ i).get t := by
  have hi : i < es.length := (List.getElem?_eq_some_iff.1 R.at_).1;have key : ∀ p, p < es.length → (p < i ∧ L p = false ∨ i < p ∧ L p = true) → ZoN es t p = false := fun p hp hh => by
    obtain ⟨d, hd⟩ := C.get hp;obtain ⟨g1, _⟩ := C.loose R hd hh;unfold ZoN;rw [hd];simp only;cases hb : d.o.dst == some t with
    | false => rfl
    | true => exact absurd ht (g1 t (by simpa using hb))
  exact Zlh (S := fun p => (τ p).get t) i es.length (by omega) (fun p hp => C.chainT t p hp) (fun p hp hL => key p (by omega) (.inl ⟨hp, hL⟩)) (fun p hp hn hL => by
    by_cases he : p = i
    · subst he; rw [R.not] at hL; cases hL
    · exact key p hn (.inr ⟨by omega, hL⟩))
theorem Ctx.addH (C : Ctx P ext nt fu ops es σ τ) {L : Nat → Bool} {i : Nat} {e : Ent} (R : Zqg es L i e) (k : Nat) : HL es (ZdJ L i) (σ 0) k = if Dk e.r k then e.s'.h.get k else HL es L (σ 0) k := by
  have hi : i < es.length := (List.getElem?_eq_some_iff.1 R.at_).1;have := Z15 (D := Zl9 es k) (V := Zyk es k) (x0 := (σ 0).h.get k) i es.length hi R.not fun p hp hn hL hD => by
    obtain ⟨d, hd⟩ := C.get hn;obtain ⟨_, _, _, g4⟩ := C.loose R hd (.inr ⟨hp, hL⟩);unfold Zl9 at hD ⊢;rw [hd] at hD;rw [R.at_];simp only at hD ⊢;cases hdk : Dk e.r k with
    | false => rfl
    | true => exact (g4 k hD hdk).elim
  unfold HL;rw [this];unfold Zl9 Zyk;rw [R.at_]
theorem Ctx.addT (C : Ctx P ext nt fu ops es σ τ) {L : Nat → Bool} {i : Nat} {e : Ent} (R : Zqg es L i e) (t : Nat) : TL es (ZdJ L i) (τ 0) t = if e.o.dst = some t then some e.v else TL es L (τ 0) t := by
  have hi : i < es.length := (List.getElem?_eq_some_iff.1 R.at_).1;have := Z15 (D := ZoN es t) (V := Zyl es) (x0 := (τ 0).get t) i es.length hi R.not fun p hp hn hL hD => by
    obtain ⟨d, hd⟩ := C.get hn;obtain ⟨_, g2, _⟩ := C.loose R hd (.inr ⟨hp, hL⟩);unfold ZoN at hD ⊢;rw [hd] at hD;rw [R.at_];simp only at hD ⊢;cases hdk : e.o.dst == some t with
    | false => rfl
    | true => exact absurd (by simpa using hdk) (g2 t (by simpa using hD))
  unfold TL;rw [this];unfold ZoN Zyl;rw [R.at_];simp only;by_cases hb : e.o.dst = some t
  · simp [hb]
  · have : (e.o.dst == some t) = false := by simpa using hb
    rw [this, if_neg hb];simp
end
end
end Ev
end Go.Proofs.YthfohmhipifiaaaGreat
