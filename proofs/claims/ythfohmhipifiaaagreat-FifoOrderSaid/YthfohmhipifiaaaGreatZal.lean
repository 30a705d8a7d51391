/- The law FifoOrder, for every input. -/
import Derived.Test.YthfohmhipifiaaaGreatZak
import Derived.Test.YthfohmhipifiaaaGreatZac
import Derived.StillTail
import Derived.OrdersHeld
import Derived.WideBlind
import Derived.Test.YthfohmhipifiaaaGreatZad
import Derived.Test.YthfohmhipifiaaaGreatZah
set_option linter.unusedSimpArgs false
set_option linter.unusedVariables false
set_option linter.unusedVariables false
set_option maxRecDepth 100000
set_option linter.unusedSimpArgs false
/- What is found in a queue, read from what the machine shows. -/
namespace Go.Proofs.YthfohmhipifiaaaGreat
open Go.RowKit
namespace Ev
def Zqp (L : List RJ) (k l : Int) (j : Nat) : Prop := (L.getD j RJ.z).a0 = k ∧ (L.getD j RJ.z).a1 = l
instance (L : List RJ) (k l : Int) (j : Nat) : Decidable (Zqp L k l j) := by unfold Zqp; infer_instance
theorem Z1V (a b v k l : Int) : ∀ M : List RH, Zfw (ZdE M a b v) k l = ((k == a && l == b) || Zfw M k l)
 | [] => by simp [ZdE, Zfw]
 | x :: M => by
  unfold ZdE;by_cases h : (a == x.a0 && b == x.a1) = true
  ·rw [if_pos h]
   simp only [Bool.and_eq_true, beq_iff_eq] at h;simp [Zfw, h.1, h.2]
  ·rw [if_neg h]
   have ih := Z1V a b v k l M;unfold Zfw at ih ⊢;rw [List.any_cons, List.any_cons, ih];cases (k == x.a0 && l == x.a1) <;> cases (k == a && l == b) <;> rfl
theorem Z1W (a b v k l : Int) : ∀ M : List RH, Zh (ZdE M a b v) k l = if k = a ∧ l = b then v else Zh M k l
 | [] => by
  by_cases h : k = a ∧ l = b
  ·rw [if_pos h]; simp [ZdE, Zh, h.1, h.2]
  ·rw [if_neg h]
   have h' : (k == a && l == b) = false := by cases e : (k == a && l == b) with
    | false => rfl
    | true => simp only [Bool.and_eq_true, beq_iff_eq] at e; exact absurd e h
   simp [ZdE, Zh, h']
 | x :: M => by
  unfold ZdE;by_cases h : (a == x.a0 && b == x.a1) = true
  ·rw [if_pos h]
   simp only [Bool.and_eq_true, beq_iff_eq] at h;by_cases hk : k = a ∧ l = b
   ·rw [if_pos hk]; simp [Zh, hk.1, hk.2]
   ·rw [if_neg hk]
    have h' : (k == a && l == b) = false := by cases e : (k == a && l == b) with
     | false => rfl
     | true => simp only [Bool.and_eq_true, beq_iff_eq] at e; exact absurd e hk
    have h'' : (k == x.a0 && l == x.a1) = false := by rw [← h.1, ← h.2]; exact h'
    simp only [Zh, List.find?_cons, h', h'']
  ·rw [if_neg h]
   have ih := Z1W a b v k l M;cases e : (k == x.a0 && l == x.a1) with
   | true =>
    have hk : ¬ (k = a ∧ l = b) := fun q => by rw [q.1, q.2] at e; exact h e
    rw [if_neg hk];simp only [Zh, List.find?_cons, e]
   | false =>
    simp only [Zh, List.find?_cons, e] at ih ⊢;exact ih
def MI (L : List RJ) (i : Nat) (M : List RH) : Prop := ∀ k l, (∃ j, i ≤ j ∧ j < L.length ∧ Zqp L k l j ∧ (∀ q, i ≤ q → q < j → ¬ Zqp L k l q) ∧ Zfw M k l = true ∧ Zh M k l = (j : Int)) ∨ ((∀ q, i ≤ q → q < L.length → ¬ Zqp L k l q) ∧ Zfw M k l = false)
theorem Z67 (L : List RJ) : MI L L.length [] := fun k l => .inr ⟨fun q h1 h2 => by omega, rfl⟩
theorem Z68 {L : List RJ} {i : Nat} {M : List RH} (hi : i < L.length) (h : MI L (i + 1) M) : MI L i (ZdE M (L.getD i RJ.z).a0 (L.getD i RJ.z).a1 (i : Int)) := by
 intro k l;rw [Z1V, Z1W];by_cases hk : Zqp L k l i
 ·refine .inl ⟨i, Nat.le_refl _, hi, hk, fun q h1 h2 => by omega, ?_, if_pos ⟨hk.1.symm, hk.2.symm⟩⟩
  rw [hk.1, hk.2]; simp
 ·have hn : ¬ (k = (L.getD i RJ.z).a0 ∧ l = (L.getD i RJ.z).a1) := fun q => hk ⟨q.1.symm, q.2.symm⟩
  have hb : (k == (L.getD i RJ.z).a0 && l == (L.getD i RJ.z).a1) = false := by
   cases e : (k == (L.getD i RJ.z).a0 && l == (L.getD i RJ.z).a1) with
   | false => rfl
   | true => simp only [Bool.and_eq_true, beq_iff_eq] at e; exact absurd e hn
  rw [if_neg hn, hb, Bool.false_or];rcases h k l with ⟨j, h1, h2, h3, h4, h5, h6⟩ | ⟨h1, h2⟩
  ·refine .inl ⟨j, by omega, h2, h3, fun q q1 q2 => ?_, h5, h6⟩
   by_cases e : q = i
   ·subst e; exact hk
   ·exact h4 q (by omega) q2
  ·refine .inr ⟨fun q q1 q2 => ?_, h2⟩
   by_cases e : q = i
   ·subst e; exact hk
   ·exact h1 q (by omega) q2
theorem built {L : List RJ} {a1 a2 a3 : Int} {N : Nat} (hL : L.length ≤ 1000) : ∀ i f M, i ≤ L.length → MI L i M → ∃ M', MI L 0 M' ∧ ZW (Zeh L a1 a2 a3 N) (f + i) (.h1m0 ((i : Int) - 1) M) = ZW (Zeh L a1 a2 a3 N) f (.h1m0 (-1) M')
 | 0, f, M, _, h => ⟨M, h, rfl⟩
 | i + 1, f, M, hi, h => by
  obtain ⟨M', h1, h2⟩ := built (a1 := a1) (a2 := a2) (a3 := a3) (N := N) hL i f _ (by omega) (Z68 (by omega) h);refine ⟨M', h1, (Zo (n := f + i) ?_).trans h2⟩;show ZcQ L a1 a2 a3 N _ _ = _;unfold ZcQ;have e : (((i + 1 : Nat) : Int) - 1) = (i : Int) := by omega
  rw [e];have ew : IntKind.i64.wrap ((i : Int) - 1) = (i : Int) - 1 := w64 (by omega) (by omega);refine Zq (by omega) (Zq (by show i < L.length; omega) ?_);rw [ew]; rfl
section
variable {O : List RJ} {I : Int → List Nat} {S : Int → List Int} {made : Nat} (Y : Sy O I S made) (hm : made ≤ 250) {M : List RH} (hM : MI (lv O O.length) 0 M)
include Y hm hM
theorem Z2W {i : Nat} (hi : i < O.length) (h5 : ¬ (ob O i).a5 = 3) : Zfw M 2 (ob O i).a1 = true ∧ 0 ≤ Zh M 2 (ob O i).a1 ∧ (Zh M 2 (ob O i).a1).toNat < (lv O O.length).length ∧ (lv O O.length).getD (Zh M 2 (ob O i).a1).toNat RJ.z = ob O i := by
 have mem : ob O i ∈ lv O O.length := (ZmS (Nat.le_refl _)).2 ⟨i, hi, rfl, h5⟩;obtain ⟨p, hp, e⟩ := List.getElem_of_mem mem;have ep : (lv O O.length).getD p RJ.z = ob O i := by rw [List.getD_eq_getElem?_getD, List.getElem?_eq_getElem hp]; exact e
 rcases hM 2 (ob O i).a1 with ⟨j, h1, h2, h3, h4, h5, h6⟩ | ⟨h1, h2⟩
 ·refine ⟨h5, by omega, by omega, ?_⟩
  rw [h6, Int.toNat_natCast];obtain ⟨r, r1, r2, r3⟩ := (ZmS (Nat.le_refl _)).1 (Z3S h2);have : (ob O r).a1 = (ob O i).a1 := by rw [r2]; exact h3.2
  have := Y.q.m.u r i r1 hi this;rw [← r2, this]
 ·exact absurd ⟨by rw [ep]; exact Y.q.m.k i hi, by rw [ep]⟩ (h1 p (Nat.zero_le _) hp)
omit hm hM in
theorem Z1X : ∀ (l : List Nat) (A : List RJ), l.Nodup → (∀ i ∈ l, i < O.length) → (∀ i ∈ l, ob O i ∈ A) → l.length ≤ A.length
 | [], _, _, _, _ => Nat.zero_le _
 | i :: l, A, nd, hi, hA => by
  obtain ⟨B, C, rfl⟩ := List.append_of_mem (hA i List.mem_cons_self);have ih := Z1X l (B ++ C) (List.nodup_cons.1 nd).2 (fun j hj => hi j (List.mem_cons_of_mem _ hj)) fun j hj => by
   have h := hA j (List.mem_cons_of_mem _ hj);have ne : ¬ ob O j = ob O i := fun e => by have := Y.q.m.u j i (hi j (List.mem_cons_of_mem _ hj)) (hi i List.mem_cons_self) (by rw [e]);subst this;exact (List.nodup_cons.1 nd).1 hj
   rcases List.mem_append.1 h with h | h
   ·exact List.mem_append.2 (.inl h)
   ·rcases List.mem_cons.1 h with h | h
    ·exact absurd h ne
    ·exact List.mem_append.2 (.inr h)
  rw [List.length_append] at ih;rw [List.length_cons, List.length_append, List.length_cons];omega
abbrev itS (O : List RJ) (q : Int) : Zag → Option (Zag ⊕ fifo_ItemsR) := Zeh (lv O O.length) 2 1048577 q 100000
theorem Z5s (q : Int) (tl : RG) (ck n : Int) : ∀ (l : List Nat) (w : List Int), Ch O l w → ∀ (v0 : List Int) (b3 b4 b5 b6 b7 b8 b9 : Int) (bA : List RG) (b2 : Int) (c : RG) (f : Nat), l.length < f → v0.length + l.length < (lv O O.length).length → n = ((v0.length + w.length : Nat) : Int) → tl = (if l = [] then c else lsR O l) → ZW (itS O q) f (.h2m1 v0 M b2 b3 b4 b5 b6 b7 b8 bA tl.a0 tl.a1 ck n c.a0 c.a1 (hdR O l).a0 (hdR O l).a1) = some (.r1 (v0 ++ w))
 | [], [], _, v0, b3, b4, b5, b6, b7, b8, b9, bA, b2, c, f, hf, hl, hn, ht => by
  obtain ⟨f, rfl⟩ : ∃ g, f = g + 1 := ⟨f - 1, by omega⟩
  refine ZE ?_;rw [if_pos rfl] at ht;subst ht;refine Eq.trans (show _ = ZcS (lv O O.length) 2 1048577 q 100000 v0 M b2 b3 b4 b5 b6 b7 b8 bA tl.a0 tl.a1 ck n tl.a0 tl.a1 2 0 from rfl) ?_;unfold ZcS;rw [if_pos ⟨rfl, rfl⟩, if_neg (fun h => h ⟨rfl, rfl⟩), if_neg (fun h => h (by rw [hn]; rfl)), List.append_nil]
 | [], _ :: _, h, _, _, _, _, _, _, _, _, _, _, _, _, _, _, _, _ => h.elim
 | _ :: _, [], h, _, _, _, _, _, _, _, _, _, _, _, _, _, _, _, _ => h.elim
 | i :: l, v :: w, h, v0, b3, b4, b5, b6, b7, b8, b9, bA, b2, c, f, hf, hl, hn, ht => by
  obtain ⟨⟨i1, i2, i5, i4, i7⟩, hr⟩ := h;have i5' : ¬ (ob O i).a5 = 3 := by rw [i5]; decide
  obtain ⟨k1, k2, k3, k4⟩ := Z2W Y hm hM i2 i5';have lb := ZpZ O O.length;have yl := Y.len;rw [List.length_cons] at hf hl;rw [List.length_cons] at hn;obtain ⟨f, rfl⟩ : ∃ g, f = g + 1 := ⟨f - 1, by omega⟩
  rw [if_neg (by simp)] at ht;refine (Zo (y := .h2m1 (v0 ++ [v]) M (ob O i).a0 (ob O i).a1 (ob O i).a2 (ob O i).a3 (ob O i).a4 (ob O i).a5 (ob O i).a6 (ob O i).a7 tl.a0 tl.a1 ck n (rf O i).a0 (rf O i).a1 (hdR O l).a0 (hdR O l).a1) ?_).trans ((Z5s q tl ck n l w hr (v0 ++ [v]) _ _ _ _ _ _ 0 _ _ (rf O i) f (by omega) (by rw [List.length_append, List.length_cons, List.length_nil]; omega) (by rw [List.length_append, List.length_cons, List.length_nil, hn]; omega) ?_).trans ?_)
  ·refine Eq.trans (show _ = ZcS (lv O O.length) 2 1048577 q 100000 v0 M b2 b3 b4 b5 b6 b7 b8 bA tl.a0 tl.a1 ck n c.a0 c.a1 2 (ob O i).a1 from rfl) ?_
   unfold ZcS;rw [if_neg (fun h => (Y.q.m.v i i2).ne h.2), if_pos k1, if_neg (fun h => h rfl), if_pos k2, if_pos k3, k4, if_pos i5', i7];rw [if_pos (show ((([hdR O l, ⟨1, v⟩] : List RG).length : Nat) : Int) = 2 from rfl)];have h0 : (([hdR O l, ⟨1, v⟩] : List RG).getD 0 RG.z) = hdR O l := rfl;have h1 : (([hdR O l, ⟨1, v⟩] : List RG).getD 1 RG.z) = ⟨1, v⟩ := rfl;have h00 : (hdR O l).a0 = 2 := by cases l <;> rfl
   rw [h0, h1, if_pos h00, if_pos rfl, if_neg (by omega), if_pos (by omega)]
  ·rw [ht]
   cases l with
   | nil => rfl
   | cons j l => rw [if_neg (by simp)]; rfl
  ·rw [List.append_assoc]
   rfl
theorem Z69 {q : Int} (q0 : 0 ≤ q) (q3 : q ≤ 3) (f : Nat) (hf : 900 ≤ f) : ZW (itS O q) f (.h1m0 (-1) M) = some (if S q = [] then .r0 else .r1 (S q)) := by
 obtain ⟨f, rfl⟩ : ∃ g, f = g + 2 := ⟨f - 2, by omega⟩
 have yl := Y.len;have lb := ZpZ O O.length;have Q := Y.q;have z5 : ¬ (ob O 0).a5 = 3 := by rw [Q.r5]; decide
 obtain ⟨k1, k2, k3, k4⟩ := Z2W Y hm hM (i := 0) (by omega) z5;rw [Q.r1] at k1 k2 k3 k4;have hch := Q.ch q q0 q3;have hh := Q.hd q q0 q3;have ht := Q.tl q q0 q3;have hc := Q.ct q q0 q3;have h2 : (hdR O (I q)).a0 = 2 := by cases I q <;> rfl
 have t2 : (lsR O (I q)).a0 = 2 := by
  cases e : I q with
  | nil => rfl
  | cons i r =>
   rw [e] at hch;obtain ⟨k, _, k2, _⟩ := ZnD hch (by simp);rw [k2]
 refine (Zo (n := f + 1) (y := .h2m0 M (ob O 0).a0 (ob O 0).a1 (ob O 0).a2 (ob O 0).a3 (ob O 0).a4 (ob O 0).a5 (ob O 0).a6 (ob O 0).a7 (lsR O (I q)).a0 (lsR O (I q)).a1 1 ((S q).length : Int) (hdR O (I q)).a0 (hdR O (I q)).a1) ?_).trans ?_
 ·refine Eq.trans (show _ = ZcQ (lv O O.length) 2 1048577 q 100000 (-1) M from rfl) ?_
  unfold ZcQ;rw [if_neg (by decide), if_pos k1, if_neg (fun h => h rfl), if_neg (by decide), if_pos k2, if_pos k3, if_pos q0, if_pos q3, k4, hh, ht, hc, if_neg (by rw [Q.r7]; decide), if_neg (fun h => h h2), if_neg (fun h => h t2), if_neg (fun h => h rfl)]
 ·cases ei : I q with
  | nil =>
   have es : S q = [] := by rw [ei] at hch; exact List.eq_nil_of_length_eq_zero hch.len.symm
   rw [es, if_pos rfl];refine ZE ?_;refine Eq.trans (show _ = ZcR (lv O O.length) 2 1048577 q 100000 M (ob O 0).a0 (ob O 0).a1 (ob O 0).a2 (ob O 0).a3 (ob O 0).a4 (ob O 0).a5 (ob O 0).a6 (ob O 0).a7 2 0 1 0 2 0 from rfl) ?_;unfold ZcR;rw [if_pos ⟨rfl, rfl⟩, if_neg (fun h => h ⟨rfl, rfl⟩), if_neg (fun h => h rfl)]
  | cons i l =>
   cases es : S q with
   | nil => rw [ei, es] at hch; exact hch.elim
   | cons v w =>
    rw [if_neg (by simp)];have nd := Q.nd q q0 q3;have mm := hch.mem;have fl := Z1X Y (0 :: I q) (lv O O.length) (List.nodup_cons.2 ⟨fun h => by have := (mm 0 h).1; omega, nd⟩) (fun j hj => by
     rcases List.mem_cons.1 hj with rfl | hj
     ·omega
     ·exact (mm j hj).2.1) (fun j hj => by
     rcases List.mem_cons.1 hj with rfl | hj
     ·exact (ZmS (Nat.le_refl _)).2 ⟨0, by omega, rfl, z5⟩
     ·exact (ZmS (Nat.le_refl _)).2 ⟨j, (mm j hj).2.1, rfl, by rw [(mm j hj).2.2]; decide⟩)
    rw [ei, List.length_cons, List.length_cons] at fl;rw [ei, es] at hch;obtain ⟨⟨i1, i2, i5, i4, i7⟩, hr⟩ := hch;have i5' : ¬ (ob O i).a5 = 3 := by rw [i5]; decide
    obtain ⟨k1, k2, k3, k4⟩ := Z2W Y hm hM i2 i5';refine (Zo (n := f) (y := .h2m1 [v] M (ob O i).a0 (ob O i).a1 (ob O i).a2 (ob O i).a3 (ob O i).a4 (ob O i).a5 (ob O i).a6 (ob O i).a7 (lsR O (i :: l)).a0 (lsR O (i :: l)).a1 1 ((v :: w).length : Int) (rf O i).a0 (rf O i).a1 (hdR O l).a0 (hdR O l).a1) ?_).trans (Z5s Y hm hM q (lsR O (i :: l)) 1 ((v :: w).length : Int) l w hr [v] _ _ _ _ _ _ 0 _ _ (rf O i) f (by omega) (by rw [List.length_cons, List.length_nil]; omega) (by rw [List.length_cons, List.length_cons, List.length_nil]; omega) ?_)
    ·refine Eq.trans (show _ = ZcR (lv O O.length) 2 1048577 q 100000 M (ob O 0).a0 (ob O 0).a1 (ob O 0).a2 (ob O 0).a3 (ob O 0).a4 (ob O 0).a5 (ob O 0).a6 (ob O 0).a7 (lsR O (i :: l)).a0 (lsR O (i :: l)).a1 1 ((v :: w).length : Int) 2 (ob O i).a1 from rfl) ?_
     unfold ZcR;rw [if_neg (fun h => (Q.m.v i i2).ne h.2), if_pos k1, if_neg (fun h => h rfl), if_pos k2, if_pos k3, k4, if_pos i5', i7];rw [if_pos (show ((([hdR O l, ⟨1, v⟩] : List RG).length : Nat) : Int) = 2 from rfl)];have h0 : (([hdR O l, ⟨1, v⟩] : List RG).getD 0 RG.z) = hdR O l := rfl;have h1 : (([hdR O l, ⟨1, v⟩] : List RG).getD 1 RG.z) = ⟨1, v⟩ := rfl;have h00 : (hdR O l).a0 = 2 := by cases l <;> rfl
     rw [h0, h1, if_pos h00, if_pos rfl]
    ·cases l with
     | nil => rfl
     | cons j l => rw [if_neg (by simp)]; rfl
end
theorem Z5e {O : List RJ} {I : Int → List Nat} {S : Int → List Int} {made : Nat} (Y : Sy O I S made) (hm : made ≤ 250) {q : Int} (q0 : 0 ≤ q) (q3 : q ≤ 3) : ZeM (lv O O.length) 2 1048577 q 100000 = some (if S q = [] then .r0 else .r1 (S q)) := by have lb := ZpZ O O.length;have yl := Y.len;obtain ⟨M', h1, h2⟩ := built (L := lv O O.length) (a1 := 2) (a2 := 1048577) (a3 := q) (N := 100000) (by omega) (lv O O.length).length 1000 [] (Nat.le_refl _) (Z67 _);unfold ZeM;refine (ZaB (x := .h1m0 (((lv O O.length).length : Int) - 1) []) ?_).trans (Zej (n := 1000 + (lv O O.length).length) (by omega) (h2.trans (Z69 Y hm h1 q0 q3 1000 (by omega))));unfold Zif;rw [if_pos (by omega)]
theorem Zqq {L : List RG} (hl : L.length ≤ 1000) : Zan L L 100000 = some .r0 := by
 have go : ∀ d j : Nat, j + d = L.length → ZW (Zf4 L L 100000) (d + 1) (.h1m0 j) = some .r0 := by
  intro d
  induction d with
  | zero =>
   intro j hj;refine ZE ?_;refine Eq.trans (show _ = ZbR L L 100000 j from rfl) ?_;unfold ZbR;rw [if_neg (by omega)]
  | succ d ih =>
   intro j hj;refine (Zo ?_).trans (ih (j + 1) (by omega));refine Eq.trans (show _ = ZbR L L 100000 j from rfl) ?_;unfold ZbR;rw [if_pos (by omega), if_pos (by omega), if_neg (fun h => h ⟨rfl, rfl⟩), if_pos (by omega)]
 unfold Zan;refine (ZaB (x := (.h1m0 0 : ZaZ)) ?_).trans (Zej (n := L.length + 1) (by omega) (go L.length 0 (by omega)));unfold Zg8;rw [if_neg (fun h => h rfl)]
theorem ZxB {L : List Int} (hl : L.length ≤ 1000) : Zd9 L L 100000 = some .r0 := by
 have go : ∀ d j : Nat, j + d = L.length → ZW (Zf5 L L 100000) (d + 1) (.h1m0 j) = some .r0 := by
  intro d
  induction d with
  | zero =>
   intro j hj;refine ZE ?_;refine Eq.trans (show _ = ZbS L L 100000 j from rfl) ?_;unfold ZbS;rw [if_neg (by omega)]
  | succ d ih =>
   intro j hj;refine (Zo ?_).trans (ih (j + 1) (by omega));refine Eq.trans (show _ = ZbS L L 100000 j from rfl) ?_;unfold ZbS;rw [if_pos (by omega), if_pos (by omega), if_neg (fun h => h rfl), if_pos (by omega)]
 unfold Zd9;refine (ZaB (x := (.h1m0 0 : Zba)) ?_).trans (Zej (n := L.length + 1) (by omega) (go L.length 0 (by omega)));unfold Zg9;rw [if_neg (fun h => h rfl)]
structure Fi (len : Nat) (a : Int) (T : List RG) (row : Row) : Prop where
 e : row.a19 = T
 t : T.length ≤ 4
 a0 : row.a0 = 2 ∧ a = (len : Int) ∨ row.a0 = 0 ∧ ¬ a = (len : Int)
section
variable {k : List (List RM)} {at' : List Int} {made : Nat} {P : List (List RI)} {rows : List Row} {O : List RJ} {S : Int → List Int} {ts : List (List RG)} (V : Lv k at' made P rows O S ts)
include V
theorem Z5f {t : Nat} (ht : t < k.length) {rs' : List Row} (hl : rs'.length = k.length) (er : rs'.getD t RL.z = rows.getD t RL.z) : ∃ row2, Zcx P rows O 100000 (.h1m0 t rs') = some (.inl (.h1m0 (t + 1) (rs'.set t row2))) ∧ Fi (k.getD t []).length (at'.getD t 0) (ts.getD t []) row2 := by
 obtain ⟨a, ea, K⟩ := V.th t ht;have H := V.pg ht;have n3 := V.n;have pl := V.pl;have eP := V.eP ht;have l4 := H.l4;have tle := K.len;have ale := K.le;have ll : (Zf7 (k.getD t [])).length = (k.getD t []).length := List.length_map ..;have w : ∀ a4 a5 a6 L7 L8, ZcN P rs' O (t : Int) a4 a5 a6 L7 L8 100000 = some .r0 := fun a4 a5 a6 L7 L8 => by unfold ZcN;rw [if_neg (by omega), if_pos (by omega), if_pos (by omega), Int.toNat_natCast, if_pos (by omega)]
 rw [ea];have st : Zcx P rows O 100000 (.h1m0 t rs') = ZbQ P rows O 100000 t rs' := rfl;rw [st];unfold ZbQ;rw [if_pos (by omega), if_pos (by omega), er, eP];by_cases c : a = (Zf7 (k.getD t [])).length
 ·obtain ⟨pc, R, e⟩ := Z3P H K c
  rw [e, Option.bind_some];dsimp only;rw [w, Option.bind_some, if_pos (by omega), Int.toNat_natCast];exact ⟨_, rfl, rfl, by omega, .inl ⟨rfl, by omega⟩⟩
 ·obtain ⟨r4, r5, r6, r7, e⟩ := Z5r H K (by omega)
  rw [e, Option.bind_some];dsimp only;rw [w, Option.bind_some, if_pos (by omega), Int.toNat_natCast];exact ⟨_, rfl, rfl, by omega, .inr ⟨rfl, by omega⟩⟩
theorem Z6A : ∀ (d t : Nat) (rs' : List Row), t + d = k.length → rs'.length = k.length → (∀ s, t ≤ s → s < k.length → rs'.getD s RL.z = rows.getD s RL.z) → (∀ s, s < t → Fi (k.getD s []).length (at'.getD s 0) (ts.getD s []) (rs'.getD s RL.z)) → ∃ rs2 : List Row, ZW (Zcx P rows O 100000) (d + 1) (.h1m0 t rs') = some (.r0 rs2) ∧ rs2.length = k.length ∧ ∀ s, s < k.length → Fi (k.getD s []).length (at'.getD s 0) (ts.getD s []) (rs2.getD s RL.z) := by
 intro d
 induction d with
 | zero =>
  intro t rs' h hl he hf;refine ⟨rs', ZE ?_, hl, fun s hs => hf s (by omega)⟩;have st : Zcx P rows O 100000 (.h1m0 t rs') = ZbQ P rows O 100000 t rs' := rfl;rw [st];unfold ZbQ;rw [if_neg (by omega)]
 | succ d ih =>
  intro t rs' h hl he hf;obtain ⟨row2, e, f⟩ := Z5f V (t := t) (by omega) hl (he t (Nat.le_refl _) (by omega));obtain ⟨rs2, e2, l2, f2⟩ := ih (t + 1) (rs'.set t row2) (by omega) (by rw [List.length_set]; exact hl) (fun s h1 h2 => by rw [Zjt (by omega), if_neg (by omega)]; exact he s (by omega) h2) (fun s hs => by
   rw [Zjt (by omega)];by_cases c : s = t
   ·subst c; rw [if_pos rfl]; exact f
   ·rw [if_neg c]; exact hf s (by omega))
  exact ⟨rs2, (Zo e).trans e2, l2, f2⟩
theorem Z0j : ∃ rs2 : List Row, Zbr P rows O 100000 = some (.r0 rs2) ∧ rs2.length = k.length ∧ ∀ s, s < k.length → Fi (k.getD s []).length (at'.getD s 0) (ts.getD s []) (rs2.getD s RL.z) := by have n3 := V.n;obtain ⟨rs2, e, l, f⟩ := Z6A V k.length 0 rows (by omega) V.rl (fun _ _ _ => rfl) (fun s hs => by omega);refine ⟨rs2, ?_, l, f⟩;unfold Zbr;exact (ZaB (x := (.h1m0 0 rows : ZaY)) rfl).trans (Zej (n := k.length + 1) (by omega) e)
end
section
variable {A : List (List RM)} {B : List Int} {k : List (List RM)} {at' : List Int} {made : Nat} {P : List (List RI)} {O : List RJ} {I : Int → List Nat} {S : Int → List Int} {L0 L1 L2 L3 : List Int} (rows : List Row)
theorem Z2X (Y : Sy O I S made) (hm : made ≤ 250) (F : Qf S L0 L1 L2 L3) (f : Nat) (hf : 10 ≤ f) : ZW (Zj A B 100000) f (.h5m0 0 P rows O L0 L1 L2 L3) = some (.r0 true) := by
 obtain ⟨f, rfl⟩ : ∃ g, f = g + 5 := ⟨f - 5, by omega⟩
 have ob := Z66 Y hm P rows;have ss : ∀ q, (S q).length ≤ 1000 := fun q => by have := Y.s q; omega
 obtain ⟨rfl, rfl, rfl, rfl⟩ := F;have s3 : Zep [] 100000 = some .r0 := (ZaB (x := ref24_Same_3X.h1m0) rfl).trans (ZE (n := 99999) rfl);have st : ∀ v, Zj A B 100000 (.h5m0 v P rows O (S 0) (S 1) (S 2) (S 3)) = ZcV A B 100000 v P rows O (S 0) (S 1) (S 2) (S 3) := fun _ => rfl;have go : ∀ v : Nat, v < 4 → Zj A B 100000 (.h5m0 v P rows O (S 0) (S 1) (S 2) (S 3)) = some (.inl (.h5m0 (v + 1) P rows O (S 0) (S 1) (S 2) (S 3))) := by
  intro v hv;rw [st];unfold ZcV;rw [if_pos (by omega), ob, Option.bind_some];dsimp only;rw [Z5e Y hm (q := (v : Int)) (by omega) (by omega)];have hv' : v = 0 ∨ v = 1 ∨ v = 2 ∨ v = 3 := by omega
  rcases hv' with rfl | rfl | rfl | rfl
  ·show (some (if S 0 = [] then fifo_ItemsR.r0 else fifo_ItemsR.r1 (S 0))).bind _ = _
   by_cases c : S 0 = []
   ·rw [if_pos c, Option.bind_some]
    dsimp only;rw [if_pos (by decide), c, s3];rfl
   ·rw [if_neg c, Option.bind_some]
    dsimp only;rw [if_pos (by decide), ZxB (ss 0)];rfl
  ·show (some (if S 1 = [] then fifo_ItemsR.r0 else fifo_ItemsR.r1 (S 1))).bind _ = _
   by_cases c : S 1 = []
   ·rw [if_pos c, Option.bind_some]
    dsimp only;rw [if_neg (by decide), if_pos (by decide), c, s3];rfl
   ·rw [if_neg c, Option.bind_some]
    dsimp only;rw [if_neg (by decide), if_pos (by decide), ZxB (ss 1)];rfl
  ·show (some (if S 2 = [] then fifo_ItemsR.r0 else fifo_ItemsR.r1 (S 2))).bind _ = _
   by_cases c : S 2 = []
   ·rw [if_pos c, Option.bind_some]
    dsimp only;rw [if_neg (by decide), if_neg (by decide), if_pos (by decide), c, s3];rfl
   ·rw [if_neg c, Option.bind_some]
    dsimp only;rw [if_neg (by decide), if_neg (by decide), if_pos (by decide), ZxB (ss 2)];rfl
  ·show (some (if S 3 = [] then fifo_ItemsR.r0 else fifo_ItemsR.r1 (S 3))).bind _ = _
   by_cases c : S 3 = []
   ·rw [if_pos c, Option.bind_some]
    dsimp only;rw [if_neg (by decide), if_neg (by decide), if_neg (by decide), c, s3];rfl
   ·rw [if_neg c, Option.bind_some]
    dsimp only;rw [if_neg (by decide), if_neg (by decide), if_neg (by decide), ZxB (ss 3)];rfl
 refine (Zo (n := f + 4) (go 0 (by decide))).trans ((Zo (n := f + 3) (go 1 (by decide))).trans ((Zo (n := f + 2) (go 2 (by decide))).trans ((Zo (n := f + 1) (go 3 (by decide))).trans (ZE (n := f) ?_))));rw [st];rfl
theorem h4_0 {T0 : List RG} (hk : k.length = 1) (ha : at'.length = 1) (hr : rows.length = 1) (hf : ∀ s, s < 1 → Fi (k.getD s []).length (at'.getD s 0) (([T0] : List (List RG)).getD s []) (rows.getD s RL.z)) (f : Nat) : ZW (Zj A B 100000) (f + 2) (.h4m0 k at' 0 P rows O L0 L1 L2 L3 T0) = ZW (Zj A B 100000) f (.h5m0 0 P rows O L0 L1 L2 L3) := by
 have st : ∀ v, Zj A B 100000 (.h4m0 k at' v P rows O L0 L1 L2 L3 T0) = ZbK A B 100000 k at' v P rows O L0 L1 L2 L3 T0 := fun _ => rfl;have go : ∀ v : Nat, v < 1 → Zj A B 100000 (.h4m0 k at' v P rows O L0 L1 L2 L3 T0) = some (.inl (.h4m0 k at' (v + 1) P rows O L0 L1 L2 L3 T0)) := by
  intro v hv;obtain ⟨e, tl, h⟩ := hf v hv;rw [st];unfold ZbK;rw [if_pos (by omega), if_pos (by omega), e];have hv' : v = 0 := by omega
  rcases hv' with rfl
  ·have s : Zan (([T0] : List (List RG)).getD 0 []) T0 100000 = some .r0 := Zqq (L := T0) (by have tl : T0.length ≤ 4 := tl; omega)
   rw [if_pos (by decide), s, Option.bind_some];dsimp only;rcases h with ⟨h0, h1⟩ | ⟨h0, h1⟩
   ·rw [if_pos h0, if_pos (by omega), if_pos h1]
   ·rw [if_neg (by rw [h0]; decide), if_pos (by omega), if_neg h1, if_neg (by rw [h0]; decide)]
 refine (Zo (n := f + 1) (go 0 (by decide))).trans (Zo (n := f) ?_);rw [st];unfold ZbK;rw [if_neg (by omega)]
omit rows
theorem run_0 (hB : ∀ x ∈ B, 0 ≤ x ∧ x ≤ 255) (hk : k.length = 1) : ∀ (d v5 v4 made : Nat) (at' : List Int) (rows : List Row) (O : List RJ) (S : Int → List Int) (L0 L1 L2 L3 : List Int) (T0 : List RG) (f : Nat), v5 + d = 200 → Lv k at' made P rows O S [T0] → Qf S L0 L1 L2 L3 → made ≤ v5 → v4 ≤ v5 → 2 * d + 30 ≤ f → ZW (Zj A B 100000) f (.h2m0 k at' made v4 v5 P rows O L0 L1 L2 L3 T0) = some (.r0 true) := by
 have done : ∀ (v5 v4 made : Nat) (at' : List Int) (rows : List Row) (O : List RJ) (S : Int → List Int) (L0 L1 L2 L3 : List Int) (T0 : List RG) (f : Nat), (v5 = 200 ∨ ¬ v4 < k.length) → v5 ≤ 200 → Lv k at' made P rows O S [T0] → Qf S L0 L1 L2 L3 → made ≤ v5 → 30 ≤ f → ZW (Zj A B 100000) f (.h2m0 k at' made v4 v5 P rows O L0 L1 L2 L3 T0) = some (.r0 true) := by
  intro v5 v4 made at' rows O S L0 L1 L2 L3 T0 f hv h5 V F hm hf;obtain ⟨f, rfl⟩ : ∃ g, f = g + 2 + 1 := ⟨f - 3, by omega⟩
  obtain ⟨rs2, e, l2, f2⟩ := Z0j V;obtain ⟨I, Y⟩ := V.sy;refine (Zo (n := f + 2) (y := .h4m0 k at' 0 P rs2 O L0 L1 L2 L3 T0) ?_).trans ((h4_0 rs2 hk (by rw [V.al, hk]) (by rw [l2, hk]) (fun s hs => f2 s (by omega)) f).trans (Z2X rs2 Y (by omega) F f (by omega)));refine Eq.trans (show _ = Zax A B 100000 k at' made v4 v5 P rows O L0 L1 L2 L3 T0 from rfl) ?_;unfold Zax;by_cases c : v5 = 200
  ·rw [if_neg (by omega), e]
   rfl
  ·rw [if_pos (by omega), if_neg (by omega), e]
   rfl
 intro d
 induction d with
 | zero =>
  intro v5 v4 made at' rows O S L0 L1 L2 L3 T0 f h V F hm h4 hf;exact done v5 v4 made at' rows O S L0 L1 L2 L3 T0 f (.inl (by omega)) (by omega) V F hm (by omega)
 | succ d ih =>
  intro v5 v4 made at' rows O S L0 L1 L2 L3 T0 f h V F hm h4 hf;by_cases c : v4 < k.length
  ·obtain ⟨at2, made2, rows2, O2, S2, M0, M1, M2, M3, U0, w4, e, V2, F2, m2, w2⟩ := h2_0 (A := A) (B := B) V F hk hB hm h4 (by omega) c
   obtain ⟨f, rfl⟩ : ∃ g, f = g + 2 := ⟨f - 2, by omega⟩
   rw [e f];exact ih (v5 + 1) w4 made2 at2 rows2 O2 S2 M0 M1 M2 M3 U0 f (by omega) V2 F2 m2 w2 (by omega)
  ·exact done v5 v4 made at' rows O S L0 L1 L2 L3 T0 f (.inr c) (by omega) V F hm (by omega)
variable (rows : List Row)
theorem h4_1 {T0 T1 : List RG} (hk : k.length = 2) (ha : at'.length = 2) (hr : rows.length = 2) (hf : ∀ s, s < 2 → Fi (k.getD s []).length (at'.getD s 0) (([T0, T1] : List (List RG)).getD s []) (rows.getD s RL.z)) (f : Nat) : ZW (Zj A B 100000) (f + 3) (.h4m1 k at' 0 P rows O L0 L1 L2 L3 T0 T1) = ZW (Zj A B 100000) f (.h5m0 0 P rows O L0 L1 L2 L3) := by
 have st : ∀ v, Zj A B 100000 (.h4m1 k at' v P rows O L0 L1 L2 L3 T0 T1) = ZbL A B 100000 k at' v P rows O L0 L1 L2 L3 T0 T1 := fun _ => rfl;have go : ∀ v : Nat, v < 2 → Zj A B 100000 (.h4m1 k at' v P rows O L0 L1 L2 L3 T0 T1) = some (.inl (.h4m1 k at' (v + 1) P rows O L0 L1 L2 L3 T0 T1)) := by
  intro v hv;obtain ⟨e, tl, h⟩ := hf v hv;rw [st];unfold ZbL;rw [if_pos (by omega), if_pos (by omega), e];have hv' : v = 0 ∨ v = 1 := by omega
  rcases hv' with rfl | rfl
  ·have s : Zan (([T0, T1] : List (List RG)).getD 0 []) T0 100000 = some .r0 := Zqq (L := T0) (by have tl : T0.length ≤ 4 := tl; omega)
   rw [if_pos (by decide), s, Option.bind_some];dsimp only;rcases h with ⟨h0, h1⟩ | ⟨h0, h1⟩
   ·rw [if_pos h0, if_pos (by omega), if_pos h1]
   ·rw [if_neg (by rw [h0]; decide), if_pos (by omega), if_neg h1, if_neg (by rw [h0]; decide)]
  ·have s : Zan (([T0, T1] : List (List RG)).getD 1 []) T1 100000 = some .r0 := Zqq (L := T1) (by have tl : T1.length ≤ 4 := tl; omega)
   rw [if_neg (by decide), if_pos (by decide), s, Option.bind_some];dsimp only;rcases h with ⟨h0, h1⟩ | ⟨h0, h1⟩
   ·rw [if_pos h0, if_pos (by omega), if_pos h1]
   ·rw [if_neg (by rw [h0]; decide), if_pos (by omega), if_neg h1, if_neg (by rw [h0]; decide)]
 refine (Zo (n := f + 2) (go 0 (by decide))).trans ((Zo (n := f + 1) (go 1 (by decide))).trans (Zo (n := f) ?_));rw [st];unfold ZbL;rw [if_neg (by omega)]
omit rows
theorem run_1 (hB : ∀ x ∈ B, 0 ≤ x ∧ x ≤ 255) (hk : k.length = 2) : ∀ (d v5 v4 made : Nat) (at' : List Int) (rows : List Row) (O : List RJ) (S : Int → List Int) (L0 L1 L2 L3 : List Int) (T0 T1 : List RG) (f : Nat), v5 + d = 200 → Lv k at' made P rows O S [T0, T1] → Qf S L0 L1 L2 L3 → made ≤ v5 → v4 ≤ v5 → 2 * d + 30 ≤ f → ZW (Zj A B 100000) f (.h2m1 k at' made v4 v5 P rows O L0 L1 L2 L3 T0 T1) = some (.r0 true) := by
 have done : ∀ (v5 v4 made : Nat) (at' : List Int) (rows : List Row) (O : List RJ) (S : Int → List Int) (L0 L1 L2 L3 : List Int) (T0 T1 : List RG) (f : Nat), (v5 = 200 ∨ ¬ v4 < k.length) → v5 ≤ 200 → Lv k at' made P rows O S [T0, T1] → Qf S L0 L1 L2 L3 → made ≤ v5 → 30 ≤ f → ZW (Zj A B 100000) f (.h2m1 k at' made v4 v5 P rows O L0 L1 L2 L3 T0 T1) = some (.r0 true) := by
  intro v5 v4 made at' rows O S L0 L1 L2 L3 T0 T1 f hv h5 V F hm hf;obtain ⟨f, rfl⟩ : ∃ g, f = g + 3 + 1 := ⟨f - 4, by omega⟩
  obtain ⟨rs2, e, l2, f2⟩ := Z0j V;obtain ⟨I, Y⟩ := V.sy;refine (Zo (n := f + 3) (y := .h4m1 k at' 0 P rs2 O L0 L1 L2 L3 T0 T1) ?_).trans ((h4_1 rs2 hk (by rw [V.al, hk]) (by rw [l2, hk]) (fun s hs => f2 s (by omega)) f).trans (Z2X rs2 Y (by omega) F f (by omega)));refine Eq.trans (show _ = Zay A B 100000 k at' made v4 v5 P rows O L0 L1 L2 L3 T0 T1 from rfl) ?_;unfold Zay;by_cases c : v5 = 200
  ·rw [if_neg (by omega), e]
   rfl
  ·rw [if_pos (by omega), if_neg (by omega), e]
   rfl
 intro d
 induction d with
 | zero =>
  intro v5 v4 made at' rows O S L0 L1 L2 L3 T0 T1 f h V F hm h4 hf;exact done v5 v4 made at' rows O S L0 L1 L2 L3 T0 T1 f (.inl (by omega)) (by omega) V F hm (by omega)
 | succ d ih =>
  intro v5 v4 made at' rows O S L0 L1 L2 L3 T0 T1 f h V F hm h4 hf;by_cases c : v4 < k.length
  ·obtain ⟨at2, made2, rows2, O2, S2, M0, M1, M2, M3, U0, U1, w4, e, V2, F2, m2, w2⟩ := h2_1 (A := A) (B := B) V F hk hB hm h4 (by omega) c
   obtain ⟨f, rfl⟩ : ∃ g, f = g + 2 := ⟨f - 2, by omega⟩
   rw [e f];exact ih (v5 + 1) w4 made2 at2 rows2 O2 S2 M0 M1 M2 M3 U0 U1 f (by omega) V2 F2 m2 w2 (by omega)
  ·exact done v5 v4 made at' rows O S L0 L1 L2 L3 T0 T1 f (.inr c) (by omega) V F hm (by omega)
variable (rows : List Row)
theorem h4_2 {T0 T1 T2 : List RG} (hk : k.length = 3) (ha : at'.length = 3) (hr : rows.length = 3) (hf : ∀ s, s < 3 → Fi (k.getD s []).length (at'.getD s 0) (([T0, T1, T2] : List (List RG)).getD s []) (rows.getD s RL.z)) (f : Nat) : ZW (Zj A B 100000) (f + 4) (.h4m2 k at' 0 P rows O L0 L1 L2 L3 T0 T1 T2) = ZW (Zj A B 100000) f (.h5m0 0 P rows O L0 L1 L2 L3) := by
 have st : ∀ v, Zj A B 100000 (.h4m2 k at' v P rows O L0 L1 L2 L3 T0 T1 T2) = ZbM A B 100000 k at' v P rows O L0 L1 L2 L3 T0 T1 T2 := fun _ => rfl;have go : ∀ v : Nat, v < 3 → Zj A B 100000 (.h4m2 k at' v P rows O L0 L1 L2 L3 T0 T1 T2) = some (.inl (.h4m2 k at' (v + 1) P rows O L0 L1 L2 L3 T0 T1 T2)) := by
  intro v hv;obtain ⟨e, tl, h⟩ := hf v hv;rw [st];unfold ZbM;rw [if_pos (by omega), if_pos (by omega), e];have hv' : v = 0 ∨ v = 1 ∨ v = 2 := by omega
  rcases hv' with rfl | rfl | rfl
  ·have s : Zan (([T0, T1, T2] : List (List RG)).getD 0 []) T0 100000 = some .r0 := Zqq (L := T0) (by have tl : T0.length ≤ 4 := tl; omega)
   rw [if_pos (by decide), s, Option.bind_some];dsimp only;rcases h with ⟨h0, h1⟩ | ⟨h0, h1⟩
   ·rw [if_pos h0, if_pos (by omega), if_pos h1]
   ·rw [if_neg (by rw [h0]; decide), if_pos (by omega), if_neg h1, if_neg (by rw [h0]; decide)]
  ·have s : Zan (([T0, T1, T2] : List (List RG)).getD 1 []) T1 100000 = some .r0 := Zqq (L := T1) (by have tl : T1.length ≤ 4 := tl; omega)
   rw [if_neg (by decide), if_pos (by decide), s, Option.bind_some];dsimp only;rcases h with ⟨h0, h1⟩ | ⟨h0, h1⟩
   ·rw [if_pos h0, if_pos (by omega), if_pos h1]
   ·rw [if_neg (by rw [h0]; decide), if_pos (by omega), if_neg h1, if_neg (by rw [h0]; decide)]
  ·have s : Zan (([T0, T1, T2] : List (List RG)).getD 2 []) T2 100000 = some .r0 := Zqq (L := T2) (by have tl : T2.length ≤ 4 := tl; omega)
   rw [if_neg (by decide), if_neg (by decide), if_pos (by decide), s, Option.bind_some];dsimp only;rcases h with ⟨h0, h1⟩ | ⟨h0, h1⟩
   ·rw [if_pos h0, if_pos (by omega), if_pos h1]
   ·rw [if_neg (by rw [h0]; decide), if_pos (by omega), if_neg h1, if_neg (by rw [h0]; decide)]
 refine (Zo (n := f + 3) (go 0 (by decide))).trans ((Zo (n := f + 2) (go 1 (by decide))).trans ((Zo (n := f + 1) (go 2 (by decide))).trans (Zo (n := f) ?_)));rw [st];unfold ZbM;rw [if_neg (by omega)]
omit rows
theorem run_2 (hB : ∀ x ∈ B, 0 ≤ x ∧ x ≤ 255) (hk : k.length = 3) : ∀ (d v5 v4 made : Nat) (at' : List Int) (rows : List Row) (O : List RJ) (S : Int → List Int) (L0 L1 L2 L3 : List Int) (T0 T1 T2 : List RG) (f : Nat), v5 + d = 200 → Lv k at' made P rows O S [T0, T1, T2] → Qf S L0 L1 L2 L3 → made ≤ v5 → v4 ≤ v5 → 2 * d + 30 ≤ f → ZW (Zj A B 100000) f (.h2m2 k at' made v4 v5 P rows O L0 L1 L2 L3 T0 T1 T2) = some (.r0 true) := by
 have done : ∀ (v5 v4 made : Nat) (at' : List Int) (rows : List Row) (O : List RJ) (S : Int → List Int) (L0 L1 L2 L3 : List Int) (T0 T1 T2 : List RG) (f : Nat), (v5 = 200 ∨ ¬ v4 < k.length) → v5 ≤ 200 → Lv k at' made P rows O S [T0, T1, T2] → Qf S L0 L1 L2 L3 → made ≤ v5 → 30 ≤ f → ZW (Zj A B 100000) f (.h2m2 k at' made v4 v5 P rows O L0 L1 L2 L3 T0 T1 T2) = some (.r0 true) := by
  intro v5 v4 made at' rows O S L0 L1 L2 L3 T0 T1 T2 f hv h5 V F hm hf;obtain ⟨f, rfl⟩ : ∃ g, f = g + 4 + 1 := ⟨f - 5, by omega⟩
  obtain ⟨rs2, e, l2, f2⟩ := Z0j V;obtain ⟨I, Y⟩ := V.sy;refine (Zo (n := f + 4) (y := .h4m2 k at' 0 P rs2 O L0 L1 L2 L3 T0 T1 T2) ?_).trans ((h4_2 rs2 hk (by rw [V.al, hk]) (by rw [l2, hk]) (fun s hs => f2 s (by omega)) f).trans (Z2X rs2 Y (by omega) F f (by omega)));refine Eq.trans (show _ = Zaz A B 100000 k at' made v4 v5 P rows O L0 L1 L2 L3 T0 T1 T2 from rfl) ?_;unfold Zaz;by_cases c : v5 = 200
  ·rw [if_neg (by omega), e]
   rfl
  ·rw [if_pos (by omega), if_neg (by omega), e]
   rfl
 intro d
 induction d with
 | zero =>
  intro v5 v4 made at' rows O S L0 L1 L2 L3 T0 T1 T2 f h V F hm h4 hf;exact done v5 v4 made at' rows O S L0 L1 L2 L3 T0 T1 T2 f (.inl (by omega)) (by omega) V F hm (by omega)
 | succ d ih =>
  intro v5 v4 made at' rows O S L0 L1 L2 L3 T0 T1 T2 f h V F hm h4 hf;by_cases c : v4 < k.length
  ·obtain ⟨at2, made2, rows2, O2, S2, M0, M1, M2, M3, U0, U1, U2, w4, e, V2, F2, m2, w2⟩ := h2_2 (A := A) (B := B) V F hk hB hm h4 (by omega) c
   obtain ⟨f, rfl⟩ : ∃ g, f = g + 2 := ⟨f - 2, by omega⟩
   rw [e f];exact ih (v5 + 1) w4 made2 at2 rows2 O2 S2 M0 M1 M2 M3 U0 U1 U2 f (by omega) V2 F2 m2 w2 (by omega)
  ·exact done v5 v4 made at' rows O S L0 L1 L2 L3 T0 T1 T2 f (.inr c) (by omega) V F hm (by omega)
variable (rows : List Row)
end
abbrev ob0 : RJ := ⟨2, 1048577, 1, 16, 255, 2, 0, [⟨2, 0⟩, ⟨2, 0⟩, ⟨2, 0⟩, ⟨2, 0⟩, ⟨2, 0⟩, ⟨2, 0⟩, ⟨2, 0⟩, ⟨2, 0⟩, ⟨1, 0⟩, ⟨1, 0⟩, ⟨1, 0⟩, ⟨1, 0⟩, ⟨1, 0⟩, ⟨1, 0⟩, ⟨1, 0⟩, ⟨1, 0⟩]⟩
abbrev rw0 : Row := ⟨0, 0, 0, 1, 0, 1, 0, 1, 0, 1, 0, 1, 0, 1, 0, 1, 0, 1, 0, []⟩
theorem Z0k {α : Type} {n t : Nat} {x d : α} (h : t < n) : (List.replicate n x).getD t d = x := by rw [List.getD_eq_getElem?_getD, List.getElem?_replicate, if_pos h];rfl
theorem Zh2 : ZcC 100000 = some .r0 := by kernel_rfl
theorem Z5W (P Q : List (List RI)) (rows : List Row) {v : Nat} (hv : P.length ≤ v) : ZeC P 100000 (.h1m1 v Q rows) = some (.inr (.r2 Q rows [ob0])) := by refine Eq.trans (show _ = Zcr P 100000 v Q rows from rfl) ?_;unfold Zcr;rw [if_neg (by omega)];kernel_rfl
theorem sy0 : Sy [ob0] (fun _ => []) (fun _ => []) 0 := by
 have z : ∀ i : Nat, i < ([ob0] : List RJ).length → i = 0 := fun i h => by rw [List.length_cons, List.length_nil] at h;omega
 have hq : ∀ q : Int, 0 ≤ q → q ≤ 3 → q = 0 ∨ q = 1 ∨ q = 2 ∨ q = 3 := fun q h1 h2 => by omega
 refine ⟨⟨⟨by decide, fun i h => ?_, fun i j h1 h2 _ => ?_, fun i h => ?_⟩, by decide, rfl, rfl, rfl, rfl, fun q h1 h2 => ?_, fun q h1 h2 => ?_, fun q h1 h2 => ?_, fun q h1 h2 => trivial, fun q p _ _ _ _ i h => (by cases h), fun q _ _ => List.nodup_nil⟩, fun j h1 h2 => ?_, rfl, fun q => Nat.zero_le _, by decide⟩
 ·rw [z i h]; rfl
 ·rw [z i h1, z j h2]
 ·rw [z i h]
  show Vd 1048577;unfold Vd;omega
 ·rcases hq q h1 h2 with rfl | rfl | rfl | rfl <;> rfl
 ·rcases hq q h1 h2 with rfl | rfl | rfl | rfl <;> rfl
 ·rcases hq q h1 h2 with rfl | rfl | rfl | rfl <;> rfl
 ·have := z j h2
  omega
section
variable {k : List (List RM)} (kn : k.length ≤ 3) (k1 : 1 ≤ k.length) (kb : ∀ r ∈ k, r.length ≤ 4 ∧ ∀ x ∈ r, By x)
include kn k1 kb
abbrev prs (k : List (List RM)) : List (List RI) := k.map fun r => prg 0 (Zf7 r)
omit kn k1 in
theorem chk {t : Nat} (ht : t < k.length) : ZaO ((prs k).getD t []) 100000 = some .r0 ∧ 0 < ((prs k).getD t []).length ∧ ((prs k).getD t []).length ≤ 100000 := by
 have e : (prs k).getD t [] = prg 0 (Zf7 (k.getD t [])) := ZsB _ ht _ _;obtain ⟨h1, h2⟩ := kb _ (ZbT (d := []) ht);have l4 : (Zf7 (k.getD t [])).length ≤ 4 := by rw [List.length_map]; exact h1
 rw [e];refine ⟨(ZpY l4 fun x hx => ?_).1, ?_⟩
 ·obtain ⟨y, hy, rfl⟩ := List.mem_map.1 hx
  exact (h2 y hy).ok
 ·rw [(Zqm _ 0).2]
  have := Zua (Zf7 (k.getD t [])) (Zf7 (k.getD t [])).length (Nat.le_refl _);omega
theorem Z6B : ZbX (prs k) 100000 = some (.r2 (prs k) (List.replicate k.length rw0) [ob0]) := by
 have pl : (prs k).length = k.length := List.length_map ..;have go : ∀ d j : Nat, j + d = k.length → 1 ≤ j → ZW (ZeC (prs k) 100000) (d + 1) (.h1m1 j ((prs k).take j) (List.replicate j rw0)) = some (.r2 (prs k) (List.replicate k.length rw0) [ob0]) := by
  intro d
  induction d with
  | zero =>
   intro j hj h1;refine ZE ?_;rw [Z5W _ _ _ (by omega), List.take_of_length_le (by omega), show j = k.length by omega]
  | succ d ih =>
   intro j hj h1;refine (Zo ?_).trans (ih (j + 1) (by omega) (by omega));obtain ⟨c1, c2, c3⟩ := chk kb (t := j) (by omega);refine Eq.trans (show _ = Zcr (prs k) 100000 j ((prs k).take j) (List.replicate j rw0) from rfl) ?_;unfold Zcr;rw [if_pos (by omega), c1, Option.bind_some];dsimp only;rw [if_pos c2, if_pos c3, if_pos (by rw [List.length_take]; omega), if_pos (by rw [List.length_replicate]; omega), if_pos (by omega), Zl3 (prs k) j [] (by omega), List.replicate_succ']
 obtain ⟨c1, c2, c3⟩ := chk kb (t := 0) (by omega);unfold ZbX;refine (ZaB (x := (.h1m0 : Za5)) ?_).trans ((Zo (n := 99999) (y := .h1m1 1 ((prs k).take 1) (List.replicate 1 rw0)) ?_).trans (Zej (n := k.length) (by omega) ?_))
 ·unfold Zhe
  rw [if_neg (by omega), if_neg (by omega)]
 ·refine Eq.trans (show _ = Zen (prs k) 100000 from rfl) ?_
  unfold Zen;rw [if_pos (by omega), c1, Option.bind_some];dsimp only;rw [if_pos c2, if_pos c3, Zl3 (prs k) 0 [] (by omega), List.take_zero];rfl
 ·have := go (k.length - 1) 1 (by omega) (Nat.le_refl _)
  rwa [show k.length - 1 + 1 = k.length by omega] at this
omit k1 in
theorem lv0 : Lv k (List.replicate k.length 0) 0 (prs k) (List.replicate k.length rw0) [ob0] (fun _ => []) (List.replicate k.length []) := by
 refine ⟨kn, kb, rfl, List.length_replicate, List.length_replicate, List.length_replicate, fun t ht => ⟨0, ?_, ?_⟩, _, sy0⟩
 ·rw [Z0k ht]
  rfl
 ·rw [Z0k ht, Z0k ht]
  exact Th.new ⟨1, 0⟩ ⟨1, 0⟩ ⟨1, 0⟩ ⟨1, 0⟩ ⟨1, 0⟩ ⟨1, 0⟩ ⟨1, 0⟩ ⟨1, 0⟩
end
section
variable {A : List (List RM)} {B : List Int} (hA : ∀ r ∈ A, ∀ x ∈ r, By x) (hB : ∀ x ∈ B, 0 ≤ x ∧ x ≤ 255)
include hA hB
abbrev kk (A : List (List RM)) (j : Nat) : List (List RM) := (A.take j).map (·.take 4)
omit hB in
theorem kk_ok (j : Nat) : ∀ r ∈ kk A j, r.length ≤ 4 ∧ ∀ x ∈ r, By x := by intro r hr;obtain ⟨s, hs, rfl⟩ := List.mem_map.1 hr;refine ⟨by rw [List.length_take]; omega, fun x hx => hA s (List.mem_of_mem_take hs) x (List.mem_of_mem_take hx)⟩
omit hA hB in
theorem Z3T {j : Nat} (hj : j ≤ A.length) : (kk A j).length = j := by rw [List.length_map, List.length_take];omega
omit hA hB in
theorem Z1Y {j : Nat} (hj : j < A.length) : kk A (j + 1) = kk A j ++ [(A.getD j []).take 4] := by rw [kk, Zl3 A j [] hj, List.map_append];rfl
omit hB in
theorem Z5t {j : Nat} (hj : j < A.length) : ZbA ((A.getD j []).take 4) 100000 = some (.r0 (prg 0 (Zf7 ((A.getD j []).take 4)))) :=
 Z2T (by rw [List.length_take]; omega) fun x hx => hA _ (ZbT hj) x (List.mem_of_mem_take hx)
theorem Z3U {j : Nat} (h1 : 1 ≤ j) (h3 : j ≤ 3) (hj : j ≤ A.length) (hc : j = 3 ∨ j = A.length) (f : Nat) (hf : 1000 ≤ f) : ZW (Zj A B 100000) f (.h1m1 (kk A j) (prs (kk A j)) j) = some (.r0 true) := by
 obtain ⟨f, rfl⟩ : ∃ g, f = g + 1 := ⟨f - 1, by omega⟩
 have kl := Z3T hj;have kb := kk_ok hA j;have ne := Z6B (by omega) (by omega) kb;have V := lv0 (by omega) kb;generalize kk A j = k at *;have hk : k.length = 1 ∨ k.length = 2 ∨ k.length = 3 := by omega
 rcases hk with hk | hk | hk
 ·rw [hk] at ne V
  refine (Zo (n := f) (y := .h2m0 k [(0 : Int)] 0 0 0 (prs k) (List.replicate 1 rw0) [ob0] [] [] [] [] []) ?_).trans (run_0 hB hk 200 0 0 0 _ _ _ _ [] [] [] [] [] f rfl V ⟨rfl, rfl, rfl, rfl⟩ (Nat.le_refl _) (Nat.le_refl _) (by omega));refine Eq.trans (show _ = Zaa A B 100000 k (prs k) j from rfl) ?_;unfold Zaa;by_cases c : j < A.length
  ·rw [if_pos (by omega), if_neg (by omega), ne, Option.bind_some]
   dsimp only;rw [Zh2, Option.bind_some, if_pos (by omega)]
  ·rw [if_neg (by omega), ne, Option.bind_some]
   dsimp only;rw [Zh2, Option.bind_some, if_pos (by omega)]
 ·rw [hk] at ne V
  refine (Zo (n := f) (y := .h2m1 k [(0 : Int), (0 : Int)] 0 0 0 (prs k) (List.replicate 2 rw0) [ob0] [] [] [] [] [] []) ?_).trans (run_1 hB hk 200 0 0 0 _ _ _ _ [] [] [] [] [] [] f rfl V ⟨rfl, rfl, rfl, rfl⟩ (Nat.le_refl _) (Nat.le_refl _) (by omega));refine Eq.trans (show _ = Zaa A B 100000 k (prs k) j from rfl) ?_;unfold Zaa;by_cases c : j < A.length
  ·rw [if_pos (by omega), if_neg (by omega), ne, Option.bind_some]
   dsimp only;rw [Zh2, Option.bind_some, if_neg (by omega), if_pos (by omega)]
  ·rw [if_neg (by omega), ne, Option.bind_some]
   dsimp only;rw [Zh2, Option.bind_some, if_neg (by omega), if_pos (by omega)]
 ·rw [hk] at ne V
  refine (Zo (n := f) (y := .h2m2 k [(0 : Int), (0 : Int), (0 : Int)] 0 0 0 (prs k) (List.replicate 3 rw0) [ob0] [] [] [] [] [] [] []) ?_).trans (run_2 hB hk 200 0 0 0 _ _ _ _ [] [] [] [] [] [] [] f rfl V ⟨rfl, rfl, rfl, rfl⟩ (Nat.le_refl _) (Nat.le_refl _) (by omega));refine Eq.trans (show _ = Zaa A B 100000 k (prs k) j from rfl) ?_;unfold Zaa;by_cases c : j < A.length
  ·rw [if_pos (by omega), if_neg (by omega), ne, Option.bind_some]
   dsimp only;rw [Zh2, Option.bind_some, if_neg (by omega), if_neg (by omega), if_pos (by omega)]
  ·rw [if_neg (by omega), ne, Option.bind_some]
   dsimp only;rw [Zh2, Option.bind_some, if_neg (by omega), if_neg (by omega), if_pos (by omega)]
theorem h1_go : ∀ (d j : Nat), j + d = 3 → 1 ≤ j → j ≤ A.length → ∀ f, 1000 + d ≤ f → ZW (Zj A B 100000) f (.h1m1 (kk A j) (prs (kk A j)) j) = some (.r0 true) := by
 intro d
 induction d with
 | zero => intro j hd h1 hj f hf; exact Z3U hA hB h1 (by omega) hj (.inl (by omega)) f (by omega)
 | succ d ih =>
  intro j hd h1 hj f hf;by_cases c : j = A.length
  ·exact Z3U hA hB h1 (by omega) hj (.inr c) f (by omega)
  ·obtain ⟨f, rfl⟩ : ∃ g, f = g + 1 := ⟨f - 1, by omega⟩
   refine (Zo (n := f) (y := .h1m1 (kk A (j + 1)) (prs (kk A (j + 1))) (j + 1)) ?_).trans (ih (j + 1) (by omega) (by omega) (by omega) f (by omega));have kl := Z3T hj;have pl : (prs (kk A j)).length = j := by rw [List.length_map, kl]
   have pe := Z5t hA (j := j) (by omega);have ke := Z1Y (A := A) (j := j) (by omega);have pk : prs (kk A (j + 1)) = prs (kk A j) ++ [prg 0 (Zf7 ((A.getD j []).take 4))] := by rw [ke, prs, List.map_append];rfl
   refine Eq.trans (show _ = Zaa A B 100000 (kk A j) (prs (kk A j)) j from rfl) ?_;unfold Zaa;rw [if_pos (by omega), if_pos (by omega)];by_cases q : (4 : Int) < (((A.getD j []).length : Nat) : Int)
   ·rw [if_pos q, pe, Option.bind_some]
    dsimp only;rw [if_pos (by omega), if_pos (by omega), pk, ke]
   ·rw [List.take_of_length_le (by omega)] at pe ke pk
    rw [if_neg q, pe, Option.bind_some];dsimp only;rw [if_pos (by omega), if_pos (by omega), pk, ke]
theorem Zx1 : Zij A B 100000 = some (.r0 true) := by
 unfold Zij;refine (ZaB (x := (.h1m0 : Zc)) rfl).trans ?_;have st : Zj A B 100000 .h1m0 = ZbJ A B 100000 := rfl;by_cases c : 0 < A.length
 ·refine (Zo (n := 99999) (y := .h1m1 (kk A 1) (prs (kk A 1)) 1) ?_).trans (h1_go hA hB 2 1 rfl (by decide) (by omega) 99999 (by decide))
  have pe := Z5t hA (j := 0) c;have ke : kk A 1 = [(A.getD 0 []).take 4] := (Z1Y (A := A) (j := 0) c).trans (by rw [kk, List.take_zero]; rfl);rw [st];unfold ZbJ;rw [if_pos (by omega)];by_cases q : (4 : Int) < (((A.getD 0 []).length : Nat) : Int)
  ·rw [if_pos q, pe, Option.bind_some]
   dsimp only;rw [ke];rfl
  ·rw [List.take_of_length_le (by omega)] at pe ke
   rw [if_neg q, pe, Option.bind_some];dsimp only;rw [ke];rfl
 ·refine ZE (n := 99999) ?_
  rw [st];unfold ZbJ;rw [if_neg (by omega)];have nw : Zgi 100000 = some .r0 := rfl;rw [nw, Option.bind_some];dsimp only;rw [Zh2];rfl
end
end Ev
end Go.Proofs.YthfohmhipifiaaaGreat
/- A region that draws its order, whose first operations only read (and make memory in calls), and whose last ones, in a forced order among themselves, make and write new memory: but these may come up early. -/
namespace Go.Proofs.YthfohmhipifiaaaGreat
open Go.RowKit

section
variable {P : Program}

end
end Go.Proofs.YthfohmhipifiaaaGreat
/- The law FifoOrder, for every input. -/
namespace Go.Proofs.YthfohmhipifiaaaGreat
open Go.ChangeShapes Go.WideShapes Go.ChangeAt Go.RowKit
namespace Ev
namespace FifoOrder
def Z5g (x : RM) : Prop := (IntKind.u8.min ≤ x.a0 ∧ x.a0 ≤ IntKind.u8.max) ∧ (IntKind.u8.min ≤ x.a1 ∧ x.a1 ≤ IntKind.u8.max) ∧ (IntKind.u8.min ≤ x.a2 ∧ x.a2 ≤ IntKind.u8.max) ∧ (IntKind.u8.min ≤ x.a3 ∧ x.a3 ≤ IntKind.u8.max) ∧ (IntKind.u8.min ≤ x.a4 ∧ x.a4 ≤ IntKind.u8.max)
theorem el1 {H : Type} {enc : TypeId × Value → H} {w : World} {cs : List Value} (hl : cs.length = 5) (h : Trd enc Tryz.prog w 25 cs) : ∃ x : RM, DecL w cs (RF.cel x) ∧ Z5g x := by have h0 := ZyA (by kernel_rfl : Tryz.prog.cellsOf 25 = 5) hl h;have h1 := Zk5 0 1 5 Tryz.underlying25 h0 0 (te := 5) (o' := 0) (by kernel_rfl) rfl (by kernel_rfl) (by kernel_rfl) (by decide);obtain ⟨x0, e0, b0⟩ := Zmq Tryz.underlying5 (by kernel_rfl) h1;have h2 := Zk5 1 1 5 Tryz.underlying25 h0 1 (te := 5) (o' := 1) (by kernel_rfl) rfl (by kernel_rfl) (by kernel_rfl) (by decide);obtain ⟨x1, e1, b1⟩ := Zmq Tryz.underlying5 (by kernel_rfl) h2;have h3 := Zk5 2 1 5 Tryz.underlying25 h0 2 (te := 5) (o' := 2) (by kernel_rfl) rfl (by kernel_rfl) (by kernel_rfl) (by decide);obtain ⟨x2, e2, b2⟩ := Zmq Tryz.underlying5 (by kernel_rfl) h3;have h4 := Zk5 3 1 5 Tryz.underlying25 h0 3 (te := 5) (o' := 3) (by kernel_rfl) rfl (by kernel_rfl) (by kernel_rfl) (by decide);obtain ⟨x3, e3, b3⟩ := Zmq Tryz.underlying5 (by kernel_rfl) h4;have h5 := Zk5 4 1 5 Tryz.underlying25 h0 4 (te := 5) (o' := 4) (by kernel_rfl) rfl (by kernel_rfl) (by kernel_rfl) (by decide);obtain ⟨x4, e4, b4⟩ := Zmq Tryz.underlying5 (by kernel_rfl) h5;refine ⟨(⟨x0, x1, x2, x3, x4⟩ : RM), Zuo (by rw [hl, Enc.clen]; rfl) (fun j y hy => ?_), ⟨b0, b1, b2, b3, b4⟩⟩;have := (ZiB (w := w) (k := 0) e0 .k (ZiB (w := w) (k := 1) e1 .k (ZiB (w := w) (k := 2) e2 .k (ZiB (w := w) (k := 3) e3 .k (ZiB (w := w) (k := 4) e4 .k (Zy9 (w := w))))))) j y hy;simpa using this
def el0R (x : List RM) : Prop := (x.length ≤ 9223372036854775807 ∧ ∀ y ∈ x, Z5g y)
theorem el0 {H : Type} {enc : TypeId × Value → H} {w : World} {cs : List Value} (hl : cs.length = 1) (h : Trd enc Tryz.prog w 23 cs) : ∃ x : List RM, DecL w cs ((Zp RF).cel x) ∧ el0R x := by have h0 := ZyA (by kernel_rfl : Tryz.prog.cellsOf 23 = 1) hl h;obtain ⟨x0, v0, e0, d0, b0⟩ := Z49 (E := RF) (Q := Z5g) Tryz.underlying23 (by kernel_rfl) (by kernel_rfl) (by decide) (fun _ => el1) h0;refine ⟨(x0 : List RM), Zuo (by rw [hl, Enc.clen]; rfl) (fun j y hy => ?_), b0⟩;have := (ZiB (w := w) (k := 0) e0 d0 (Zy9 (w := w))) j y hy;simpa using this
def el2R (x : Int) : Prop := (IntKind.u8.min ≤ x ∧ x ≤ IntKind.u8.max)
theorem el2 {H : Type} {enc : TypeId × Value → H} {w : World} {cs : List Value} (hl : cs.length = 1) (h : Trd enc Tryz.prog w 5 cs) : ∃ x : Int, DecL w cs ((Zcq .u8).cel x) ∧ el2R x := by have h0 := ZyA (by kernel_rfl : Tryz.prog.cellsOf 5 = 1) hl h;obtain ⟨x0, e0, b0⟩ := Zmq Tryz.underlying5 (by kernel_rfl) h0;refine ⟨(x0 : Int), Zuo (by rw [hl, Enc.clen]; rfl) (fun j y hy => ?_), b0⟩;have := (ZiB (w := w) (k := 0) e0 .k (Zy9 (w := w))) j y hy;simpa using this
theorem own : ownKnob Tryz.prog.godebug = none := by kernel_rfl
set_option maxRecDepth 100000 in
theorem lifted (os : Os) (started : os.Started) (H : Type) (enc : TypeId × Value → H) :
  ReturnsInHanded {} Tryz.checked os 4 .any (Rows.fifoOrderSpec.pre6 enc Tryz.prog Tryz.f4 Rows.fifoOrderRow.domain false) (Rows.fifoOrderSpec.post enc Tryz.prog Tryz.f4 false true false false) := by
 refine Z33 (C := Tryz.checked) own started (by kernel_rfl) Tryz.func4 rfl rfl Tryz.underlying4 ?_ (by kernel_rfl) (by kernel_rfl)
  (ChangeSpec.witness6 (enc := enc) (C := Tryz.checked) false ⟨#[], #[.slice none 0 0, .slice none 0 0], []⟩ 8 (by kernel_rfl) (by kernel_rfl) (by kernel_rfl) (by kernel_rfl)) ?_
 ·intro ds hlen
  have hlen : ds.length = 2 := hlen.trans (by kernel_rfl)
  match ds, hlen with
  | [_, _], _ => rfl
 intro W base args ds p hval hA hlt hsz;rw [Tryz.params4] at hA hval;obtain ⟨v0, vs0, d0, ds0, p0, q0, hargs, rfl, rfl, h0, r0⟩ := trodAll_cons hA;obtain ⟨v1, vs1, d1, ds1, p1, q1, rfl, rfl, rfl, h1, r1⟩ := trodAll_cons r0;obtain ⟨rfl, rfl, rfl⟩ := trodAll_nil r1;obtain rfl : args = #[v0, v1] := by cases args; simp_all
 obtain ⟨a0, l0, c0, rfl⟩ := Go.WideShapes.okWide_slice Tryz.underlying47 (hval 0 47 v0 rfl rfl);obtain ⟨L0, u0, e0, D0, n0, m0⟩ := ZoY (E := (Zp RF)) (Q := el0R) Tryz.underlying47 (by kernel_rfl) (by decide) (fun _ => el0) (Z1G h0);obtain rfl : u0 = .slice a0 l0 c0 := by have := e0; simp [Value.cells] at this; exact this.symm
 obtain ⟨a1, l1, c1, rfl⟩ := Go.WideShapes.okWide_slice Tryz.underlying22 (hval 1 22 v1 rfl rfl);obtain ⟨L1, u1, e1, D1, n1, m1⟩ := ZoY (E := (Zcq .u8)) (Q := el2R) Tryz.underlying22 (by kernel_rfl) (by decide) (fun _ => el2) (Z1G h1);obtain rfl : u1 = .slice a1 l1 c1 := by have := e1; simp [Value.cells] at this; exact this.symm
 exact Z6n (ZnB L0 L1 100000 _ (Zx1 (fun r hr x hx => ⟨((m0 r hr).2 x hx).1, ((m0 r hr).2 x hx).2.1, ((m0 r hr).2 x hx).2.2.1, ((m0 r hr).2 x hx).2.2.2.1, ((m0 r hr).2 x hx).2.2.2.2⟩) m1)) (Zyp (show VR (ιMk W) (ms (Zp RF) L0) _ from D0.vr) (Zyp (show VR (ιMk W) (ms (Zcq .u8) L1) _ from D1.vr) Z55)) rfl
theorem over : Rows.fifoOrderRow.holds Tryz.pinned (OpenSpec.ofChange Rows.fifoOrderSpec) :=
 OpenClaim.holds_of_wide 4 Tryz.f4 rfl rfl rfl rfl rfl rfl rfl ⟨rfl, rfl, rfl, rfl, rfl⟩ rfl rfl rfl rfl rfl (by kernel_rfl) Tryz.func4 (by kernel_rfl)
  (of_decide_eq_true (by kernel_rfl)) (by unfold Func.isWrapper; first | (rw [if_pos (by decide +kernel)]; kernel_rfl) | (rw [if_neg (by decide +kernel)]; exact ⟨rfl, rfl⟩))
  (fun os started H enc _ => lifted os started H enc)
theorem proved : Rows.FifoOrderSaid := over
#print axioms proved
end FifoOrder
end Ev
end Go.Proofs.YthfohmhipifiaaaGreat
