/- The law AsmBeside, for every input. -/
import Derived.Test.YtlbbiflodemagaaDoorZaf
import Derived.Test.YtlbbiflodemagaaDoorZad
import Derived.Test.YtlbbiflodemagaaDoorZac
import Derived.StillTail
import Derived.OrdersHeld
import Derived.WideBlind
import Derived.Lib.LaidTab
import Derived.LaidMore
import Derived.LaidSub
import Derived.MakeChecks
import Derived.Handed
import Derived.Stop.Joined
import Derived.LaidLaws
import Derived.Test.YtlbbiflodemagaaDoorTie
import Derived.Test.YtlbbiflodemagaaDoorCards
import Derived.Lay
set_option linter.unusedSimpArgs false
set_option linter.unusedVariables false
/- Calls do what the plain functions say. -/
namespace Go.Proofs.YtlbbiflodemagaaDoor
open Go.RowKit
namespace Ev
set_option linter.unusedVariables false
set_option maxRecDepth 100000
set_option maxHeartbeats 4000000 in
theorem Zlk (L0 : List Int) (a1 : Int) (L2 v0 v1 : List Int) (v2 : Int) (v3 : List RA) (N : Nat) : (Z1 L0 a1 L2 N).Ok Tryd.prog Za7 (.h3m1 v0 v1 v2 v3 : Zy) (Za1 L0 a1 L2 N (.h3m1 v0 v1 v2 v3 : Zy)) := by
 show (Z1 L0 a1 L2 N).Ok Tryd.prog Za7 (.h3m1 v0 v1 v2 v3 : Zy) (Zcw L0 a1 L2 N v0 v1 v2 v3)
 unfold Zcw
 refine Mach.ok_ite (fun g0 => ?_) (fun _ => Mach.ok_none)
 refine Mach.ok_ite (fun g1 => ?_) (fun _ => Mach.ok_none)
 have w2 : OkL (Zh6 L0 a1 L2 v0 v1 v2 v3) :=
  Zc (Zp (sSl (M := v0) (R := (v0.take (v2).toNat)) rfl (by (try simp only [Z6] at *); omega) (by (try simp only [Z6] at *); omega) (by (try simp only [Z6] at *); omega) (by first | rfl | simp))) <| Z9
 refine Mach.ok_ite (fun g2 => ?_) (fun _ => Mach.ok_none)
 have w3 : OkL (Zh7 L0 a1 L2 v0 v1 v2 v3) :=
  Zc (Zp (ZeL (x := (v0.take (v2).toNat)) (y := (bl [35])) rfl rfl ltA)) <| w2
 refine Mach.ok_ite (fun g3 => ?_) (fun _ => Mach.ok_none)
 have w4 : OkL (Zh8 L0 a1 L2 v0 v1 v2 v3) :=
  Zc (Zp (ZeL (x := ((v0.take (v2).toNat) ++ (bl [35]))) (y := v1) sE rfl ltA)) <| w3
 refine Mach.ok_ite (fun g4 => ?_) (fun _ => Mach.ok_none)
 have w5 : OkL (Zh9 L0 a1 L2 v0 v1 v2 v3) :=
  Zc (Zp (Zsn (M := v0) (R := (v0.drop (v2).toNat)) rfl (by (try simp only [Z6] at *); omega) (by (try simp only [Z6] at *); omega) (by first | rfl | simp))) <| Zc (Zp (ZeL (x := (((v0.take (v2).toNat) ++ (bl [35])) ++ v1)) (y := (bl [10, 10])) sE rfl ltA)) <| w4
 refine Mach.ok_ite (fun g5 => ?_) (fun _ => Mach.ok_none)
 have w6 : OkL (Zfp L0 a1 L2 v0 v1 v2 v3) :=
  Zc (Zp (ZeL (x := (inT v0 v1 v2)) (y := (v0.drop (v2).toNat)) sE rfl ltA)) <| w5
 refine Mach.ok_bind (fun z6 c6 => ?_)
 cases z6 with
 | r0 y6_0 y6_1 =>
  have w7 : OkL (Zfq L0 a1 L2 v0 v1 v2 v3 y6_0 y6_1) :=
   Zc (Zp (Zia #[Value.string (((((Za (v0.take (v2).toNat)) ++ (Za (bl [35]))) ++ (Za v1)) ++ (Za (bl [10, 10]))) ++ (Za (v0.drop (v2).toNat)))] (((inT v0 v1 v2) ++ (v0.drop (v2).toNat)))  y6_0 y6_1 N c6  1 (Zl5 (Ze (congrArg Value.string sE) rfl)) (by decide) (by decide))) <| w6
  refine Mach.ok_bind (fun z7 c7 => ?_)
  cases z7 with
  | r0 y7_0 =>
   refine Mach.ok_ite (fun g8 => ?_) (fun g8 => ?_)
   ·
    subst g8
    have w9 : OkL (ZdN L0 a1 L2 v0 v1 v2 v3 y6_0 y6_1) :=
     Zc (Zp (Zlc #[vs 0 0 v3.length v3.length, vn] (v3)  true N c7 0 1 rfl dcd dcd)) <| oR <| w7
    refine Mach.ok_ite (fun g9 => ?_) (fun g9 => ?_)
    ·
     refine Mach.ok_ite (fun g10 => ?_) (fun g10 => ?_)
     ·
      exact Mach.ok_fin (M := Z1 L0 a1 L2 N) (cd := 1000000) (cm := 0) (r := (.r0 (true) : Zv)) (fu := 4000) (orc := (Zs [(0, true), (3, true)] [] [] [] [(0, .bs (v0.take (v2).toNat)), (1, .bs (v0.drop (v2).toNat)), (2, (Zbn (((inT v0 v1 v2) ++ (v0.drop (v2).toNat)))  y6_0 y6_1  1)), (3, (Zgl (v3)  true 0 1))])) (live := []) (u := vT) (bl := []) (ob := (((y6_0 == (0 : Int)), true) :: (((0 : Int) == y6_1), true) :: ZdN L0 a1 L2 v0 v1 v2 v3 y6_0 y6_1)) (fun gv => by as_aux_lemma => kernel_rfl) (oT <| oT <| w9) rfl (by decide) (by rfl) rr trivial
     ·
      exact Mach.ok_fin (M := Z1 L0 a1 L2 N) (cd := 1000000) (cm := 0) (r := (.r0 (false) : Zv)) (fu := 4000) (orc := (Zs [(0, true), (3, false)] [] [] [] [(0, .bs (v0.take (v2).toNat)), (1, .bs (v0.drop (v2).toNat)), (2, (Zbn (((inT v0 v1 v2) ++ (v0.drop (v2).toNat)))  y6_0 y6_1  1)), (3, (Zgl (v3)  true 0 1))])) (live := []) (u := vf) (bl := []) (ob := (((y6_0 == (0 : Int)), false) :: (((0 : Int) == y6_1), true) :: ZdN L0 a1 L2 v0 v1 v2 v3 y6_0 y6_1)) (fun gv => by as_aux_lemma => kernel_rfl) (oF <| oT <| w9) rfl (by decide) (by rfl) rr trivial
    ·
     exact Mach.ok_fin (M := Z1 L0 a1 L2 N) (cd := 1000000) (cm := 0) (r := (.r0 (false) : Zv)) (fu := 4000) (orc := (Z2 [o0] [] [] [] [(0, .bs (v0.take (v2).toNat)), (1, .bs (v0.drop (v2).toNat)), (2, (Zbn (((inT v0 v1 v2) ++ (v0.drop (v2).toNat)))  y6_0 y6_1  1)), (3, (Zgl (v3)  true 0 1))])) (live := []) (u := vf) (bl := []) (ob := ((((0 : Int) == y6_1), false) :: ZdN L0 a1 L2 v0 v1 v2 v3 y6_0 y6_1)) (fun gv => by as_aux_lemma => kernel_rfl) (oF <| w9) rfl (by decide) (by rfl) rr trivial
   ·
    obtain rfl : y7_0 = false := by simpa using g8
    exact Mach.ok_fin (M := Z1 L0 a1 L2 N) (cd := 1000000) (cm := 0) (r := (.r0 (false) : Zv)) (fu := 4000) (orc := (Zs [] [] [] [] [(0, .bs (v0.take (v2).toNat)), (1, .bs (v0.drop (v2).toNat)), (2, (Zbn (((inT v0 v1 v2) ++ (v0.drop (v2).toNat)))  y6_0 y6_1  1)), (3, (Zgl (v3)  false 0 1))])) (live := []) (u := vf) (bl := []) (ob := ((dP (ZhV #[vs 0 0 v3.length v3.length, vn] (v3)  false 0 1), true) :: (dS (Zb Zd v3), true) :: Zfq L0 a1 L2 v0 v1 v2 v3 y6_0 y6_1)) (fun gv => by as_aux_lemma => kernel_rfl) (Zc (Zp (Zlc #[vs 0 0 v3.length v3.length, vn] (v3)  false N c7 0 1 rfl dcd dcd)) <| oR <| w7) rfl (by decide) (by rfl) rr trivial
 | r1 y6_0 =>
  have w7 : OkL (Zfr L0 a1 L2 v0 v1 v2 v3 y6_0) :=
   Zc (Zp (Zib #[Value.string (((((Za (v0.take (v2).toNat)) ++ (Za (bl [35]))) ++ (Za v1)) ++ (Za (bl [10, 10]))) ++ (Za (v0.drop (v2).toNat)))] (((inT v0 v1 v2) ++ (v0.drop (v2).toNat)))  y6_0 N c6  1 (Zl5 (Ze (congrArg Value.string sE) rfl)) (by decide) (by decide))) <| w6
  refine Mach.ok_bind (fun z7 c7 => ?_)
  cases z7 with
  | r0 y7_0 =>
   refine Mach.ok_ite (fun g8 => ?_) (fun g8 => ?_)
   ·
    subst g8
    exact Mach.ok_fin (M := Z1 L0 a1 L2 N) (cd := 1000000) (cm := 0) (r := (.r0 (true) : Zv)) (fu := 4000) (orc := (Zs [] [] [] [] [(0, .bs (v0.take (v2).toNat)), (1, .bs (v0.drop (v2).toNat)), (2, (Zd5 (((inT v0 v1 v2) ++ (v0.drop (v2).toNat)))  y6_0  1)), (3, (Zlf (v3) (y6_0)  true 0 1 2))])) (live := []) (u := vT) (bl := []) (ob := ((dP (ZhW #[vs 0 0 v3.length v3.length, vs 1 0 y6_0.length y6_0.length] (v3) (y6_0)  true 0 1 2), true) :: (dS (Zb Zd v3), true) :: (dS (Zb Zd y6_0), true) :: Zfr L0 a1 L2 v0 v1 v2 v3 y6_0)) (fun gv => by as_aux_lemma => kernel_rfl) (Zc (Zp (Zlg #[vs 0 0 v3.length v3.length, vs 1 0 y6_0.length y6_0.length] (v3) (y6_0)  true N c7 0 1 2 rfl dcd dcd)) <| oR <| oR <| w7) rfl (by decide) (by rfl) rr trivial
   ·
    obtain rfl : y7_0 = false := by simpa using g8
    exact Mach.ok_fin (M := Z1 L0 a1 L2 N) (cd := 1000000) (cm := 0) (r := (.r0 (false) : Zv)) (fu := 4000) (orc := (Zs [] [] [] [] [(0, .bs (v0.take (v2).toNat)), (1, .bs (v0.drop (v2).toNat)), (2, (Zd5 (((inT v0 v1 v2) ++ (v0.drop (v2).toNat)))  y6_0  1)), (3, (Zlf (v3) (y6_0)  false 0 1 2))])) (live := []) (u := vf) (bl := []) (ob := ((dP (ZhW #[vs 0 0 v3.length v3.length, vs 1 0 y6_0.length y6_0.length] (v3) (y6_0)  false 0 1 2), true) :: (dS (Zb Zd v3), true) :: (dS (Zb Zd y6_0), true) :: Zfr L0 a1 L2 v0 v1 v2 v3 y6_0)) (fun gv => by as_aux_lemma => kernel_rfl) (Zc (Zp (Zlg #[vs 0 0 v3.length v3.length, vs 1 0 y6_0.length y6_0.length] (v3) (y6_0)  false N c7 0 1 2 rfl dcd dcd)) <| oR <| oR <| w7) rfl (by decide) (by rfl) rr trivial

set_option maxHeartbeats 4000000 in
theorem ZmE (L0 : List Int) (a1 : Int) (L2 : List Int) (N : Nat) : (Z1 L0 a1 L2 N).Enter Tryd.prog Za7 #[Value.string (Za L0), Value.int .u16 a1, Value.string (Za L2)] (Zev L0 a1 L2 N) := by
 unfold Zev
 refine Mach.en_bind (fun z0 c0 => ?_)
 cases z0 with
 | r0 y0_0 =>
  refine Mach.en_bind (fun z1 c1 => ?_)
  cases z1 with
  | r0 y1_0 =>
   exact Mach.en_head (bK := ZM 1) (M := Z1 L0 a1 L2 N) (cd := 1000000) (cm := 0) (y := (.h1m0 (y0_0) (y1_0) (0) : Zy)) (fu := 4000) (orc := (Zs [] [] [] [] [(0, (ZnD (L0)  y0_0  0)), (1, (ZnD (L2)  y1_0  0))])) (live := []) (tv := [some (Value.string (Za y0_0)), some (Value.int .u16 a1), some (Value.string (Za y1_0)), some (vq)]) (bl := []) (ob := ((dP (Zks #[Value.string (Za L2)] (L2)  y1_0  0), true) :: (dP (Zks #[Value.string (Za L0)] (L0)  y0_0  0), true) :: [])) rfl rfl (show ZJ (ZM 1).2 = [] from rfl) (by as_aux_lemma => kernel_rfl) (Zc (Zp (ZnE #[Value.string (Za L2)] (L2)  y1_0 N c1  0 rfl dcd dcd)) <| Zc (Zp (ZnE #[Value.string (Za L0)] (L0)  y0_0 N c0  0 rfl dcd dcd)) <| Z9) rfl (by decide) (by rfl) ⟨rr, ⟨rr, ⟨rr, ⟨⟨Eq.trans (show (vi ((0 : Nat) : Int) : Value) = vq from (congrArg (Value.int .i64) (by first | rfl | omega))) (by rfl), by rfl⟩, trivial⟩⟩⟩⟩ trivial

theorem ZlC (L0 : List Int) (a1 : Int) (L2 : List Int) (N : Nat) (r : Zv) (h : Zh0 L0 a1 L2 N = some r) : LSpec Tryd.prog 5 #[Value.string (Za L0), Value.int .u16 a1, Value.string (Za L2)] [] (ZjO L0 a1 L2 r) (ZiO L0 a1 L2 r) :=
 Mach.spec Zjk (Z1 L0 a1 L2 N) Tryd.func5 (by kernel_rfl) (by kernel_rfl) (fun x => by cases x <;> exact Zaq _ rfl) (fun r => by cases r <;> exact Zaq _ rfl) (fun x => by
  cases x with
  | h1m0 _ _ _ => exact fun _ => (show ¬ (1 ∈ ZJ (ZM 1).2) from by decide +kernel)
  | h2m0 _ _ _ => exact fun _ => (show ¬ (2 ∈ ZJ (ZM 2).2) from by decide +kernel)
  | h3m0 _ _ _ _ _ => exact fun _ => (show ¬ (3 ∈ ZJ (ZM 3).2) from by decide +kernel)
  | h3m1 _ _ _ _ => exact fun _ => (show ¬ (3 ∈ ZJ (ZM 3).2) from by decide +kernel)
  ) (fun x => (show (Z1 L0 a1 L2 N).Ok Tryd.prog Za7 x (Za1 L0 a1 L2 N x) from by
  cases x with
  | h1m0 v0 v2 v3 => exact Zlh L0 a1 L2 v0 v2 v3 N
  | h2m0 v0 v1 v2 => exact Zli L0 a1 L2 v0 v1 v2 N
  | h3m0 v0 v1 v2 v3 v4 => exact Zlj L0 a1 L2 v0 v1 v2 v3 v4 N
  | h3m1 v0 v1 v2 v3 => exact Zlk L0 a1 L2 v0 v1 v2 v3 N
  )) (ZmE L0 a1 L2 N) (n := N) h

end Ev
end Go.Proofs.YtlbbiflodemagaaDoor
/- Plain lemmas: machines step by step, lists by their places. -/
namespace Go.Proofs.YtlbbiflodemagaaDoor
open Go.RowKit
namespace Ev
section
variable {X R : Type} {step : X → Option (X ⊕ R)} {n : Nat} {x y : X} {r : R}
theorem Zd6 (h : step x = some (.inl y)) : ZcV step (n + 1) x = ZcV step n y := by simp [ZcV, h]
theorem Zcm (h : step x = some (.inr r)) : ZcV step (n + 1) x = some r := by simp [ZcV, h]
theorem ZdW : ∀ {n m : Nat} {x : X} {r : R}, n ≤ m → ZcV step n x = some r → ZcV step m x = some r
 | 0, _, _, _, _, h => by cases h
 | n + 1, 0, _, _, h, _ => by omega
 | n + 1, m + 1, x, r, h, e => by
  simp only [ZcV] at e ⊢
  cases hs : step x with
  | none => rw [hs] at e; cases e
  | some y =>
   rw [hs] at e
   cases y with
   | inl y => exact ZdW (by omega) e
   | inr r' => exact e
theorem ZmF {o : Option (X ⊕ R)} (h : o = some (.inl x)) : goM step n o = ZcV step n x := by subst h; rfl
theorem ZtG {o : Option (X ⊕ R)} (h : o = some (.inr r)) : goM step n o = some r := by subst h; rfl
end
section
variable {α : Type}
theorem ZvC {L : List α} {i : Nat} (h : i < L.length) (d : α) : L.take i ++ [L.getD i d] = L.take (i + 1) := by
 rw [List.take_succ_eq_append_getElem h, List.getD_eq_getElem?_getD, List.getElem?_eq_getElem h, Option.getD_some]
theorem ZiC {L M : List α} {i : Nat} {d : α} (h : i < L.length) : (L ++ M).getD i d = L.getD i d := by simp [List.getElem?_append_left h]
theorem ZmG {L : List α} {v d : α} : (L ++ [v]).getD L.length d = v := by simp
theorem Zkt {L : List α} {i : Nat} {d : α} (h : L.length ≤ i) : L.getD i d = d := by simp [List.getElem?_eq_none h]
end
theorem ZcL {α : Type} {c : Prop} [Decidable c] {a b r : α} (h1 : c → a = r) (h2 : ¬ c → b = r) : (if c then a else b) = r := by
 by_cases h : c
 ·rw [if_pos h]; exact h1 h
 ·rw [if_neg h]; exact h2 h
theorem Zu {α : Type} {c : Prop} [Decidable c] {a b r : α} (h : c) (e : a = r) : (if c then a else b) = r := by rw [if_pos h]; exact e
theorem ZH {α : Type} {c : Prop} [Decidable c] {a b r : α} (h : ¬ c) (e : b = r) : (if c then a else b) = r := by rw [if_neg h]; exact e
theorem Zak {α β : Type} {o : Option α} {a : α} {k : α → Option β} {r : Option β} (h : o = some a) (e : k a = r) : o.bind k = r := by rw [h]; exact e
theorem w64 {x : Int} (h1 : -9223372036854775808 ≤ x) (h2 : x ≤ 9223372036854775807) : IntKind.i64.wrap x = x := wrap_i64 ⟨h1, h2⟩
end Ev
end Go.Proofs.YtlbbiflodemagaaDoor
/- What Parse's parts are, plainly. -/
namespace Go.Proofs.YtlbbiflodemagaaDoor
open Go.RowKit
namespace Ev
set_option linter.unusedVariables false
theorem ZjP {x : List Int} : ZaN x [] = true ↔ x = [] := by
 constructor
 ·intro h
  have h1 : Za x = Za [] := bEq.1 h
  have h2 := congrArg ByteArray.size h1
  rw [Z6, Z6] at h2
  exact List.length_eq_zero_iff.1 h2
 ·intro h
  subst h
  exact bEq.2 rfl
theorem Zs5 {c : Prop} [Decidable c] {α β : Type} {f : β → α} {A B : Option α} (h1 : ∃ x, A = some (f x)) (h2 : ∃ x, B = some (f x)) : ∃ x, (if c then A else B) = some (f x) := by
 by_cases h : c
 ·rw [if_pos h]; exact h1
 ·rw [if_neg h]; exact h2
theorem ZvD (a0 a1 a2 a3 : Int) (N : Nat) : ∃ c, Zas a0 a1 a2 a3 N = some (.r0 c) := by
 unfold Zas
 repeat' (first | exact ⟨_, rfl⟩ | refine Zs5 ?_ ?_)
theorem ZuG (M : List Int) (N : Nat) : ∃ x : Int × Bool, ZcH M N = some (.r0 x.1 x.2) := by
 unfold ZcH
 repeat' (first | exact ⟨(_, _), rfl⟩ | refine Zs5 (f := fun x : Int × Bool => instr_ByNameR.r0 x.1 x.2) ?_ ?_)
theorem Zs6 (a : Int) (N : Nat) : ∃ s, Zax a N = some s := by
 unfold Zax
 repeat' (first | exact ⟨_, rfl⟩ | refine Zs5 (f := id) ?_ ?_)
/-! ### Labels -/
def ZmH (c : Int) : Bool := decide (97 ≤ c ∧ c ≤ 122 ∨ 65 ≤ c ∧ c ≤ 90 ∨ 48 ≤ c ∧ c ≤ 57 ∨ c = 95)
def ZfZ (M : List Int) : Bool := decide (1 ≤ M.length ∧ M.length ≤ 32) && M.all ZmH
theorem Zxm {c : Int} (h : 97 ≤ c ∧ c ≤ 122 ∨ 65 ≤ c ∧ c ≤ 90 ∨ 48 ≤ c ∧ c ≤ 57 ∨ c = 95) : ZmH c = true := decide_eq_true h
theorem Zx9 {c : Int} (h : ¬ (97 ≤ c ∧ c ≤ 122 ∨ 65 ≤ c ∧ c ≤ 90 ∨ 48 ≤ c ∧ c ≤ 57 ∨ c = 95)) : ZmH c = false := decide_eq_false h
theorem Zw0 (M : List Int) (N v : Nat) (h : v < M.length) (hM : M.length ≤ 32) : ZcP M N (.h1m0 v) = some (if ZmH (M.getD v 0) = true then .inl (.h1m0 (v + 1)) else .inr (.r0 false)) := by
 show ZbZ M N v = _
 unfold ZbZ
 generalize M.getD v 0 = c
 have hv : (((v + 1) : Nat) : Int) ≤ (9223372036854775807 : Int) := by omega
 refine Zu (by omega) ?_
 have Y : (h : 97 ≤ c ∧ c ≤ 122 ∨ 65 ≤ c ∧ c ≤ 90 ∨ 48 ≤ c ∧ c ≤ 57 ∨ c = 95) → (some (.inl (.h1m0 (v + 1))) : Option (ZX ⊕ ZR)) = some (if ZmH c = true then .inl (.h1m0 (v + 1)) else .inr (.r0 false)) := fun h => by rw [if_pos (Zxm h)]
 have Z : (h : ¬ (97 ≤ c ∧ c ≤ 122 ∨ 65 ≤ c ∧ c ≤ 90 ∨ 48 ≤ c ∧ c ≤ 57 ∨ c = 95)) → (some (.inr (.r0 false)) : Option (ZX ⊕ ZR)) = some (if ZmH c = true then .inl (.h1m0 (v + 1)) else .inr (.r0 false)) := fun h => by rw [if_neg (by rw [Zx9 h]; decide)]
 refine ZcL (fun g1 => ZcL (fun g2 => Zu hv (Y (by omega))) (fun g2 => Z (by omega))) (fun g1 => ZcL (fun g2 => ZcL (fun g3 => Zu hv (Y (by omega))) (fun g3 => ZcL (fun g4 => Zu hv (Y (by omega))) (fun g4 => Z (by omega)))) (fun g2 => ZcL (fun g3 => ZcL (fun g4 => Zu hv (Y (by omega))) (fun g4 => Z (by omega))) (fun g3 => Z (by omega))))
theorem Zs7 (M : List Int) (N : Nat) (hM : M.length ≤ 32) : ∀ (k v : Nat), v + k = M.length → ZcV (ZcP M N) (k + 1) (.h1m0 v) = some (.r0 ((M.drop v).all ZmH))
 | 0, v, h => by
  refine Zcm ?_
  show ZbZ M N v = _
  unfold ZbZ
  rw [if_neg (by omega), List.drop_of_length_le (by omega)]
  rfl
 | k + 1, v, h => by
  have hs := Zw0 M N v (by omega) hM
  have hd : M.drop v = M.getD v 0 :: M.drop (v + 1) := by
   rw [List.drop_eq_getElem_cons (by omega)]
   simp [List.getD, show v < M.length by omega]
  rw [hd, List.all_cons]
  cases hc : ZmH (M.getD v 0) with
  | true =>
   rw [hc, if_pos rfl] at hs
   rw [Zd6 hs, Zs7 M N hM k (v + 1) (by omega)]
   simp
  | false =>
   rw [hc, if_neg (by decide)] at hs
   rw [Zcm hs]
   simp
theorem Zpo (M : List Int) (N : Nat) (hb : ZL M = true) (hN : 33 ≤ N) : Zfm M N = some (.r0 (ZfZ M)) := by
 unfold Zfm ZfZ
 by_cases h1 : M.length < 1
 ·rw [ZtG (r := .r0 false) (by unfold ZdT; rw [Z6, if_pos (by omega)])]
  rw [decide_eq_false (by omega)]; rfl
 ·by_cases h2 : 32 < M.length
  ·rw [ZtG (r := .r0 false) (by unfold ZdT; rw [Z6, if_neg (by omega), if_pos (by omega)])]
   rw [decide_eq_false (by omega)]; rfl
  ·rw [ZmF (x := .h1m0 0) (by unfold ZdT; rw [Z6, if_neg (by omega), if_neg (by omega), if_pos hb])]
   rw [decide_eq_true (by omega), Bool.true_and]
   exact ZdW (by omega) (Zs7 M N (by omega) M.length 0 (by omega))
/-! ### Words -/
theorem ZqD (c : Int) : ∀ M, 0 < (Zao c M).length
 | [] => by simp [Zao]
 | x :: l => by
  unfold Zao
  by_cases h : x = c
  ·rw [if_pos h]; simp
  ·rw [if_neg h]; simp
theorem ZqE (c : Int) : ∀ (M w : List Int), w ∈ Zao c M → (∀ x ∈ w, x ∈ M) ∧ w.length ≤ M.length
 | [], w, h => by
  obtain rfl : w = [] := by simpa [Zao] using h
  exact ⟨fun x hx => (by cases hx), by simp⟩
 | x :: l, w, h => by
  have ih := ZqE c l
  unfold Zao at h
  by_cases hx : x = c
  ·rw [if_pos hx] at h
   rcases List.mem_cons.1 h with rfl | h
   ·exact ⟨fun x hx => (by cases hx), by simp⟩
   ·obtain ⟨h1, h2⟩ := ih w h
    exact ⟨fun y hy => List.mem_cons_of_mem _ (h1 y hy), by simp; omega⟩
  ·rw [if_neg hx] at h
   have hp := ZqD c l
   generalize Zao c l = S at *
   cases S with
   | nil => cases hp
   | cons a S =>
    simp only [List.headD_cons, List.tail_cons] at h
    rcases List.mem_cons.1 h with rfl | h
    ·obtain ⟨h1, h2⟩ := ih a (List.mem_cons_self ..)
     refine ⟨fun y hy => ?_, by simp; omega⟩
     rcases List.mem_cons.1 hy with rfl | hy
     ·exact List.mem_cons_self ..
     ·exact List.mem_cons_of_mem _ (h1 y hy)
    ·obtain ⟨h1, h2⟩ := ih w (List.mem_cons_of_mem _ h)
     exact ⟨fun y hy => List.mem_cons_of_mem _ (h1 y hy), by simp; omega⟩
theorem ZlD {M : List Int} (h : ∀ x ∈ M, 0 ≤ x ∧ x ≤ 255) : ZL M = true := by
 unfold ZL
 rw [List.all_eq_true]
 intro x hx
 have := h x hx
 simp [this]
theorem ZtH {c : Int} {M : List Int} (hb : ZL M = true) (i : Nat) : ZL ((Zao c M).getD i []) = true ∧ ((Zao c M).getD i []).length ≤ M.length := by
 by_cases hi : i < (Zao c M).length
 ·have hm : (Zao c M).getD i [] ∈ Zao c M := by
   rw [show (Zao c M).getD i [] = (Zao c M)[i] by simp [List.getD, hi]]
   exact List.getElem_mem hi
  obtain ⟨h1, h2⟩ := ZqE c M _ hm
  exact ⟨ZlD fun x hx => ZeJ hb (h1 x hx), h2⟩
 ·rw [show (Zao c M).getD i [] = [] by simp [List.getD, List.getElem?_eq_none (Nat.le_of_not_lt hi)]]
  exact ⟨rfl, by simp⟩
theorem Zpp {M : List Int} (hb : ZL M = true) (k : Nat) : ZL (M.drop k) = true := ZlD fun x hx => ZeJ hb (List.mem_of_mem_drop hx)
/-! ### Operands -/
def ZbO (w : List Int) : Bool := decide (w.length = 2 ∧ bAt w 0 = 114 ∧ 48 ≤ bAt w 1 ∧ bAt w 1 < 56)
def Zqd (w : List Int) : Bool := decide (1 < w.length ∧ bAt w 0 = 64) && ZfZ (w.drop 1)
section
variable {L1 : List Int} {a2 : Int} {L3 : List RA} {L4 : List Int} {L5 : List R_is} {L6 : List (List Int)} {L7 : List R_si} {N : Nat}
theorem ZeF (w : List Int) : ZC w L1 a2 L3 L4 L5 L6 L7 N = some (if ZbO w = true then .r0 else .r1) := by
 unfold ZC
 rw [Z6]
 have Y : (w.length = 2 ∧ bAt w 0 = 114 ∧ 48 ≤ bAt w 1 ∧ bAt w 1 < 56) → (some .r0 : Option Zar) = some (if ZbO w = true then .r0 else .r1) := fun h => by rw [if_pos (show ZbO w = true from decide_eq_true h)]
 have Z : ¬ (w.length = 2 ∧ bAt w 0 = 114 ∧ 48 ≤ bAt w 1 ∧ bAt w 1 < 56) → (some .r1 : Option Zar) = some (if ZbO w = true then .r0 else .r1) := fun h => by rw [if_neg (show ¬ (ZbO w = true) from by unfold ZbO; rw [decide_eq_false h]; decide)]
 exact ZcL (fun g1 => ZcL (fun g2 => ZcL (fun g3 => ZcL (fun g4 => Y ⟨by omega, g2, g3, g4⟩) fun g => Z fun h => g h.2.2.2) fun g => Z fun h => g h.2.2.1) fun g => Z fun h => g h.2.1) fun g => Z fun h => g (by omega)
theorem ZmI (w : List Int) (hb : ZL w = true) (hl : w.length ≤ 1000000) : Zan w L1 a2 L3 L4 L5 L6 L7 N = some (if ZcF w = true then .r0 else .r1) := by
 unfold Zan
 refine Zu hb <| Zu hl ?_
 cases ZcF w <;> rfl
theorem ZvE (w : List Int) (hb : ZL w = true) (hj : L5.length ≤ 100000) (hN : 33 ≤ N) : Za9 w L1 a2 L3 L4 L5 L6 L7 N = some (if Zqd w = true then .r0 else .r1) := by
 unfold Za9 Zqd
 rw [Z6]
 refine ZcL (fun g1 => ZcL (fun g2 => Zak (Zpo _ N (Zpp hb 1) hN) ?_) fun g2 => ?_) fun g1 => ?_
 ·rw [decide_eq_true ⟨by omega, g2⟩, Bool.true_and]
  show (if ZfZ (w.drop 1) = true then _ else _) = _
  cases ZfZ (w.drop 1) with
  | true => exact Zu rfl <| Zu hj rfl
  | false => exact ZH (by decide) rfl
 ·rw [decide_eq_false (fun h => g2 h.2)]; rfl
 ·rw [decide_eq_false (fun h => g1 (by omega))]; rfl
/-! ### An instruction's line -/
def ZaZ (s : Zx) (op : Int) (W : List (List Int)) : Option (RA × Option (List Int)) :=
 match s with
 | .r0 => if W.length = 3 ∧ (ZbO (W.getD 1 []) && ZcF (W.getD 2 [])) = true then some (⟨op, bAt (W.getD 1 []) 1 - 48, ZP (W.getD 2 []), 0⟩, none) else none
 | .r1 => if W.length = 2 ∧ (Zqd (W.getD 1 [])) = true then some (⟨op, 0, 0, 0⟩, some ((W.getD 1 []).drop 1)) else none
 | .r2 => if W.length = 3 ∧ (ZbO (W.getD 1 []) && Zqd (W.getD 2 [])) = true then some (⟨op, bAt (W.getD 1 []) 1 - 48, 0, 0⟩, some ((W.getD 2 []).drop 1)) else none
 | .r3 => if W.length = 4 ∧ (ZbO (W.getD 1 []) && ZcF (W.getD 2 []) && ZcF (W.getD 3 [])) = true then some (⟨op, bAt (W.getD 1 []) 1 - 48, ZP (W.getD 2 []), ZP (W.getD 3 [])⟩, none) else none
 | .r4 => if W.length = 4 ∧ (ZbO (W.getD 1 []) && ZbO (W.getD 2 []) && ZcF (W.getD 3 [])) = true then some (⟨op, bAt (W.getD 1 []) 1 - 48, bAt (W.getD 2 []) 1 - 48, ZP (W.getD 3 [])⟩, none) else none
 | .r5 => if W.length = 4 ∧ (ZbO (W.getD 1 []) && ZcF (W.getD 2 []) && ZbO (W.getD 3 [])) = true then some (⟨op, bAt (W.getD 1 []) 1 - 48, ZP (W.getD 2 []), bAt (W.getD 3 []) 1 - 48⟩, none) else none
 | .r6 => if W.length = 1 ∧ (true) = true then some (⟨op, 0, 0, 0⟩, none) else none
 | .r7 => if W.length = 2 ∧ (ZbO (W.getD 1 [])) = true then some (⟨op, bAt (W.getD 1 []) 1 - 48, 0, 0⟩, none) else none
 | .r8 => if W.length = 3 ∧ (ZbO (W.getD 1 []) && ZbO (W.getD 2 [])) = true then some (⟨op, bAt (W.getD 1 []) 1 - 48, bAt (W.getD 2 []) 1 - 48, 0⟩, none) else none
 | .r9 => if W.length = 4 ∧ (ZbO (W.getD 1 []) && ZbO (W.getD 2 []) && ZbO (W.getD 3 [])) = true then some (⟨op, bAt (W.getD 1 []) 1 - 48, bAt (W.getD 2 []) 1 - 48, bAt (W.getD 3 []) 1 - 48⟩, none) else none
def Zd0 (p : List RA) (j : List R_is) (x : Option (RA × Option (List Int))) : Zg :=
 if 512 ≤ p.length then .r0 else
 match x with
 | none => .r0
 | some (i, none) => .r1 (p ++ [i])
 | some (i, some l) => .r2 (p ++ [i]) (j ++ [⟨(p.length : Int), l⟩])
theorem ZZ {p : List RA} {j : List R_is} : Zd0 p j none = .r0 := by
 unfold Zd0
 split <;> rfl
theorem Zd7 {p : List RA} {j : List R_is} {x : Option (RA × Option (List Int))} (h : 512 ≤ p.length) : Zd0 p j x = .r0 := by
 unfold Zd0
 rw [if_pos h]
def Zs8 (M : List Int) (N : Nat) : Option (RA × Option (List Int)) :=
 match ZcH (wd M 0) N with
 | some (.r0 op kn) => match Zax op N with
  | some s => if kn = true then ZaZ s op (wds M) else none
  | none => none
 | none => none
theorem Zw1 (M : List Int) (hb : ZL M = true) (hl : M.length ≤ 1000000) (hn : L4.length ≤ 100000) (hj : L5.length ≤ 100000) (hN : 33 ≤ N) :
  Zaw M L1 a2 L3 L4 L5 L6 L7 N = some (Zd0 L3 L5 (Zs8 M N)) := by
 unfold Zaw Zs8
 have hW : ∀ i, ZL (wd M i) = true := fun i => (ZtH (c := 32) hb i).1
 have hV : ∀ i, (wd M i).length ≤ 1000000 := fun i => Nat.le_trans (ZtH (c := 32) hb i).2 hl
 refine Zu hb <| Zu hl <| Zu (ZqD 32 M) ?_
 obtain ⟨⟨op, kn⟩, h1⟩ := ZuG (wd M 0) N
 obtain ⟨s, h2⟩ := Zs6 op N
 refine Zak h1 ?_
 simp only [h1]
 refine Zak h2 ?_
 simp only [h2]
 cases kn with
 | false => cases s <;> exact Zu (by decide) (by rw [if_neg (by decide), ZZ])
 | true =>
 rw [if_pos rfl]
 cases s with
 | r0 =>
  refine ZH (fun h => h rfl) ?_
  by_cases hw : (wds M).length = 3
  ·refine ZH (fun h => h (by omega)) ?_
   by_cases hp : 512 ≤ L3.length
   ·exact Zu (by omega) (by rw [Zd7 hp])
   ·refine ZH (by omega) ?_
    refine Zak (ZeF (wd M 1)) ?_
    cases c1 : ZbO (wd M 1) with
    | false =>
     rw [show ZaZ .r0 op (wds M) = none from if_neg (fun h => by have hq := h.2; rw [c1] at hq; exact Bool.false_ne_true hq), ZZ]; rfl
    | true =>
     refine Zak (ZmI (wd M 2) (hW 2) (hV 2)) ?_
     cases c2 : ZcF (wd M 2) with
     | false =>
      rw [show ZaZ .r0 op (wds M) = none from if_neg (fun h => by have hq := h.2; rw [c1, c2] at hq; exact Bool.false_ne_true hq), ZZ]; rfl
     | true =>
      refine Zu hn ?_
      rw [show ZaZ .r0 op (wds M) = _ from if_pos ⟨hw, by simp only [c1, c2, Bool.and_self]⟩]
      unfold Zd0
      rw [if_neg hp]
  ·refine Zu (fun h => hw (by omega)) ?_
   rw [show ZaZ .r0 op (wds M) = none from if_neg (fun h => hw h.1), ZZ]
 | r1 =>
  refine ZH (fun h => h rfl) ?_
  by_cases hw : (wds M).length = 2
  ·refine ZH (fun h => h (by omega)) ?_
   by_cases hp : 512 ≤ L3.length
   ·exact Zu (by omega) (by rw [Zd7 hp])
   ·refine ZH (by omega) ?_
    refine Zak (ZvE (wd M 1) (hW 1) hj hN) ?_
    cases c1 : Zqd (wd M 1) with
    | false =>
     rw [show ZaZ .r1 op (wds M) = none from if_neg (fun h => by have hq := h.2; rw [c1] at hq; exact Bool.false_ne_true hq), ZZ]; rfl
    | true =>
     refine Zu hn ?_
     rw [show ZaZ .r1 op (wds M) = _ from if_pos ⟨hw, by simp only [c1, Bool.and_self]⟩]
     unfold Zd0
     rw [if_neg hp]
  ·refine Zu (fun h => hw (by omega)) ?_
   rw [show ZaZ .r1 op (wds M) = none from if_neg (fun h => hw h.1), ZZ]
 | r2 =>
  refine ZH (fun h => h rfl) ?_
  by_cases hw : (wds M).length = 3
  ·refine ZH (fun h => h (by omega)) ?_
   by_cases hp : 512 ≤ L3.length
   ·exact Zu (by omega) (by rw [Zd7 hp])
   ·refine ZH (by omega) ?_
    refine Zak (ZeF (wd M 1)) ?_
    cases c1 : ZbO (wd M 1) with
    | false =>
     rw [show ZaZ .r2 op (wds M) = none from if_neg (fun h => by have hq := h.2; rw [c1] at hq; exact Bool.false_ne_true hq), ZZ]; rfl
    | true =>
     refine Zak (ZvE (wd M 2) (hW 2) hj hN) ?_
     cases c2 : Zqd (wd M 2) with
     | false =>
      rw [show ZaZ .r2 op (wds M) = none from if_neg (fun h => by have hq := h.2; rw [c1, c2] at hq; exact Bool.false_ne_true hq), ZZ]; rfl
     | true =>
      refine Zu hn ?_
      rw [show ZaZ .r2 op (wds M) = _ from if_pos ⟨hw, by simp only [c1, c2, Bool.and_self]⟩]
      unfold Zd0
      rw [if_neg hp]
  ·refine Zu (fun h => hw (by omega)) ?_
   rw [show ZaZ .r2 op (wds M) = none from if_neg (fun h => hw h.1), ZZ]
 | r3 =>
  refine ZH (fun h => h rfl) ?_
  by_cases hw : (wds M).length = 4
  ·refine ZH (fun h => h (by omega)) ?_
   by_cases hp : 512 ≤ L3.length
   ·exact Zu (by omega) (by rw [Zd7 hp])
   ·refine ZH (by omega) ?_
    refine Zak (ZeF (wd M 1)) ?_
    cases c1 : ZbO (wd M 1) with
    | false =>
     rw [show ZaZ .r3 op (wds M) = none from if_neg (fun h => by have hq := h.2; rw [c1] at hq; exact Bool.false_ne_true hq), ZZ]; rfl
    | true =>
     refine Zak (ZmI (wd M 2) (hW 2) (hV 2)) ?_
     cases c2 : ZcF (wd M 2) with
     | false =>
      rw [show ZaZ .r3 op (wds M) = none from if_neg (fun h => by have hq := h.2; rw [c1, c2] at hq; exact Bool.false_ne_true hq), ZZ]; rfl
     | true =>
      refine Zak (ZmI (wd M 3) (hW 3) (hV 3)) ?_
      cases c3 : ZcF (wd M 3) with
      | false =>
       rw [show ZaZ .r3 op (wds M) = none from if_neg (fun h => by have hq := h.2; rw [c1, c2, c3] at hq; exact Bool.false_ne_true hq), ZZ]; rfl
      | true =>
       refine Zu hn ?_
       rw [show ZaZ .r3 op (wds M) = _ from if_pos ⟨hw, by simp only [c1, c2, c3, Bool.and_self]⟩]
       unfold Zd0
       rw [if_neg hp]
  ·refine Zu (fun h => hw (by omega)) ?_
   rw [show ZaZ .r3 op (wds M) = none from if_neg (fun h => hw h.1), ZZ]
 | r4 =>
  refine ZH (fun h => h rfl) ?_
  by_cases hw : (wds M).length = 4
  ·refine ZH (fun h => h (by omega)) ?_
   by_cases hp : 512 ≤ L3.length
   ·exact Zu (by omega) (by rw [Zd7 hp])
   ·refine ZH (by omega) ?_
    refine Zak (ZeF (wd M 1)) ?_
    cases c1 : ZbO (wd M 1) with
    | false =>
     rw [show ZaZ .r4 op (wds M) = none from if_neg (fun h => by have hq := h.2; rw [c1] at hq; exact Bool.false_ne_true hq), ZZ]; rfl
    | true =>
     refine Zak (ZeF (wd M 2)) ?_
     cases c2 : ZbO (wd M 2) with
     | false =>
      rw [show ZaZ .r4 op (wds M) = none from if_neg (fun h => by have hq := h.2; rw [c1, c2] at hq; exact Bool.false_ne_true hq), ZZ]; rfl
     | true =>
      refine Zak (ZmI (wd M 3) (hW 3) (hV 3)) ?_
      cases c3 : ZcF (wd M 3) with
      | false =>
       rw [show ZaZ .r4 op (wds M) = none from if_neg (fun h => by have hq := h.2; rw [c1, c2, c3] at hq; exact Bool.false_ne_true hq), ZZ]; rfl
      | true =>
       refine Zu hn ?_
       rw [show ZaZ .r4 op (wds M) = _ from if_pos ⟨hw, by simp only [c1, c2, c3, Bool.and_self]⟩]
       unfold Zd0
       rw [if_neg hp]
  ·refine Zu (fun h => hw (by omega)) ?_
   rw [show ZaZ .r4 op (wds M) = none from if_neg (fun h => hw h.1), ZZ]
 | r5 =>
  refine ZH (fun h => h rfl) ?_
  by_cases hw : (wds M).length = 4
  ·refine ZH (fun h => h (by omega)) ?_
   by_cases hp : 512 ≤ L3.length
   ·exact Zu (by omega) (by rw [Zd7 hp])
   ·refine ZH (by omega) ?_
    refine Zak (ZeF (wd M 1)) ?_
    cases c1 : ZbO (wd M 1) with
    | false =>
     rw [show ZaZ .r5 op (wds M) = none from if_neg (fun h => by have hq := h.2; rw [c1] at hq; exact Bool.false_ne_true hq), ZZ]; rfl
    | true =>
     refine Zak (ZmI (wd M 2) (hW 2) (hV 2)) ?_
     cases c2 : ZcF (wd M 2) with
     | false =>
      rw [show ZaZ .r5 op (wds M) = none from if_neg (fun h => by have hq := h.2; rw [c1, c2] at hq; exact Bool.false_ne_true hq), ZZ]; rfl
     | true =>
      refine Zak (ZeF (wd M 3)) ?_
      cases c3 : ZbO (wd M 3) with
      | false =>
       rw [show ZaZ .r5 op (wds M) = none from if_neg (fun h => by have hq := h.2; rw [c1, c2, c3] at hq; exact Bool.false_ne_true hq), ZZ]; rfl
      | true =>
       refine Zu hn ?_
       rw [show ZaZ .r5 op (wds M) = _ from if_pos ⟨hw, by simp only [c1, c2, c3, Bool.and_self]⟩]
       unfold Zd0
       rw [if_neg hp]
  ·refine Zu (fun h => hw (by omega)) ?_
   rw [show ZaZ .r5 op (wds M) = none from if_neg (fun h => hw h.1), ZZ]
 | r6 =>
  refine ZH (fun h => h rfl) ?_
  by_cases hw : (wds M).length = 1
  ·refine ZH (fun h => h (by omega)) ?_
   by_cases hp : 512 ≤ L3.length
   ·exact Zu (by omega) (by rw [Zd7 hp])
   ·refine ZH (by omega) ?_
    refine Zu hn ?_
    rw [show ZaZ .r6 op (wds M) = _ from if_pos ⟨hw, rfl⟩]
    unfold Zd0
    rw [if_neg hp]
  ·refine Zu (fun h => hw (by omega)) ?_
   rw [show ZaZ .r6 op (wds M) = none from if_neg (fun h => hw h.1), ZZ]
 | r7 =>
  refine ZH (fun h => h rfl) ?_
  by_cases hw : (wds M).length = 2
  ·refine ZH (fun h => h (by omega)) ?_
   by_cases hp : 512 ≤ L3.length
   ·exact Zu (by omega) (by rw [Zd7 hp])
   ·refine ZH (by omega) ?_
    refine Zak (ZeF (wd M 1)) ?_
    cases c1 : ZbO (wd M 1) with
    | false =>
     rw [show ZaZ .r7 op (wds M) = none from if_neg (fun h => by have hq := h.2; rw [c1] at hq; exact Bool.false_ne_true hq), ZZ]; rfl
    | true =>
     refine Zu hn ?_
     rw [show ZaZ .r7 op (wds M) = _ from if_pos ⟨hw, by simp only [c1, Bool.and_self]⟩]
     unfold Zd0
     rw [if_neg hp]
  ·refine Zu (fun h => hw (by omega)) ?_
   rw [show ZaZ .r7 op (wds M) = none from if_neg (fun h => hw h.1), ZZ]
 | r8 =>
  refine ZH (fun h => h rfl) ?_
  by_cases hw : (wds M).length = 3
  ·refine ZH (fun h => h (by omega)) ?_
   by_cases hp : 512 ≤ L3.length
   ·exact Zu (by omega) (by rw [Zd7 hp])
   ·refine ZH (by omega) ?_
    refine Zak (ZeF (wd M 1)) ?_
    cases c1 : ZbO (wd M 1) with
    | false =>
     rw [show ZaZ .r8 op (wds M) = none from if_neg (fun h => by have hq := h.2; rw [c1] at hq; exact Bool.false_ne_true hq), ZZ]; rfl
    | true =>
     refine Zak (ZeF (wd M 2)) ?_
     cases c2 : ZbO (wd M 2) with
     | false =>
      rw [show ZaZ .r8 op (wds M) = none from if_neg (fun h => by have hq := h.2; rw [c1, c2] at hq; exact Bool.false_ne_true hq), ZZ]; rfl
     | true =>
      refine Zu hn ?_
      rw [show ZaZ .r8 op (wds M) = _ from if_pos ⟨hw, by simp only [c1, c2, Bool.and_self]⟩]
      unfold Zd0
      rw [if_neg hp]
  ·refine Zu (fun h => hw (by omega)) ?_
   rw [show ZaZ .r8 op (wds M) = none from if_neg (fun h => hw h.1), ZZ]
 | r9 =>
  refine ZH (fun h => h rfl) ?_
  by_cases hw : (wds M).length = 4
  ·refine ZH (fun h => h (by omega)) ?_
   by_cases hp : 512 ≤ L3.length
   ·exact Zu (by omega) (by rw [Zd7 hp])
   ·refine ZH (by omega) ?_
    refine Zak (ZeF (wd M 1)) ?_
    cases c1 : ZbO (wd M 1) with
    | false =>
     rw [show ZaZ .r9 op (wds M) = none from if_neg (fun h => by have hq := h.2; rw [c1] at hq; exact Bool.false_ne_true hq), ZZ]; rfl
    | true =>
     refine Zak (ZeF (wd M 2)) ?_
     cases c2 : ZbO (wd M 2) with
     | false =>
      rw [show ZaZ .r9 op (wds M) = none from if_neg (fun h => by have hq := h.2; rw [c1, c2] at hq; exact Bool.false_ne_true hq), ZZ]; rfl
     | true =>
      refine Zak (ZeF (wd M 3)) ?_
      cases c3 : ZbO (wd M 3) with
      | false =>
       rw [show ZaZ .r9 op (wds M) = none from if_neg (fun h => by have hq := h.2; rw [c1, c2, c3] at hq; exact Bool.false_ne_true hq), ZZ]; rfl
      | true =>
       refine Zu hn ?_
       rw [show ZaZ .r9 op (wds M) = _ from if_pos ⟨hw, by simp only [c1, c2, c3, Bool.and_self]⟩]
       unfold Zd0
       rw [if_neg hp]
  ·refine Zu (fun h => hw (by omega)) ?_
   rw [show ZaZ .r9 op (wds M) = none from if_neg (fun h => hw h.1), ZZ]
theorem Zxn (M : List Int) (hb : ZL M = true) (hn : L6.length ≤ 100000) (hN : 33 ≤ N) : Zb6 M L1 a2 L3 L4 L5 L6 L7 N = some (if Zes L7 M = true ∨ ZfZ M = false then .r0 else .r1) := by
 unfold Zb6
 refine ZcL (fun g => by rw [if_pos (.inl g)]) fun g => Zak (Zpo M N hb hN) ?_
 show (if ¬ (ZfZ M = true) then _ else _) = _
 cases h : ZfZ M with
 | true => exact ZH (fun h => h rfl) <| Zu hn (by rw [if_neg (fun h2 => h2.elim g (fun h3 => by cases h3))])
 | false => exact Zu (by decide) (by rw [if_pos (.inr rfl)])
end
end Ev
end Go.Proofs.YtlbbiflodemagaaDoor
/- Parse, plainly: line by line. -/
namespace Go.Proofs.YtlbbiflodemagaaDoor
open Go.RowKit
namespace Ev
set_option linter.unusedVariables false
theorem Zw2 {p p' : List RA} {j : List R_is} {x : Option (RA × Option (List Int))} (h : Zd0 p j x = .r1 p') : 0 < p'.length := by
 unfold Zd0 at h
 split at h
 ·cases h
 ·split at h
  ·cases h
  ·injection h with h; subst h; simp
  ·cases h
theorem Zs9 {p p' : List RA} {j j' : List R_is} {x : Option (RA × Option (List Int))} (h : Zd0 p j x = .r2 p' j') : 0 < p'.length ∧ 0 < j'.length := by
 unfold Zd0 at h
 split at h
 ·cases h
 ·split at h
  ·cases h
  ·cases h
  ·injection h with h h2; subst h h2; simp
structure PS where
 pl : List R_si
 line : Int
 p : List RA
 ls : List Int
 js : List R_is
 lb : List (List Int)
def PS.x (S : PS) (left : List Int) : ZA := .h1m0 S.pl left S.line S.p S.ls S.js S.lb
def ZcG (N : Nat) (l : List Int) (S : PS) : Option PS :=
 if l = [] ∨ bAt l 0 = 35 then some S else
 if bAt l 0 = 58 then (if Zes S.pl (l.drop 1) = true ∨ ZfZ (l.drop 1) = false then none else some { S with pl := Zc3 S.pl (l.drop 1) S.p.length, lb := S.lb ++ [l.drop 1] }) else
 match Zd0 S.p S.js (Zs8 l N) with
 | .r0 => none
 | .r1 p => some { S with p := p, ls := S.ls ++ [S.line] }
 | .r2 p j => some { S with p := p, ls := S.ls ++ [S.line], js := j }
structure PS.Ok (S : PS) (k : Nat) : Prop where
 line : S.line = k
 ls : S.ls.length = S.p.length
 p : S.p.length ≤ 512
 js : S.js.length ≤ S.p.length
 lb : S.lb.length ≤ k
theorem Zw3 {N : Nat} {l : List Int} {S S' : PS} {k : Nat} (h : ZcG N l S = some S') (hS : S.Ok (k + 1)) (hlb : S.lb.length ≤ k) : S'.Ok (k + 1) := by
 unfold ZcG at h
 split at h
 ·injection h with h; subst h; exact hS
 ·split at h
  ·split at h
   ·cases h
   ·injection h with h; subst h
    exact ⟨hS.line, hS.ls, hS.p, hS.js, by simp; omega⟩
  ·split at h
   ·cases h
   ·rename_i p hp
    injection h with h; subst h
    unfold Zd0 at hp
    split at hp
    ·cases hp
    ·split at hp
     ·cases hp
     ·rename_i i _
      injection hp with hp; subst hp
      have := hS.p; have := hS.js; have := hS.ls
      exact ⟨hS.line, by simp; omega, by simp; omega, by simp; omega, hS.lb⟩
     ·cases hp
   ·rename_i p j hp
    injection h with h; subst h
    unfold Zd0 at hp
    split at hp
    ·cases hp
    ·split at hp
     ·cases hp
     ·cases hp
     ·rename_i i l _
      injection hp with hp hq; subst hp hq
      have := hS.p; have := hS.js; have := hS.ls
      exact ⟨hS.line, by simp; omega, by simp; omega, by simp; omega, hS.lb⟩
theorem ZtI (c : Int) : ∀ M, (Z5 c M).length ≤ M.length
 | [] => by simp [Z5]
 | x :: l => by
  unfold Z5
  split
  ·simp
  ·have := ZtI c l; simp; omega
theorem ZhX (c : Int) : ∀ M, M ≠ [] → (ZO c M).length < M.length
 | [], h => absurd rfl h
 | x :: l, _ => by
  unfold ZO
  split
  ·simp
  ·by_cases hl : l = []
   ·subst hl; simp [ZO]
   ·have := ZhX c l hl; simp; omega
section
variable {A : List Int} {a1 : Int} {B : List R_si} {N : Nat}
theorem rd_no {S : PS} {M : List Int} {k : Nat} (hS : S.Ok k) (hk : k ≤ 90000) (hM : M ≠ []) (hb : ZL M = true) (hl : M.length ≤ 1000000) (hh : Zbc 10 M = false) :
  Za0 A a1 B N (S.x M) = some (.inr (.r0 (S.line + 1))) := by
 have hw : IntKind.i64.wrap (S.line + 1) = S.line + 1 := w64 (by have := hS.line; omega) (by have := hS.line; omega)
 show ZaA A a1 B N S.pl M S.line S.p S.ls S.js S.lb = _
 unfold ZaA
 rw [hw]
 exact Zu (fun e => hM (ZjP.1 e)) <| Zu hb <| Zu hl <| ZH (by rw [hh]; decide) rfl
theorem Zxo {S : PS} {M : List Int} {k : Nat} (hS : S.Ok k) (hk : k ≤ 90000) (hM : M ≠ []) (hb : ZL M = true) (hl : M.length ≤ 1000000) (hh : Zbc 10 M = true) (hN : 33 ≤ N) :
  Za0 A a1 B N (S.x M) = some (match ZcG N (Z5 10 M) { S with line := S.line + 1 } with | none => .inr (.r0 (S.line + 1)) | some S' => .inl (S'.x (ZO 10 M))) := by
 have hw : IntKind.i64.wrap (S.line + 1) = S.line + 1 := w64 (by have := hS.line; omega) (by have := hS.line; omega)
 have hbb := (ZhZ (c := 10) hb).1
 have hbl := Nat.le_trans (ZtI 10 M) hl
 show ZaA A a1 B N S.pl M S.line S.p S.ls S.js S.lb = _
 unfold ZaA ZcG
 rw [hw]
 refine Zu (fun e => hM (ZjP.1 e)) <| Zu hb <| Zu hl <| Zu hh ?_
 generalize Z5 10 M = l at *
 refine ZcL (fun g => by rw [if_pos (.inl (ZjP.1 g))]; rfl) fun g => ?_
 have hne : l ≠ [] := fun e => g (ZjP.2 e)
 refine Zu (List.length_pos_iff.2 hne) ?_
 refine ZcL (fun g2 => by rw [if_pos (.inr g2)]; rfl) fun g2 => ?_
 rw [if_neg (fun h : l = [] ∨ bAt l 0 = 35 => h.elim hne g2)]
 refine ZcL (fun g3 => ?_) fun g3 => ?_
 ·rw [if_pos g3]
  have hlb := hS.lb
  refine Zak (Zxn (l.drop 1) (Zpp hbb 1) (by omega) hN) ?_
  by_cases hc : Zes S.pl (l.drop 1) = true ∨ ZfZ (l.drop 1) = false
  ·rw [if_pos hc, if_pos hc]
  ·rw [if_neg hc, if_neg hc]; rfl
 ·rw [if_neg g3]
  have h1 := hS.p; have h2 := hS.ls; have h3 := hS.js
  refine Zak (Zw1 l hbb hbl (by omega) (by omega) hN) ?_
  cases hi : Zd0 S.p S.js (Zs8 l N) with
  | r0 => rfl
  | r1 p => exact Zu (Zw2 hi) rfl
  | r2 p j => exact Zu (Zs9 hi).1 <| Zu (Zs9 hi).2 rfl
def rdL (N : Nat) : Nat → List Int → PS → Int ⊕ PS
 | 0, _, S => .inr S
 | f + 1, M, S => if M = [] then .inr S else
  if Zbc 10 M = false then .inl (S.line + 1) else
  match ZcG N (Z5 10 M) { S with line := S.line + 1 } with
  | none => .inl (S.line + 1)
  | some S' => rdL N f (ZO 10 M) S'
theorem ZsA (hN : 33 ≤ N) : ∀ (f : Nat) (M : List Int) (S : PS) (k : Nat), M.length ≤ f → S.Ok k → k + M.length ≤ 90000 → ZL M = true →
  (∀ n, rdL N f M S = .inl n → ZcV (Za0 A a1 B N) (f + 1) (S.x M) = some (.r0 n)) ∧
  (∀ S', rdL N f M S = .inr S' → (∃ k', S'.Ok k') ∧ ∀ r, Za0 A a1 B N (S'.x []) = some (.inr r) → ZcV (Za0 A a1 B N) (f + 1) (S.x M) = some r)
 | 0, M, S, k, hf, hS, hk, hb => by
  obtain rfl : M = [] := List.length_eq_zero_iff.1 (by omega)
  exact ⟨fun n h => by simp [rdL] at h, fun S' h => by
   simp only [rdL] at h; injection h with h; subst h
   exact ⟨⟨k, hS⟩, fun r hr => Zcm hr⟩⟩
 | f + 1, M, S, k, hf, hS, hk, hb => by
  by_cases hM : M = []
  ·subst hM
   exact ⟨fun n h => by simp [rdL] at h, fun S' h => by
    simp only [rdL, if_true] at h; injection h with h; subst h
    exact ⟨⟨k, hS⟩, fun r hr => Zcm hr⟩⟩
  ·have hp : 0 < M.length := List.length_pos_iff.2 hM
   cases hh : Zbc 10 M with
   | false =>
    have e : rdL N (f + 1) M S = .inl (S.line + 1) := by unfold rdL; rw [if_neg hM, if_pos hh]
    rw [e]
    exact ⟨fun n h => by injection h with h; subst h; exact Zcm (rd_no hS (by omega) hM hb (by omega) hh), fun S' h => by cases h⟩
   | true =>
    have hs := Zxo (A := A) (a1 := a1) (B := B) hS (by omega) hM hb (by omega) hh hN
    have e : rdL N (f + 1) M S = (match ZcG N (Z5 10 M) { S with line := S.line + 1 } with | none => .inl (S.line + 1) | some S' => rdL N f (ZO 10 M) S') := by
     show (if M = [] then _ else _) = _
     rw [if_neg hM, if_neg (by rw [hh]; decide)]
    rw [e]
    cases hst : ZcG N (Z5 10 M) { S with line := S.line + 1 } with
    | none =>
     rw [hst] at hs
     exact ⟨fun n h => by injection h with h; subst h; exact Zcm hs, fun S' h => by cases h⟩
    | some S1 =>
     rw [hst] at hs
     have hO : S1.Ok (k + 1) := Zw3 hst ⟨by show S.line + 1 = _; rw [hS.line]; rfl, hS.ls, hS.p, hS.js, by have := hS.lb; show S.lb.length ≤ k + 1; omega⟩ hS.lb
     have ha := ZhX 10 M hM
     obtain ⟨q1, q2⟩ := ZsA hN f (ZO 10 M) S1 (k + 1) (by omega) hO (by omega) (ZhZ (c := 10) hb).2
     exact ⟨fun n h => (Zd6 hs).trans (q1 n h), fun S' h => ⟨(q2 S' h).1, fun r hr => (Zd6 hs).trans ((q2 S' h).2 r hr)⟩⟩
end
end Ev
end Go.Proofs.YtlbbiflodemagaaDoor
/- Parse, plainly: jumps are aimed; all of it. -/
namespace Go.Proofs.YtlbbiflodemagaaDoor
open Go.RowKit
namespace Ev
set_option linter.unusedVariables false
def ckB (c : RA) (N : Nat) : Bool := match Zas c.a0 c.a1 c.a2 c.a3 N with | some (.r0 x) => decide (x = 0) | none => false
def Zh2 (c : RA) (t : Int) : RA := if c.a0 = 8 then ⟨c.a0, t, c.a2, c.a3⟩ else if c.a0 = 9 then ⟨c.a0, c.a1, t, c.a3⟩ else c
def Zku (pl : List R_si) (N i : Nat) (p : List RA) (js : List R_is) : Option (List RA × List R_is) :=
 match js with
 | [] => if ckB (p.getD i RA.z) N = true then some (p, []) else none
 | j :: js' => if j.a0 = (i : Int) then
   if Zes pl j.a1 = true then
    if ckB (Zh2 (p.getD i RA.z) (ZE pl j.a1)) N = true then some (p.set i (Zh2 (p.getD i RA.z) (ZE pl j.a1)), js') else none
   else none
  else if ckB (p.getD i RA.z) N = true then some (p, j :: js') else none
def Zh3 (pl : List R_si) (ls : List Int) (N : Nat) : Nat → Nat → List RA → List R_is → Int ⊕ List RA
 | 0, _, p, _ => .inr p
 | f + 1, i, p, js => if i < p.length then
   match Zku pl N i p js with
   | some q => Zh3 pl ls N f (i + 1) q.1 q.2
   | none => .inl (ls.getD i 0)
  else .inr p
theorem Zkh (pl : List R_si) (ls : List Int) (N f i : Nat) (p : List RA) (js : List R_is) : Zh3 pl ls N (f + 1) i p js = if i < p.length then (match Zku pl N i p js with | some q => Zh3 pl ls N f (i + 1) q.1 q.2 | none => .inl (ls.getD i 0)) else .inr p := rfl
section
variable {A : List Int} {a1 : Int} {L2 : List RA} {L3 : List Int} {L4 : List R_is} {L5 : List (List Int)} {L6 : List R_si} {N : Nat}
theorem Zqe {R : Type} (c : RA) {k : ZaO → Option R} {r1 r2 : R} (h1 : ∀ x, x ≠ 0 → k (.r0 x) = some r2) (h2 : k (.r0 0) = some r1) : (Zas c.a0 c.a1 c.a2 c.a3 N).bind k = some (if ckB c N = true then r1 else r2) := by
 obtain ⟨x, hx⟩ := ZvD c.a0 c.a1 c.a2 c.a3 N
 unfold ckB
 rw [hx]
 show k (.r0 x) = some (if decide (x = 0) = true then r1 else r2)
 by_cases h : x = 0
 ·subst h; rw [if_pos (by decide)]; exact h2
 ·rw [if_neg (by simpa using h)]; exact h1 x h
theorem Zri {R : Type} {c : RA} {k : ZaO → Option R} {r1 r2 : R} {Q : R → Prop} (h1 : ∀ x, x ≠ 0 → k (.r0 x) = some r2) (h2 : k (.r0 0) = some r1) (q1 : ckB c N = true → Q r1) (q2 : ckB c N = false → Q r2) : ∃ y, (Zas c.a0 c.a1 c.a2 c.a3 N).bind k = some y ∧ Q y := by
 rw [Zqe c h1 h2]
 cases h : ckB c N with
 | true => exact ⟨r1, rfl, q1 h⟩
 | false => exact ⟨r2, rfl, q2 h⟩
def Rep (L2 : List RA) (L4 : List R_is) (x : asm_reader_aimX) (i : Nat) (p : List RA) (js : List R_is) : Prop :=
 (∃ l, x = .h1m0 i l ∧ p = L2 ∧ js = L4) ∨ ∃ l o n, x = .h1m1 p i l o n ∧ o + n = L4.length ∧ js = L4.drop o ∧ p.length = L2.length
def ZvF (L2 : List RA) (r : Z0) (p : List RA) : Prop := (∃ l, r = .r1 l ∧ p = L2) ∨ ∃ l a b, r = .r2 p l a b
theorem Zxp {α : Type} {L : List α} {o : Nat} {j : α} {js : List α} (d : α) (h : L.drop o = j :: js) : o < L.length ∧ L.getD o d = j ∧ L.drop (o + 1) = js := by
 have hl : o < L.length := by
  rcases Nat.lt_or_ge o L.length with h1 | h1
  ·exact h1
  ·rw [List.drop_of_length_le h1] at h; cases h
 rw [List.drop_eq_getElem_cons hl] at h
 injection h with h1 h2
 exact ⟨hl, by simp [List.getD, hl, h1], h2⟩
theorem ZtJ {x : asm_reader_aimX} {i : Nat} {p : List RA} {js : List R_is} (hR : Rep L2 L4 x i p js) (hi : ¬ i < p.length) : ∃ r, Zbd A a1 L2 L3 L4 L5 L6 N x = some (.inr r) ∧ ZvF L2 r p := by
 rcases hR with ⟨l, rfl, rfl, rfl⟩ | ⟨l, o, n, rfl, h1, rfl, h3⟩
 ·refine ⟨.r1 l, ?_, .inl ⟨l, rfl, rfl⟩⟩
  show Zbp A a1 p L3 js L5 L6 N i l = _
  unfold Zbp
  exact ZH (by omega) rfl
 ·refine ⟨.r2 p l o n, ?_, .inr ⟨l, o, n, rfl⟩⟩
  show Zbq A a1 L2 L3 L4 L5 L6 N p i l o n = _
  unfold Zbq
  exact ZH (by omega) rfl
theorem ZxA {x : asm_reader_aimX} {i : Nat} {p : List RA} {js : List R_is} (hR : Rep L2 L4 x i p js) (hi : i < p.length) (hl : L3.length = L2.length) (hp : L2.length ≤ 512) :
  ∃ y, Zbd A a1 L2 L3 L4 L5 L6 N x = some y ∧ match Zku L6 N i p js with
   | some q => ∃ z, y = .inl z ∧ Rep L2 L4 z (i + 1) q.1 q.2
   | none => y = .inr (.r0 (L3.getD i 0)) := by
 have hv : p.length ≤ 512 → (((i + 1) : Nat) : Int) ≤ (9223372036854775807 : Int) := fun h => by omega
 rcases hR with ⟨l, rfl, rfl, rfl⟩ | ⟨l, o, n, rfl, h1, rfl, h3⟩
 ·have hw := hv hp
  show ∃ y, Zbp A a1 p L3 js L5 L6 N i l = some y ∧ _
  unfold Zbp
  simp only [ai, aj, aiA, aiB, aiC]
  rw [if_pos (show (i : Int) < (p.length : Int) by omega), if_pos (show i < L3.length by omega)]
  unfold Zku
  cases js with
  | nil =>
   rw [if_neg (by simp)]
   dsimp only
   refine Zri (c := p.getD i RA.z) (r1 := .inl (.h1m0 (i + 1) (L3.getD i 0))) (r2 := .inr (.r0 (L3.getD i 0))) (fun x hx => Zu hx rfl) (ZH (fun h => h rfl) (Zu hw rfl)) (fun hc => ?_) (fun hc => ?_)
   ·rw [if_pos hc]; exact ⟨_, rfl, .inl ⟨_, rfl, rfl, rfl⟩⟩
   ·rw [if_neg (by rw [hc]; decide)]
  | cons j js' =>
   rw [if_pos (by simp only [List.length_cons]; omega)]
   have e0 : (j :: js').getD 0 R_is.z = j := rfl
   rw [e0]
   dsimp only
   by_cases g1 : j.a0 = (i : Int)
   ·rw [if_pos g1, if_pos g1]
    by_cases g2 : Zes L6 j.a1 = true
    ·rw [if_pos g2, if_pos g2]
     generalize hc : p.getD i RA.z = c
     generalize ht : ZE L6 j.a1 = t
     have K : ∀ c' : RA, Zh2 c t = c' → ∀ {k : ZaO → Option (asm_reader_aimX ⊕ Z0)}, (∀ x, x ≠ 0 → k (.r0 x) = some (.inr (.r0 (L3.getD i 0)))) → k (.r0 0) = some (.inl (.h1m1 (p.set i c') (i + 1) (L3.getD i 0) 1 ((j :: js').length - 1))) → ∃ y, (Zas c'.a0 c'.a1 c'.a2 c'.a3 N).bind k = some y ∧ match (if ckB (Zh2 c t) N = true then some (p.set i (Zh2 c t), js') else none : Option (List RA × List R_is)) with | some q => ∃ z, y = .inl z ∧ Rep p (j :: js') z (i + 1) q.1 q.2 | none => y = .inr (.r0 (L3.getD i 0)) := fun c' hc' k k1 k2 => by
      rw [Zqe c' k1 k2, hc']
      cases ckB c' N with
      | true => exact ⟨_, rfl, _, rfl, .inr ⟨_, _, _, rfl, by simp only [List.length_cons]; omega, rfl, by simp⟩⟩
      | false => exact ⟨_, rfl, rfl⟩
     by_cases g3 : c.a0 = 8
     ·rw [if_pos g3]
      exact K ⟨c.a0, t, c.a2, c.a3⟩ (by unfold Zh2; rw [if_pos g3]) (fun x hx => Zu hx rfl) (ZH (fun h => h rfl) (Zu hw rfl))
     ·rw [if_neg g3]
      by_cases g4 : c.a0 = 9
      ·rw [if_pos g4]
       exact K ⟨c.a0, c.a1, t, c.a3⟩ (by unfold Zh2; rw [if_neg g3, if_pos g4]) (fun x hx => Zu hx rfl) (ZH (fun h => h rfl) (Zu hw rfl))
      ·rw [if_neg g4]
       exact K c (by unfold Zh2; rw [if_neg g3, if_neg g4]) (fun x hx => Zu hx rfl) (ZH (fun h => h rfl) (Zu hw rfl))
    ·rw [if_neg g2, if_neg g2]
     exact ⟨_, rfl, rfl⟩
   ·rw [if_neg g1, if_neg g1]
    refine Zri (c := p.getD i RA.z) (r1 := .inl (.h1m0 (i + 1) (L3.getD i 0))) (r2 := .inr (.r0 (L3.getD i 0))) (fun x hx => Zu hx rfl) (ZH (fun h => h rfl) (Zu hw rfl)) (fun hc => ?_) (fun hc => ?_)
    ·rw [if_pos hc]; exact ⟨_, rfl, .inl ⟨_, rfl, rfl, rfl⟩⟩
    ·rw [if_neg (by rw [hc]; decide)]
 ·have hw := hv (by omega)
  show ∃ y, Zbq A a1 L2 L3 L4 L5 L6 N p i l o n = some y ∧ _
  unfold Zbq
  simp only [ai, aj, aiA, aiB, aiC]
  rw [if_pos (show (i : Int) < (L2.length : Int) by omega), if_pos hi, if_pos (show i < L3.length by omega)]
  unfold Zku
  cases hj : L4.drop o with
  | nil =>
   have hn0 : n = 0 := by
    have := congrArg List.length hj
    rw [List.length_drop] at this
    simp at this; omega
   rw [if_neg (by omega)]
   dsimp only
   refine Zri (c := p.getD i RA.z) (r1 := .inl (.h1m1 p (i + 1) (L3.getD i 0) o n)) (r2 := .inr (.r0 (L3.getD i 0))) (fun x hx => Zu hx rfl) (ZH (fun h => h rfl) (Zu hw rfl)) (fun hc => ?_) (fun hc => ?_)
   ·rw [if_pos hc]; exact ⟨_, rfl, .inr ⟨_, _, _, rfl, h1, hj.symm, h3⟩⟩
   ·rw [if_neg (by rw [hc]; decide)]
  | cons j js' =>
   obtain ⟨d1, d2, d3⟩ := Zxp R_is.z hj
   rw [if_pos (by omega), if_pos d1, d2]
   dsimp only
   by_cases g1 : j.a0 = (i : Int)
   ·rw [if_pos g1, if_pos g1]
    by_cases g2 : Zes L6 j.a1 = true
    ·rw [if_pos g2, if_pos g2]
     generalize hc : p.getD i RA.z = c
     generalize ht : ZE L6 j.a1 = t
     have K : ∀ c' : RA, Zh2 c t = c' → ∀ {k : ZaO → Option (asm_reader_aimX ⊕ Z0)}, (∀ x, x ≠ 0 → k (.r0 x) = some (.inr (.r0 (L3.getD i 0)))) → k (.r0 0) = some (.inl (.h1m1 (p.set i c') (i + 1) (L3.getD i 0) (o + 1) (n - 1))) → ∃ y, (Zas c'.a0 c'.a1 c'.a2 c'.a3 N).bind k = some y ∧ match (if ckB (Zh2 c t) N = true then some (p.set i (Zh2 c t), js') else none : Option (List RA × List R_is)) with | some q => ∃ z, y = .inl z ∧ Rep L2 L4 z (i + 1) q.1 q.2 | none => y = .inr (.r0 (L3.getD i 0)) := fun c' hc' k k1 k2 => by
      rw [Zqe c' k1 k2, hc']
      cases ckB c' N with
      | true => exact ⟨_, rfl, _, rfl, .inr ⟨_, _, _, rfl, by omega, d3.symm, by simp; omega⟩⟩
      | false => exact ⟨_, rfl, rfl⟩
     by_cases g3 : c.a0 = 8
     ·rw [if_pos g3]
      exact K ⟨c.a0, t, c.a2, c.a3⟩ (by unfold Zh2; rw [if_pos g3]) (fun x hx => Zu hx rfl) (ZH (fun h => h rfl) (Zu hw rfl))
     ·rw [if_neg g3]
      by_cases g4 : c.a0 = 9
      ·rw [if_pos g4]
       exact K ⟨c.a0, c.a1, t, c.a3⟩ (by unfold Zh2; rw [if_neg g3, if_pos g4]) (fun x hx => Zu hx rfl) (ZH (fun h => h rfl) (Zu hw rfl))
      ·rw [if_neg g4]
       exact K c (by unfold Zh2; rw [if_neg g3, if_neg g4]) (fun x hx => Zu hx rfl) (ZH (fun h => h rfl) (Zu hw rfl))
    ·rw [if_neg g2, if_neg g2]
     exact ⟨_, rfl, rfl⟩
   ·rw [if_neg g1, if_neg g1]
    refine Zri (c := p.getD i RA.z) (r1 := .inl (.h1m1 p (i + 1) (L3.getD i 0) o n)) (r2 := .inr (.r0 (L3.getD i 0))) (fun x hx => Zu hx rfl) (ZH (fun h => h rfl) (Zu hw rfl)) (fun hc => ?_) (fun hc => ?_)
    ·rw [if_pos hc]; exact ⟨_, rfl, .inr ⟨_, _, _, rfl, h1, hj.symm, h3⟩⟩
    ·rw [if_neg (by rw [hc]; decide)]
theorem ZsB {pl : List R_si} {i : Nat} {p : List RA} {js : List R_is} {q : List RA × List R_is} (h : Zku pl N i p js = some q) : q.1.length = p.length := by
 unfold Zku at h
 split at h
 ·split at h
  ·injection h with h; subst h; rfl
  ·cases h
 ·split at h
  ·split at h
   ·split at h
    ·injection h with h; subst h; simp
    ·cases h
   ·cases h
  ·split at h
   ·injection h with h; subst h; rfl
   ·cases h
theorem ZtK (hl : L3.length = L2.length) (hp : L2.length ≤ 512) : ∀ (f : Nat) (x : asm_reader_aimX) (i : Nat) (p : List RA) (js : List R_is), p.length ≤ i + f → p.length ≤ 512 → Rep L2 L4 x i p js →
  ∃ r, ZcV (Zbd A a1 L2 L3 L4 L5 L6 N) (f + 1) x = some r ∧ match Zh3 L6 L3 N f i p js with | .inl n => r = .r0 n | .inr q => ZvF L2 r q
 | 0, x, i, p, js, hf, hq, hR => by
  obtain ⟨r, h1, h2⟩ := ZtJ (A := A) (a1 := a1) (L3 := L3) (L5 := L5) (L6 := L6) (N := N) hR (by omega)
  exact ⟨r, Zcm h1, h2⟩
 | f + 1, x, i, p, js, hf, hq, hR => by
  rw [Zkh]
  by_cases hi : i < p.length
  ·rw [if_pos hi]
   obtain ⟨y, h1, h2⟩ := ZxA (A := A) (a1 := a1) (L5 := L5) (L6 := L6) (N := N) hR hi hl hp
   cases ho : Zku L6 N i p js with
   | none =>
    rw [ho] at h2
    subst h2
    exact ⟨_, Zcm h1, rfl⟩
   | some q =>
    rw [ho] at h2
    obtain ⟨z, rfl, hz⟩ := h2
    have hlen := ZsB ho
    obtain ⟨r, q1, q2⟩ := ZtK hl hp f z (i + 1) q.1 q.2 (by omega) (by omega) hz
    exact ⟨r, (Zd6 h1).trans q1, q2⟩
  ·rw [if_neg hi]
   obtain ⟨r, h1, h2⟩ := ZtJ (A := A) (a1 := a1) (L3 := L3) (L5 := L5) (L6 := L6) (N := N) hR hi
   exact ⟨r, Zcm h1, h2⟩
end
def PS.zero : PS := ⟨[], 0, [], [], [], []⟩
def ZeG (M : List Int) (N : Nat) : Zbs :=
 match rdL N M.length M PS.zero with
 | .inl n => .r0 n 130
 | .inr S => match Zh3 S.pl S.ls N 512 0 S.p S.js with
  | .inl n => .r0 n 130
  | .inr p => .r1 p
theorem Zor (M : List Int) (N : Nat) (hb : ZL M = true) (hl : M.length ≤ 90000) (hN : M.length + 600 ≤ N) : ZcI M N = some (ZeG M N) := by
 unfold ZcI
 refine ZH (by rw [Z6]; omega) ?_
 have h0 : PS.zero.Ok 0 := ⟨rfl, rfl, by decide, by decide, by decide⟩
 obtain ⟨q1, q2⟩ := ZsA (A := M) (a1 := 0) (B := []) (N := N) (by omega) M.length M PS.zero 0 (Nat.le_refl _) h0 (by omega) hb
 have e : Zet M 0 [] N = some (.inl (PS.zero.x M)) := rfl
 unfold ZeG ZcQ
 rw [ZmF e]
 cases hr : rdL N M.length M PS.zero with
 | inl n =>
  exact Zak (ZdW (by omega) (q1 n hr)) rfl
 | inr S =>
  obtain ⟨⟨k, hS⟩, q3⟩ := q2 S hr
  obtain ⟨r, a1, a2⟩ := ZtK (A := []) (a1 := S.line) (L2 := S.p) (L3 := S.ls) (L4 := S.js) (L5 := S.lb) (L6 := S.pl) (N := N) hS.ls hS.p 512 (.h1m0 0 S.line) 0 S.p S.js (by have := hS.p; omega) hS.p (.inl ⟨_, rfl, rfl, rfl⟩)
  have ha : Zc8 [] S.line S.p S.ls S.js S.lb S.pl N = some r := by
   unfold Zc8
   rw [ZmF (o := Zfb [] S.line S.p S.ls S.js S.lb S.pl N) (x := asm_reader_aimX.h1m0 0 S.line) rfl]
   exact ZdW (by omega) a1
  have hs : ∀ (z : ZD), (match r with | .r0 y1_0 => some (Sum.inr (.r0 y1_0)) | .r1 y1_0 => some (.inr (.r1 S.pl [] y1_0 S.p S.ls S.js S.lb)) | .r2 y1_0 y1_1 y1_2 y1_3 => some (.inr (.r2 S.pl [] y1_1 y1_0 S.ls S.js y1_2 y1_3 S.lb)) : Option (ZA ⊕ ZD)) = some (.inr z) → Za0 M 0 [] N (S.x []) = some (.inr z) := fun z hz => by
   show ZaA M 0 [] N S.pl [] S.line S.p S.ls S.js S.lb = _
   unfold ZaA
   refine ZH (fun h => h (ZjP.2 rfl)) ?_
   refine Zak ha ?_
   rw [← hz]
   cases r <;> rfl
  cases hm : Zh3 S.pl S.ls N 512 0 S.p S.js with
  | inl n =>
   rw [hm] at a2
   subst a2
   exact Zak (ZdW (by omega) (q3 _ (hs _ rfl))) (by simp only [hm])
  | inr p =>
   rw [hm] at a2
   rcases a2 with ⟨l, rfl, rfl⟩ | ⟨l, a, b, rfl⟩
   ·exact Zak (ZdW (by omega) (q3 _ (hs _ rfl))) (by simp only [hm])
   ·exact Zak (ZdW (by omega) (q3 _ (hs _ rfl))) (by simp only [hm])
end Ev
end Go.Proofs.YtlbbiflodemagaaDoor
/- Parse, plainly: a remark and an empty line put in between lines. -/
namespace Go.Proofs.YtlbbiflodemagaaDoor
open Go.RowKit
namespace Ev
set_option linter.unusedVariables false
theorem ZsC (N : Nat) : ∀ (f g : Nat) (M : List Int) (S : PS), M.length ≤ f → M.length ≤ g → rdL N f M S = rdL N g M S
 | 0, 0, _, _, _, _ => rfl
 | 0, g + 1, M, S, h1, _ => by
  obtain rfl : M = [] := List.length_eq_zero_iff.1 (by omega)
  simp [rdL]
 | f + 1, 0, M, S, _, h2 => by
  obtain rfl : M = [] := List.length_eq_zero_iff.1 (by omega)
  simp [rdL]
 | f + 1, g + 1, M, S, h1, h2 => by
  unfold rdL
  by_cases hM : M = []
  ·rw [if_pos hM, if_pos hM]
  ·rw [if_neg hM, if_neg hM]
   by_cases hh : Zbc 10 M = false
   ·rw [if_pos hh, if_pos hh]
   ·rw [if_neg hh, if_neg hh]
    have ha := ZhX 10 M hM
    cases ZcG N (Z5 10 M) { S with line := S.line + 1 } with
    | none => rfl
    | some S' => exact ZsC N f g _ S' (by omega) (by omega)
def RD (N : Nat) (M : List Int) (S : PS) : Int ⊕ PS := rdL N M.length M S
theorem ZuH {N : Nat} {M : List Int} {S : PS} (hM : M ≠ []) (hh : Zbc 10 M = false) : RD N M S = .inl (S.line + 1) := by
 unfold RD
 obtain ⟨f, hf⟩ : ∃ f, M.length = f + 1 := ⟨M.length - 1, by have := List.length_pos_iff.2 hM; omega⟩
 rw [hf]
 unfold rdL
 rw [if_neg hM, if_pos hh]
theorem ZgX {N : Nat} {M : List Int} {S : PS} (hh : Zbc 10 M = true) : RD N M S = match ZcG N (Z5 10 M) { S with line := S.line + 1 } with | none => .inl (S.line + 1) | some S' => RD N (ZO 10 M) S' := by
 have hM : M ≠ [] := fun e => by subst e; cases hh
 unfold RD
 obtain ⟨f, hf⟩ : ∃ f, M.length = f + 1 := ⟨M.length - 1, by have := List.length_pos_iff.2 hM; omega⟩
 have ha := ZhX 10 M hM
 rw [hf]
 conv => lhs; unfold rdL
 rw [if_neg hM, if_neg (by rw [hh]; decide)]
 cases ZcG N (Z5 10 M) { S with line := S.line + 1 } with
 | none => rfl
 | some S' => exact ZsC N f _ _ S' (by omega) (Nat.le_refl _)
theorem Znc {c : Int} : ∀ {a b : List Int}, Zbc c a = true → Zbc c (a ++ b) = true ∧ Z5 c (a ++ b) = Z5 c a ∧ ZO c (a ++ b) = ZO c a ++ b
 | [], b, h => by cases h
 | x :: a, b, h => by
  by_cases hx : x = c
  ·subst hx; simp [Zbc, Z5, ZO]
  ·have h' : Zbc c a = true := by simpa [Zbc, hx] using h
   obtain ⟨q1, q2, q3⟩ := Znc (b := b) h'
   simp [Zbc, Z5, ZO, hx, q1, q2, q3]
theorem Zqf {c : Int} : ∀ {a b : List Int}, c ∉ a → Zbc c (a ++ c :: b) = true ∧ Z5 c (a ++ c :: b) = a ∧ ZO c (a ++ c :: b) = b
 | [], b, _ => by simp [Zbc, Z5, ZO]
 | x :: a, b, h => by
  have hx : ¬ x = c := fun e => h (e ▸ List.mem_cons_self ..)
  obtain ⟨q1, q2, q3⟩ := Zqf (b := b) (fun h2 => h (List.mem_cons_of_mem _ h2) : c ∉ a)
  simp [Zbc, Z5, ZO, hx, q1, q2, q3]
def Zqg (a : List Int) : Prop := a = [] ∨ ∃ b, a = b ++ [10]
theorem ZsD : ∀ {b : List Int}, Zbc 10 (b ++ [10]) = true
 | [] => rfl
 | x :: b => by
  show (decide (x = 10) || Zbc 10 (b ++ [10])) = true
  rw [ZsD, Bool.or_true]
theorem ZsE : ∀ {b : List Int}, Zqg (ZO 10 (b ++ [10]))
 | [] => .inl (by simp [ZO])
 | x :: b => by
  show Zqg (if x = 10 then b ++ [10] else ZO 10 (b ++ [10]))
  by_cases hx : x = 10
  ·rw [if_pos hx]; exact .inr ⟨b, rfl⟩
  ·rw [if_neg hx]; exact ZsE
theorem p1 (N : Nat) : ∀ (n : Nat) (a : List Int), a.length ≤ n → Zqg a → ∀ S : PS, (∃ m, ∀ C, RD N (a ++ C) S = .inl m) ∨ ∃ S1, ∀ C, RD N (a ++ C) S = RD N C S1
 | n, a, hn, .inl h, S => by subst h; exact .inr ⟨S, fun C => rfl⟩
 | 0, a, hn, .inr h, S => by
  obtain ⟨b, rfl⟩ := h
  simp at hn
 | n + 1, a, hn, .inr h, S => by
  obtain ⟨b, rfl⟩ := h
  have hh := @ZsD b
  have ha := ZhX 10 (b ++ [10]) (by simp)
  cases hs : ZcG N (Z5 10 (b ++ [10])) { S with line := S.line + 1 } with
  | none =>
   refine .inl ⟨S.line + 1, fun C => ?_⟩
   obtain ⟨q1, q2, q3⟩ := Znc (b := C) hh
   rw [ZgX q1, q2, hs]
  | some S' =>
   rcases p1 N n (ZO 10 (b ++ [10])) (by omega) ZsE S' with ⟨m, hm⟩ | ⟨S1, h1⟩
   ·refine .inl ⟨m, fun C => ?_⟩
    obtain ⟨q1, q2, q3⟩ := Znc (b := C) hh
    rw [ZgX q1, q2, hs, q3]
    exact hm C
   ·refine .inr ⟨S1, fun C => ?_⟩
    obtain ⟨q1, q2, q3⟩ := Znc (b := C) hh
    rw [ZgX q1, q2, hs, q3]
    exact h1 C
theorem p2 (N : Nat) (note B : List Int) (hn : (10 : Int) ∉ note) (S : PS) : RD N ([35] ++ note ++ [10, 10] ++ B) S = RD N B { S with line := S.line + 1 + 1 } := by
 have e : [35] ++ note ++ [10, 10] ++ B = (35 :: note) ++ 10 :: (10 :: B) := by simp
 have h10 : (10 : Int) ∉ 35 :: note := fun h => by
  rcases List.mem_cons.1 h with h | h
  ·cases h
  ·exact hn h
 obtain ⟨q1, q2, q3⟩ := Zqf (b := 10 :: B) h10
 rw [e, ZgX q1, q2, q3]
 rw [show ZcG N (35 :: note) { S with line := S.line + 1 } = some { S with line := S.line + 1 } from if_pos (.inr rfl)]
 show RD N (10 :: B) { S with line := S.line + 1 } = _
 obtain ⟨r1, r2, r3⟩ := Zqf (c := 10) (a := []) (b := B) (by simp)
 rw [List.nil_append] at r1 r2 r3
 rw [ZgX r1, r2, r3]
 rfl
def LsR (l l' : List Int) : Prop := l'.length = l.length ∧ ∀ i, l'.getD i 0 = l.getD i 0 ∨ l'.getD i 0 = l.getD i 0 + 2
structure Sh (S S' : PS) : Prop where
 pl : S'.pl = S.pl
 line : S'.line = S.line + 2
 p : S'.p = S.p
 ls : LsR S.ls S'.ls
 js : S'.js = S.js
 lb : S'.lb = S.lb
theorem LsR.refl (l : List Int) : LsR l l := ⟨rfl, fun _ => .inl rfl⟩
theorem LsR.snoc {l l' : List Int} {x y : Int} (h : LsR l l') (hy : y = x + 2) : LsR (l ++ [x]) (l' ++ [y]) := by
 refine ⟨by simp [h.1], fun i => ?_⟩
 rcases Nat.lt_trichotomy i l.length with hi | hi | hi
 ·rw [ZiC hi, ZiC (by rw [h.1]; exact hi)]
  exact h.2 i
 ·subst hi
  rw [ZmG, ← h.1, ZmG]
  exact .inr hy
 ·rw [Zkt (L := l' ++ [y]) (by rw [List.length_append, h.1]; simp; omega), Zkt (by simp; omega)]
  exact .inl rfl
theorem st_sh (N : Nat) (l : List Int) {S S' : PS} (h : Sh S S') : (ZcG N l S = none ∧ ZcG N l S' = none) ∨ ∃ T T', ZcG N l S = some T ∧ ZcG N l S' = some T' ∧ Sh T T' := by
 obtain ⟨pl, line, p, ls, js, lb⟩ := S
 obtain ⟨pl', line', p', ls', js', lb'⟩ := S'
 obtain ⟨h1, h2, h3, h4, h5, h6⟩ := h
 simp only at h1 h2 h3 h4 h5 h6
 subst h1 h2 h3 h5 h6
 unfold ZcG
 by_cases c1 : l = [] ∨ bAt l 0 = 35
 ·rw [if_pos c1, if_pos c1]
  exact .inr ⟨_, _, rfl, rfl, rfl, rfl, rfl, h4, rfl, rfl⟩
 ·rw [if_neg c1, if_neg c1]
  by_cases c2 : bAt l 0 = 58
  ·rw [if_pos c2, if_pos c2]
   dsimp only
   by_cases c3 : Zes pl' (l.drop 1) = true ∨ ZfZ (l.drop 1) = false
   ·rw [if_pos c3, if_pos c3]; exact .inl ⟨rfl, rfl⟩
   ·rw [if_neg c3, if_neg c3]
    exact .inr ⟨_, _, rfl, rfl, rfl, rfl, rfl, h4, rfl, rfl⟩
  ·rw [if_neg c2, if_neg c2]
   dsimp only
   cases Zd0 p' js' (Zs8 l N) with
   | r0 => exact .inl ⟨rfl, rfl⟩
   | r1 q => exact .inr ⟨_, _, rfl, rfl, rfl, rfl, rfl, h4.snoc rfl, rfl, rfl⟩
   | r2 q j => exact .inr ⟨_, _, rfl, rfl, rfl, rfl, rfl, h4.snoc rfl, rfl, rfl⟩
theorem p3 (N : Nat) : ∀ (n : Nat) (B : List Int) (S S' : PS), B.length ≤ n → Sh S S' → (∃ m, RD N B S = .inl m ∧ RD N B S' = .inl (m + 2)) ∨ ∃ T T', RD N B S = .inr T ∧ RD N B S' = .inr T' ∧ Sh T T'
 | n, [], S, S', _, h => .inr ⟨S, S', rfl, rfl, h⟩
 | 0, x :: B, S, S', hn, h => by simp at hn
 | n + 1, x :: B, S, S', hn, h => by
  have hl := h.line
  cases hh : Zbc 10 (x :: B) with
  | false =>
   refine .inl ⟨S.line + 1, ZuH (by simp) hh, ?_⟩
   rw [ZuH (by simp) hh, hl]
   congr 1; omega
  | true =>
   have hs : Sh { S with line := S.line + 1 } { S' with line := S'.line + 1 } := ⟨h.pl, by show S'.line + 1 = S.line + 1 + 2; omega, h.p, h.ls, h.js, h.lb⟩
   have ha := ZhX 10 (x :: B) (by simp)
   rw [ZgX hh, ZgX hh]
   rcases st_sh N (Z5 10 (x :: B)) hs with ⟨e1, e2⟩ | ⟨T, T', e1, e2, h2⟩
   ·rw [e1, e2]
    exact .inl ⟨S.line + 1, rfl, by show Sum.inl (S'.line + 1) = _; rw [hl]; congr 1; omega⟩
   ·rw [e1, e2]
    exact p3 N n _ T T' (by simp at hn ha; omega) h2
theorem p4 (pl : List R_si) (N : Nat) {ls ls' : List Int} (h : LsR ls ls') : ∀ (f i : Nat) (p : List RA) (js : List R_is), (∃ m m', Zh3 pl ls N f i p js = .inl m ∧ Zh3 pl ls' N f i p js = .inl m' ∧ (m' = m ∨ m' = m + 2)) ∨ ∃ q, Zh3 pl ls N f i p js = .inr q ∧ Zh3 pl ls' N f i p js = .inr q
 | 0, i, p, js => .inr ⟨p, rfl, rfl⟩
 | f + 1, i, p, js => by
  rw [Zkh, Zkh]
  by_cases hi : i < p.length
  ·rw [if_pos hi, if_pos hi]
   cases Zku pl N i p js with
   | none => exact .inl ⟨_, _, rfl, rfl, h.2 i⟩
   | some q => exact p4 pl N h f (i + 1) q.1 q.2
  ·rw [if_neg hi, if_neg hi]
   exact .inr ⟨p, rfl, rfl⟩
def outL (N : Nat) (x : Int ⊕ PS) : Zbs :=
 match x with
 | .inl n => .r0 n 130
 | .inr S => match Zh3 S.pl S.ls N 512 0 S.p S.js with
  | .inl n => .r0 n 130
  | .inr p => .r1 p
theorem ZqF (M : List Int) (N : Nat) : ZeG M N = outL N (RD N M PS.zero) := rfl
theorem ZvG (N : Nat) (A note B : List Int) (hA : Zqg A) (hn : (10 : Int) ∉ note) :
  (∃ n m, ZeG (A ++ B) N = .r0 n 130 ∧ ZeG (A ++ ([35] ++ note ++ [10, 10] ++ B)) N = .r0 m 130 ∧ (m = n ∨ m = n + 2)) ∨ ∃ p, ZeG (A ++ B) N = .r1 p ∧ ZeG (A ++ ([35] ++ note ++ [10, 10] ++ B)) N = .r1 p := by
 rw [ZqF, ZqF]
 rcases p1 N A.length A (Nat.le_refl _) hA PS.zero with ⟨m, hm⟩ | ⟨S1, h1⟩
 ·rw [hm, hm]
  exact .inl ⟨m, m, rfl, rfl, .inl rfl⟩
 ·rw [h1, h1, p2 N note B hn]
  have hs : Sh S1 { S1 with line := S1.line + 1 + 1 } := ⟨rfl, by show S1.line + 1 + 1 = S1.line + 2; omega, rfl, LsR.refl _, rfl, rfl⟩
  rcases p3 N B.length B S1 _ (Nat.le_refl _) hs with ⟨m, e1, e2⟩ | ⟨T, T', e1, e2, h2⟩
  ·rw [e1, e2]
   exact .inl ⟨m, m + 2, rfl, rfl, .inr rfl⟩
  ·rw [e1, e2]
   unfold outL
   dsimp only
   rw [h2.pl, h2.p, h2.js]
   rcases p4 T.pl N h2.ls 512 0 T.p T.js with ⟨m, m', f1, f2, f3⟩ | ⟨q, f1, f2⟩
   ·rw [f1, f2]
    exact .inl ⟨m, m', rfl, rfl, f3⟩
   ·rw [f1, f2]
    exact .inr ⟨q, rfl, rfl⟩
/-! ### Sizes -/
structure Bd (S : PS) (k : Int) : Prop where
 line : 0 ≤ S.line ∧ S.line ≤ k
 ls : ∀ i, 0 ≤ S.ls.getD i 0 ∧ S.ls.getD i 0 ≤ k
theorem ZtL {l : List Int} {x k : Int} (h : ∀ i, 0 ≤ l.getD i 0 ∧ l.getD i 0 ≤ k) (hx : 0 ≤ x ∧ x ≤ k) : ∀ i, 0 ≤ (l ++ [x]).getD i 0 ∧ (l ++ [x]).getD i 0 ≤ k := fun i => by
 rcases Nat.lt_trichotomy i l.length with hi | hi | hi
 ·rw [ZiC hi]; exact h i
 ·subst hi; rw [ZmG]; exact hx
 ·rw [Zkt (by simp; omega)]; omega
theorem st_bd {N : Nat} {l : List Int} {S T : PS} {k : Int} (h : Bd S k) (hs : ZcG N l S = some T) : Bd T k := by
 unfold ZcG at hs
 split at hs
 ·injection hs with hs; subst hs; exact h
 ·split at hs
  ·split at hs
   ·cases hs
   ·injection hs with hs; subst hs; exact ⟨h.line, h.ls⟩
  ·split at hs
   ·cases hs
   ·injection hs with hs; subst hs; exact ⟨h.line, ZtL h.ls h.line⟩
   ·injection hs with hs; subst hs; exact ⟨h.line, ZtL h.ls h.line⟩
theorem ZwD (N : Nat) : ∀ (n : Nat) (B : List Int) (S : PS) (k : Int), B.length ≤ n → Bd S k → S.line + B.length ≤ k → (∀ m, RD N B S = .inl m → 0 ≤ m ∧ m ≤ k) ∧ ∀ T, RD N B S = .inr T → Bd T k
 | n, [], S, k, _, h, _ => ⟨fun m e => (by cases e), fun T e => by cases e; exact h⟩
 | 0, x :: B, S, k, hn, h, _ => by simp at hn
 | n + 1, x :: B, S, k, hn, h, hk => by
  have hl := h.line
  have hk' : S.line + 1 ≤ k := by simp at hk; omega
  cases hh : Zbc 10 (x :: B) with
  | false =>
   rw [ZuH (by simp) hh]
   exact ⟨fun m e => (by cases e; omega), fun T e => by cases e⟩
  | true =>
   have ha := ZhX 10 (x :: B) (by simp)
   rw [ZgX hh]
   cases e1 : ZcG N (Z5 10 (x :: B)) { S with line := S.line + 1 } with
   | none => exact ⟨fun m e => (by cases e; omega), fun T e => by cases e⟩
   | some T =>
    have hb : Bd { S with line := S.line + 1 } k := ⟨⟨by show 0 ≤ S.line + 1; omega, hk'⟩, h.ls⟩
    have hT := st_bd hb e1
    have hTl : T.line = S.line + 1 := by
     unfold ZcG at e1
     split at e1
     ·injection e1 with e1; subst e1; rfl
     ·split at e1
      ·split at e1
       ·cases e1
       ·injection e1 with e1; subst e1; rfl
      ·split at e1
       ·cases e1
       ·injection e1 with e1; subst e1; rfl
       ·injection e1 with e1; subst e1; rfl
    exact ZwD N n _ T k (by simp at hn ha; omega) hT (by rw [hTl]; simp at hk ha; omega)
theorem ZvH (pl : List R_si) (N : Nat) {ls : List Int} {k : Int} (h : ∀ i, 0 ≤ ls.getD i 0 ∧ ls.getD i 0 ≤ k) : ∀ (f i : Nat) (p : List RA) (js : List R_is), (∀ m, Zh3 pl ls N f i p js = .inl m → 0 ≤ m ∧ m ≤ k) ∧ ∀ q, Zh3 pl ls N f i p js = .inr q → q.length = p.length
 | 0, i, p, js => ⟨fun m e => (by cases e), fun q e => by cases e; rfl⟩
 | f + 1, i, p, js => by
  rw [Zkh]
  by_cases hi : i < p.length
  ·rw [if_pos hi]
   cases ho : Zku pl N i p js with
   | none => exact ⟨fun m e => (by cases e; exact h i), fun q e => by cases e⟩
   | some q =>
    obtain ⟨q1, q2⟩ := ZvH pl N h f (i + 1) q.1 q.2
    exact ⟨q1, fun r e => (q2 r e).trans (ZsB ho)⟩
  ·rw [if_neg hi]
   exact ⟨fun m e => (by cases e), fun q e => by cases e; rfl⟩
theorem Zw4 (M : List Int) (N : Nat) (hb : ZL M = true) (hl : M.length ≤ 90000) (hN : 33 ≤ N) : (∀ n e, ZeG M N = .r0 n e → 0 ≤ n ∧ n ≤ 90000) ∧ ∀ p, ZeG M N = .r1 p → p.length ≤ 512 := by
 have h0 : Bd PS.zero 90000 := ⟨⟨by decide, by decide⟩, fun i => by show 0 ≤ ([] : List Int).getD i 0 ∧ ([] : List Int).getD i 0 ≤ 90000; simp⟩
 obtain ⟨q1, q2⟩ := ZwD N M.length M PS.zero 90000 (Nat.le_refl _) h0 (by show (0 : Int) + (M.length : Int) ≤ 90000; omega)
 have hok := (ZsA (A := M) (a1 := 0) (B := []) (N := N) hN M.length M PS.zero 0 (Nat.le_refl _) ⟨rfl, rfl, by decide, by decide, by decide⟩ (by omega) hb).2
 unfold ZeG
 cases hr : rdL N M.length M PS.zero with
 | inl n =>
  exact ⟨fun m e h => (by injection h with h; subst h; exact q1 _ hr), fun p h => by cases h⟩
 | inr T =>
  have hT := q2 T hr
  obtain ⟨⟨k, hk⟩, _⟩ := hok T hr
  obtain ⟨r1, r2⟩ := ZvH T.pl N hT.ls 512 0 T.p T.js
  dsimp only
  cases ha : Zh3 T.pl T.ls N 512 0 T.p T.js with
  | inl n => exact ⟨fun m e h => (by injection h with h; subst h; exact r1 _ ha), fun p h => by cases h⟩
  | inr q => exact ⟨fun m e h => (by cases h), fun p h => by injection h with h; subst h; rw [r2 _ ha]; exact hk.p⟩
end Ev
end Go.Proofs.YtlbbiflodemagaaDoor
/- AsmBeside, plainly. -/
namespace Go.Proofs.YtlbbiflodemagaaDoor
open Go.RowKit
namespace Ev
set_option linter.unusedVariables false
theorem Zpq (p : List RA) (N : Nat) (hp : p.length ≤ 512) : ∀ (k i : Nat), i + k = p.length → ZcV (ZdJ p p N) (k + 1) (.h1m0 i) = some (.r0 true)
 | 0, i, h => by
  refine Zcm ?_
  show Zb4 p p N i = _
  unfold Zb4
  exact ZH (by omega) rfl
 | k + 1, i, h => by
  refine (Zd6 (y := .h1m0 (i + 1)) ?_).trans (Zpq p N hp k (i + 1) (by omega))
  show Zb4 p p N i = _
  unfold Zb4
  exact Zu (by omega) <| Zu (by omega) <| ZH (fun h => h ⟨rfl, rfl, rfl, rfl⟩) <| Zu (by omega) rfl
theorem ZuI (p : List RA) (N : Nat) (hp : p.length ≤ 512) (hN : 600 ≤ N) : ZfW p p N = some (.r0 true) := by
 unfold ZfW
 rw [ZmF (o := ZeE p p N) (x := ref11_Same_4X.h1m0 0) (by unfold ZeE; exact ZH (fun h => h rfl) rfl)]
 exact ZdW (by omega) (Zpq p N hp p.length 0 (by omega))
theorem same0 (N : Nat) (hN : 600 ≤ N) : Zjc N = some .r0 := by
 obtain ⟨n, rfl⟩ : ∃ n, N = n + 1 := ⟨N - 1, by omega⟩
 rfl
section
variable {L0 : List Int} {a1 : Int} {L2 : List Int} {N : Nat} {s note : List Int}
def be3 (N : Nat) (s note : List Int) (k : Nat) : Zy :=
 match ZeG s N with
 | .r0 n e => .h3m0 s note k n e
 | .r1 p => .h3m1 s note k p
theorem ZvI (hs : ZL s = true) (hn : ZL note = true) (ls : s.length ≤ 4000) (ln : note.length ≤ 4000) (hN : 20000 ≤ N) (h10 : (10 : Int) ∉ note) (k : Nat) (hk : k ≤ s.length) (hE : Zqg (s.take k)) :
  Za1 L0 a1 L2 N (be3 N s note k) = some (.inr (.r0 true)) := by
 have e1 : ((k : Int)).toNat = k := by omega
 have hsp : s = s.take k ++ s.drop k := (List.take_append_drop k s).symm
 have hT : ((((s.take k) ++ (bl [35])) ++ note) ++ (bl [10, 10])) ++ s.drop k = s.take k ++ ([35] ++ note ++ [10, 10] ++ s.drop k) := by simp [bl]
 have hbT : ZL (s.take k ++ ([35] ++ note ++ [10, 10] ++ s.drop k)) = true := by
  refine ZlD fun x hx => ?_
  simp only [List.mem_append, List.mem_cons, List.not_mem_nil, or_false] at hx
  rcases hx with hx | ((hx | hx) | hx) | hx
  ·exact ZeJ hs (List.mem_of_mem_take hx)
  ·omega
  ·exact ZeJ hn hx
  ·omega
  ·exact ZeJ hs (List.mem_of_mem_drop hx)
 have hlT : (s.take k ++ ([35] ++ note ++ [10, 10] ++ s.drop k)).length ≤ 9000 := by
  simp only [List.length_append, List.length_take, List.length_drop, List.length_cons, List.length_nil]
  omega
 have hpT := Zor _ N hbT (by omega) (by omega)
 have l1 : (s.take k).length = k := by rw [List.length_take]; omega
 have l2 : (s.drop k).length = s.length - k := List.length_drop
 have g1 : ((s.take k).length + 1) ≤ 1000000 := by omega
 have g2 : ((s.take k).length + 1) + note.length ≤ 1000000 := by omega
 have g3 : (((s.take k).length + 1) + note.length) + 2 ≤ 1000000 := by omega
 have g4 : ((((s.take k).length + 1) + note.length) + 2) + (s.drop k).length ≤ 1000000 := by omega
 have htwo := ZvG N (s.take k) note (s.drop k) hE h10
 rw [← hsp] at htwo
 have hbd := Zw4 s N hs (by omega) (by omega)
 unfold be3
 rcases htwo with ⟨n, m, f1, f2, f3⟩ | ⟨p, f1, f2⟩
 ·rw [f1]
  have hn2 := hbd.1 _ _ f1
  show Zcv L0 a1 L2 N s note k n 130 = _
  unfold Zcv
  rw [e1, hT, hpT, f2]
  refine Zu (by omega) <| Zu (by omega) <| Zu g1 <| Zu g2 <| Zu g3 <| Zu g4 <| Zak rfl <| Zak (same0 N (by omega)) <| Zu rfl <| Zu (by decide) ?_
  rw [w64 (x := n + 2) (by omega) (by omega)]
  rcases f3 with f3 | f3
  ·exact Zu f3 rfl
  ·exact ZH (by omega) <| Zu f3 rfl
 ·rw [f1]
  have hp := hbd.2 _ f1
  show Zcw L0 a1 L2 N s note k p = _
  unfold Zcw
  rw [e1, hT, hpT, f2]
  exact Zu (by omega) <| Zu (by omega) <| Zu g1 <| Zu g2 <| Zu g3 <| Zu g4 <| Zak rfl <| Zak (ZuI p N hp (by omega)) <| Zu rfl rfl
theorem ZtM (hs : ZL s = true) (hn : ZL note = true) (ls : s.length ≤ 4000) (ln : note.length ≤ 4000) (hN : 20000 ≤ N) (h10 : (10 : Int) ∉ note) : ∀ (k : Nat), k ≤ s.length → ZcV (Za1 L0 a1 L2 N) (k + 2) (.h2m0 s note k) = some (.r0 true)
 | 0, hk => by
  have hp := Zor s N hs (by omega) (by omega)
  refine (Zd6 (y := be3 N s note 0) ?_).trans (Zcm (ZvI hs hn ls ln hN h10 0 hk (.inl rfl)))
  show ZaC L0 a1 L2 N s note ((0 : Nat) : Int) = _
  unfold ZaC be3
  refine ZH (by omega) <| Zak hp ?_
  cases ZeG s N <;> rfl
 | k + 1, hk => by
  have hp := Zor s N hs (by omega) (by omega)
  have hw : IntKind.i64.wrap (((k + 1 : Nat) : Int) - 1) = (k : Int) := by rw [w64 (by omega) (by omega)]; omega
  have e1 : ((k : Int)).toNat = k := by omega
  have hb := Zv4 hs (show k < s.length by omega)
  by_cases h : s.getD k 0 = 10
  ·have hE : Zqg (s.take (k + 1)) := .inr ⟨s.take k, by rw [← h]; exact (ZvC (by omega) 0).symm⟩
   refine ZdW (n := 2) (by omega) ((Zd6 (y := be3 N s note (k + 1)) ?_).trans (Zcm (ZvI hs hn ls ln hN h10 (k + 1) hk hE)))
   show ZaC L0 a1 L2 N s note ((k + 1 : Nat) : Int) = _
   unfold ZaC be3
   rw [hw, e1]
   refine Zu (by omega) <| Zu (by omega) <| Zu (by omega) <| ZH (fun g => g (hb.trans h)) <| Zak hp ?_
   cases ZeG s N <;> rfl
  ·refine (Zd6 (y := .h2m0 s note k) ?_).trans (ZtM hs hn ls ln hN h10 k (by omega))
   show ZaC L0 a1 L2 N s note ((k + 1 : Nat) : Int) = _
   unfold ZaC
   rw [hw, e1]
   exact Zu (by omega) <| Zu (by omega) <| Zu (by omega) <| Zu (fun g => h (hb.symm.trans g)) rfl
theorem ZtN (hs : ZL s = true) (hn : ZL note = true) (ls : s.length ≤ 4000) (ln : note.length ≤ 4000) (hN : 20000 ≤ N) (ha0 : 0 ≤ a1) (ha1 : a1 ≤ 65535) : ∀ (k i : Nat), i + k = note.length → (∀ j, j < i → note.getD j 0 ≠ 10) → ZcV (Za1 L0 a1 L2 N) (k + 1 + 4002) (.h1m0 s note i) = some (.r0 true)
 | 0, i, hi, hj => by
  have h10 : (10 : Int) ∉ note := fun h => by
   obtain ⟨j, hl, e⟩ := List.mem_iff_getElem.1 h
   exact hj j (by omega) (by simp [List.getD, hl, e])
  have hm : ∃ t : Nat, Int.tmod a1 ((((Za s).size + 1 : Nat)) : Int) = (t : Int) ∧ t ≤ s.length := by
   rw [Z6, Int.tmod_eq_emod_of_nonneg ha0]
   have h1 := Int.emod_nonneg a1 (show ((s.length + 1 : Nat) : Int) ≠ 0 by omega)
   have h2 := Int.emod_lt_of_pos a1 (show (0 : Int) < ((s.length + 1 : Nat) : Int) by omega)
   exact ⟨(a1 % ((s.length + 1 : Nat) : Int)).toNat, by omega, by omega⟩
  obtain ⟨t, ht, htl⟩ := hm
  refine (Zd6 (n := 4002) (y := .h2m0 s note t) ?_).trans (ZdW (by omega) (ZtM hs hn ls ln hN h10 t htl))
  show ZaB L0 a1 L2 N s note i = _
  unfold ZaB
  rw [ht]
  exact ZH (by rw [Z6]; omega) <| Zu (by omega) <| Zu (by omega) <| Zu (by rw [Z6]; omega) rfl
 | k + 1, i, hi, hj => by
  have hb := Zv4 hn (show i < note.length by omega)
  by_cases h : note.getD i 0 = 10
  ·refine ZdW (n := 1) (by omega) (Zcm ?_)
   show ZaB L0 a1 L2 N s note i = _
   unfold ZaB
   exact Zu (by rw [Z6]; omega) <| Zu (hb.trans h) rfl
  ·have e : k + 1 + 1 + 4002 = (k + 1 + 4002) + 1 := by omega
   rw [e]
   refine (Zd6 (y := .h1m0 s note (i + 1)) ?_).trans (ZtN hs hn ls ln hN ha0 ha1 k (i + 1) (by omega) fun j hj2 => ?_)
   ·show ZaB L0 a1 L2 N s note i = _
    unfold ZaB
    exact Zu (by rw [Z6]; omega) <| ZH (fun g => h (hb.symm.trans g)) <| Zu (by omega) rfl
   ·rcases Nat.lt_or_ge j i with h1 | h1
    ·exact hj j h1
    ·obtain rfl : j = i := by omega
     exact h
end
theorem Zqh (L : List Int) : (L.take ((if (4000 : Int) < (((Za L).size : Nat) : Int) then (4000 : Int) else (((Za L).size : Nat) : Int))).toNat).length ≤ 4000 := by
 rw [List.length_take]
 split <;> omega
theorem Zpr {M : List Int} (hb : ZL M = true) (k : Nat) : ZL (M.take k) = true := ZlD fun x hx => ZeJ hb (List.mem_of_mem_take hx)
theorem Abe.runs (L0 : List Int) (a1 : Int) (L2 : List Int) (N : Nat) (f0 : ZL L0 = true) (w1 : IntKind.u16.has a1) (f2 : ZL L2 = true) (hN : 20000 ≤ N := by decide) : Zh0 L0 a1 L2 N = some (.r0 true) := by
 have ha : 0 ≤ a1 ∧ a1 ≤ 65535 := by simpa [IntKind.has, IntKind.min, IntKind.max, IntKind.signed, IntKind.bits] using w1
 unfold Zh0
 rw [ZmF (o := Zev L0 a1 L2 N) rfl]
 exact ZdW (by have := Zqh L2; omega) (ZtN (Zpr f0 _) (Zpr f2 _) (Zqh L0) (Zqh L2) hN ha.1 ha.2 _ 0 (Nat.zero_add _) (fun j hj => by omega))
end Ev
end Go.Proofs.YtlbbiflodemagaaDoor
/- A region that draws its order, whose first operations only read (and make memory in calls), and whose last ones, in a forced order among themselves, make and write new memory: but these may come up early. -/
namespace Go.Proofs.YtlbbiflodemagaaDoor
open Go.RowKit

section
variable {P : Program}

def Calm (P : Program) (W : World) (o : Oper) (a : Act) (v : Value) : Prop :=
 ∀ w, Below W.heap.size W w → o.quietAt P a (fun w' => Below w.heap.size w w') w v

def YieldsC (P : Program) (ops : Array Oper) (W : World) (o : Oper) (v : Value) (a : Act) : Prop :=
 (Region.wanted o (yielded ops a.tmps) = true ∧ Calm P W o a v) ∨ (Region.wanted o (yielded ops a.tmps) = false ∧ v = undef)
theorem ZqG {a b c : World} (h : Below a.heap.size a b) (k : Below b.heap.size b c) : Below a.heap.size a c := h.trans (k.mono h.size)

def Closed (md : Region.Mode) (ops : Array Oper) (listed : Array Bool) : Prop :=
 ∀ j oj, ops[j]? = some oj → listed.getD j false = true → ∀ e ∈ oj.after, Region.binds md e = true → listed.getD e.on false = true
def ZsF (md : Region.Mode) (ops : Array Oper) : Nat → Nat → Nat → Bool
 | 0, _, _ => false
 | f + 1, t, i => Region.waitsFor md ops t i || (List.range ops.size).any fun k => Region.waitsFor md ops t k && ZsF md ops f k i
theorem Closed.waits {md : Region.Mode} {ops : Array Oper} {listed : Array Bool} (h : Closed md ops listed) : ∀ (f t i : Nat), listed.getD t false = true → ZsF md ops f t i = true → listed.getD i false = true
 | 0, _, _, _, hw => by cases hw
 | f + 1, t, i, ht, hw => by
  simp only [ZsF, Bool.or_eq_true, List.any_eq_true, Bool.and_eq_true] at hw
  rcases hw with hw | ⟨k, _, hw, hr⟩
  ·obtain ⟨o, ho, e, he, hb, rfl⟩ := Region.waitsFor_spec hw
   exact h t o ho ht e he hb
  ·obtain ⟨o, ho, e, he, hb, rfl⟩ := Region.waitsFor_spec hw
   exact h.waits f e.on i (h t o ho ht e he hb) hr

theorem YieldsC.wpOp {ops : Array Oper} {W : World} {i : Nat} {o : Oper} {v : Value} {a : Act} {w : World} (hi : ops[i]? = some o) (hy : YieldsC P ops W o v a) (hb : Below W.heap.size W w)
  {K : Act → World → Prop} {Q : Exit → Act → World → Prop} (h : ∀ w', Below w.heap.size w w' → K (a.put o.dst v) w') : wpOp P ops Q i K a w := by
 unfold Go.wpOp
 simp only [hi]
 rcases hy with ⟨hw, hv⟩ | ⟨hw, rfl⟩
 ·simp only [hw, if_true]
  exact .inl (Oper.wp_of_quiet (C := fun w' => Below w.heap.size w w') (K := fun a' => a' = a.put o.dst v) (Below.refl _ _) (fun a' w' hw' ha => by subst ha; exact h w' hw')
   ⟨v, fun w1 hw1 => by
    have h1 := hv w1 (ZqG hb hw1)
    unfold Oper.quietAt at h1 ⊢
    generalize (execOp a.eval o).run P w1 = r at *
    cases r with
    | ok n w' =>
     cases n <;> simp only [Oper.quietUpon] at h1 ⊢
     case value u => exact h1
     case skip => exact h1
     case enter f args => exact ⟨h1.1, h1.2.mono fun e w2 ⟨he, hb2⟩ => ⟨he, ZqG hw1 hb2⟩⟩
    | halt x w' => simp only [Oper.quietUpon] at h1, rfl⟩)
 ·simp only [hw, Bool.false_eq_true, if_false]
  exact h w (Below.refl _ _)

end
end Go.Proofs.YtlbbiflodemagaaDoor
/- The frame of a law whose row lists tables: from what is laid to the tables that the runner knows. -/
namespace Go.Proofs.YtlbbiflodemagaaDoor
open Go.ChangeShapes Go.WideShapes Go.ChangeAt Go.RowKit
section
variable {H : Type} {enc : TypeId × Value → H} {P : Program}
theorem ZuJ {C : Checked} {os : Os} {F : FuncId} {fn : Func} {s : ChangeSpec} {tb : TypeId} {laid : List (String × DataW Unit)}
  (own : ownKnob C.prog.godebug = none) (started : os.Started) (noInit : C.prog.inits.idxOf? F = none) (hfn : C.prog.funcs[F]? = some fn)
  (hv : s.vars = []) (hrt : fn.resultTypes = #[tb]) (hub : C.prog.underlying tb = some .bool)
  (hspec : ∀ ds : List (DataW H), ds.length = fn.params.size → s.fn H ds = { results := [.lit (.bool true)], args := ds })
  (hl : laidOutB C.prog = true) (hr : (fn.params.toList.all fun t => C.prog.readableRec t && decide (t < C.prog.types.size)) = true)
  (witness : ∃ (w : World) (tape : Tape) (i : Input), w.os = os ∧ (w.forCall tape i).Shaped C.prog ∧ i.vars = [] ∧ Input.okWide C.prog (w.forCall tape i) .any w.heap.size F i ∧
   ((s.pre enc C.prog fn [] false (w.forCall tape i).memory i.args ∧ laidMetH C.prog laid (w.forCall tape i).memory) ∧ sizedMet enc C.prog fn (OpenSpec.ofChange s) false (w.forCall tape i).memory i.args) ∧ ({} : Assume).holds C.prog (lone (Frame.enter C.prog F i.args .normal) [] (w.forCall tape i)))
  (walk : ∀ (W : World) (base : Nat) (args : Array Value) (ds : List (DataW H)) (p : List MemPlace),
   (∀ (j : Nat) t v, fn.params[j]? = some t → args[j]? = some v → Value.okWide C.prog W .any base t v) →
   DataW.TrodAll enc C.prog W 0 (fun _ => true) true fn.params.toList args.toList ds p → (∀ x ∈ p, x.block < W.heap.size) →
   (DataW.weightsEach C.prog fn.params.toList ds).all (· ≤ reachBytes) = true → laidMetH C.prog laid W →
   Calls C.prog F args W (Ret (.bool true) W)) :
  ReturnsInHanded {} C os F .any (fun w args => (s.pre enc C.prog fn [] false w args ∧ laidMetH C.prog laid w) ∧ sizedMet enc C.prog fn (OpenSpec.ofChange s) false w args) (s.post enc C.prog fn false true false false) := by
 refine returnsInHanded_of_change_and (X := fun w _ => laidMetH C.prog laid w) (fun _ _ _ hh h => h.of_heap hh) own started noInit hfn witness ?_
 intro W base args ds gs before hval hW _ hsz hL _
 have hlt : ∀ x ∈ before, x.block < W.heap.size := fun x hx => hW.lt x hx
 obtain ⟨p, q, hA, hV, hps, hfz, hnd⟩ := id hW
 rw [hv] at hV
 obtain ⟨rfl, rfl⟩ := trodVars_none hV
 rw [List.append_nil] at hps
 subst hps
 have hvt : s.plain.varTypes C.prog = [] := by simp [ChangeSpec.plain, DataSpec.varTypes, hv]
 rw [hvt, List.append_nil, List.append_nil] at hsz
 refine (walk W base args ds before hval hA hlt hsz hL).mono fun e W' ⟨he, hb⟩ => ⟨_, he, ?_⟩
 have hlen : ds.length = fn.params.size := by
  have : ∀ {ts : List TypeId} {vs : List Value} {ds : List (DataW H)} {ps : List MemPlace}, DataW.TrodAll enc C.prog W 0 (fun _ => true) true ts vs ds ps → ds.length = ts.length := by
   intro ts
   induction ts with
   | nil => intro vs ds ps h; obtain ⟨_, rfl, _⟩ := trodAll_nil h; rfl
   | cons t ts ih => intro vs ds ps h; obtain ⟨_, _, _, _, _, _, _, rfl, _, _, r⟩ := trodAll_cons h; simp [ih r]
  simpa using this hA
 have hs := hspec (ds ++ []) (by simpa using hlen)
 refine ⟨ds, [], before, [], before, [], by simpa [hv] using hW, ?_, ?_, ?_, World.keptBut_mono (fun x hx => ⟨hx, .inr (.inl hx)⟩) (hb.frame (· ∈ before)), fun h => by cases h⟩
 ·rw [hs, hrt]
  exact trodAll_mk1 (shut_bool hub true)
 ·rw [hs]
  simpa using Zmq hl hb hr hA hlt
 ·rw [hs, hv]
  rfl
end
namespace Ev
theorem ZnG {P : Program} {W : World} {n : String} {g : Nat} {cs : Array Value} (hg : P.globalNamed n = some g) (h : W.var? P n = some cs) : ∃ t fr, W.heap[g]? = some (.cells cs t fr) := by
 simp only [World.var?, hg, Option.bind_some] at h
 split at h
 ·rename_i c t fr hW
  injection h with h; subst h
  exact ⟨t, fr, hW⟩
 ·cases h
def pow10 : List Int := [1, 10, 100, 1000, 10000, 100000, 1000000, 10000000, 100000000, 1000000000, 10000000000, 100000000000, 1000000000000, 10000000000000, 100000000000000, 1000000000000000, 10000000000000000, 100000000000000000, 1000000000000000000, 10000000000000000000]
theorem ZqV {H : Type} {enc : TypeId × Value → H} {P : Program} {w : World} {base : Nat} {sp : Nat → Bool} {fuel : Nat} {t : TypeId} {ms : Array (String × TypeId)} {cs : List Value} {nm : String} {d : DataW H} {p : List MemPlace}
  (hi : P.underlying t = some (.interface ms)) (h : DataW.trod enc P w base sp false fuel t cs = some (.iface nm d, p)) : ∃ u v, cs = [.iface u v] := by
 cases fuel with
 | zero => simp [DataW.trod] at h
 | succ fuel =>
  rcases cs with _ | ⟨v, _ | ⟨v', r⟩⟩
  ·simp [DataW.trod, hi] at h
  ·cases v <;> first | exact ⟨_, _, rfl⟩ | (simp [DataW.trod, hi] at h)
  ·simp [DataW.trod, hi] at h
theorem ZnH {P : Program} {W : World} {n nm : String} {d : DataW Unit} {g : Nat} {ti : TypeId} {ms : Array (String × TypeId)} (hg : P.globalNamed n = some g) (ht : (P.globals[g]?).map (·.type) = some ti) (hi : P.underlying ti = some (.interface ms))
  (h : laidMet P [(n, .iface nm d)] W) : ∃ C t fr, W.heap[g]? = some (.cells C t fr) ∧ ZvO [] C := by
 obtain ⟨ps, ⟨g0, t0, cs0, f0, p0, q0, hg0, ht0, hv0, hd0, _, _⟩, _⟩ := h
 obtain rfl := Option.some.inj (hg.symm.trans hg0)
 obtain rfl := Option.some.inj (ht.symm.trans ht0)
 obtain ⟨u, v, hl⟩ := ZqV hi hd0
 obtain ⟨t, fr, h3⟩ := ZnG hg hv0
 refine ⟨_, t, fr, h3, .iface u v, ?_, .inr ⟨_, _, rfl⟩⟩
 obtain ⟨l0⟩ := cs0
 obtain rfl : l0 = _ := hl
 rfl
theorem tabw_of_laid {W : World} {laid : List (String × DataW Unit)} (hl : (laid.filter fun x => x.1 == "internal/strconv.uint64pow10") = [("internal/strconv.uint64pow10", Go.Lib.tabData .u64 pow10)])
    {x1 : List UInt8} (he1 : (laid.filter fun x => x.1 == "strconv.ErrSyntax") = [("strconv.ErrSyntax", .iface "*errors.errorString" (.ptr (.agg [.lit (.string x1)])))])
    {x2 : List UInt8} (he2 : (laid.filter fun x => x.1 == "strconv.ErrRange") = [("strconv.ErrRange", .iface "*errors.errorString" (.ptr (.agg [.lit (.string x2)])))])
    (h : laidMetH Tryd.prog laid W) : TabW W := by
  have h1 := laidMetH.filter (fun x => x.1 == "internal/strconv.uint64pow10") h
  rw [hl, MakeChecks.laidMetH_plain _ _ _ (by rfl)] at h1
  have h2 := Go.Lib.tabIs_of_head (g := 0) (t := 109) (e := 95) (n := 20) (by kernel_rfl) (by kernel_rfl) Tryd.underlying109 Tryd.underlying95 (by kernel_rfl) (by kernel_rfl) h1
  obtain ⟨t, fr, h3⟩ := ZnG (g := 0) (by kernel_rfl) h2
  have g1 := laidMetH.filter (fun x => x.1 == "strconv.ErrSyntax") h
  rw [he1, MakeChecks.laidMetH_plain _ _ _ (by rfl)] at g1
  have e1 := ZnH (g := 6) (ti := 64) (by kernel_rfl) (by kernel_rfl) Tryd.underlying64 g1
  have g2 := laidMetH.filter (fun x => x.1 == "strconv.ErrRange") h
  rw [he2, MakeChecks.laidMetH_plain _ _ _ (by rfl)] at g2
  have e2 := ZnH (g := 7) (ti := 64) (by kernel_rfl) (by kernel_rfl) Tryd.underlying64 g2
  intro x hx
  simp only [tabs, List.mem_cons, List.not_mem_nil, or_false] at hx
  rcases hx with rfl | rfl | rfl
  · exact ⟨_, t, fr, h3, rfl⟩
  · exact e1
  · exact e2
end Ev
end Go.Proofs.YtlbbiflodemagaaDoor
/- The law AsmBeside, for every input. -/
namespace Go.Proofs.YtlbbiflodemagaaDoor
open Go.ChangeShapes Go.WideShapes Go.ChangeAt Go.RowKit
namespace Ev
namespace AsmBeside
set_option linter.unusedVariables false
theorem own : ownKnob Tryd.prog.godebug = none := by kernel_rfl
set_option maxRecDepth 100000 in
theorem lifted (os : Os) (started : os.Started) (H : Type) (enc : TypeId × Value → H) :
  ReturnsInHanded {} Tryd.checked os 5 .any (fun w args => (Rows.asmBesideSpec.pre enc Tryd.prog Tryd.f5 [] false w args ∧ laidMetH Tryd.prog Rows.asmBesideRow.laid w) ∧ sizedMet enc Tryd.prog Tryd.f5 (OpenSpec.ofChange Rows.asmBesideSpec) false w args) (Rows.asmBesideSpec.post enc Tryd.prog Tryd.f5 false true false false) := by
 refine ZuJ (laid := Rows.asmBesideRow.laid) (C := Tryd.checked) own started (by kernel_rfl) Tryd.func5 rfl rfl Tryd.underlying4 ?_ (by kernel_rfl) (by kernel_rfl)
  (ChangeSpec.witness_shaped (enc := enc) (C := Tryd.checked) (os := os) (X := fun w _ => laidMetH Tryd.prog Rows.asmBesideRow.laid w) false (World.laidAll Tryd.prog os Rows.asmBesideRow.laid) #[.string ⟨#[]⟩, .int .u16 0, .string ⟨#[]⟩] 8 (World.laidAll_os _ _ _)
   (World.shaped_of_ZipB (by kernel_rfl) (by kernel_rfl)) (by kernel_rfl) (by kernel_rfl) (by kernel_rfl)
   (by rw [MakeChecks.laidMetH_plain _ _ _ (by kernel_rfl)]; exact laidMet_laidAll _ (by kernel_rfl) (by kernel_rfl))) ?_
 ·intro ds hlen
  have hlen : ds.length = 3 := hlen.trans (by kernel_rfl)
  match ds, hlen with
  | [_, _, _], _ => rfl
 intro W base args ds p hval hA hlt hsz hLaid
 have ht : TabW W := tabw_of_laid (by rfl) (by rfl) (by rfl) hLaid
 rw [Tryd.params5] at hA hval
 obtain ⟨v0, vs0, d0, ds0, p0, q0, hargs, rfl, rfl, h0, r0⟩ := trodAll_cons hA
 obtain ⟨v1, vs1, d1, ds1, p1, q1, rfl, rfl, rfl, h1, r1⟩ := trodAll_cons r0
 obtain ⟨v2, vs2, d2, ds2, p2, q2, rfl, rfl, rfl, h2, r2⟩ := trodAll_cons r1
 obtain ⟨rfl, rfl, rfl⟩ := trodAll_nil r2
 obtain rfl : args = #[v0, v1, v2] := by cases args; simp_all
 obtain ⟨b0, rfl⟩ := ZoQ (by kernel_rfl) (Zl3 (by kernel_rfl) (hval 0 9 v0 rfl rfl))
 obtain ⟨S0, rfl, f0⟩ := Zso b0
 obtain ⟨z1, rfl, w1⟩ := Zu7 (k := .u16) (by kernel_rfl) (Zl3 (by kernel_rfl) (hval 1 38 v1 rfl rfl))
 obtain ⟨b2, rfl⟩ := ZoQ (by kernel_rfl) (Zl3 (by kernel_rfl) (hval 2 9 v2 rfl rfl))
 obtain ⟨S2, rfl, f2⟩ := Zso b2
 exact Zvz (ZlC S0 z1 S2 100000 _ (Abe.runs S0 z1 S2 100000 f0 w1 f2)) (ZnO (.atom rfl) (ZnO (.atom rfl) (ZnO (.atom rfl) Zty))) rfl
theorem over : Rows.asmBesideRow.holds Tryd.pinned (OpenSpec.ofChange Rows.asmBesideSpec) :=
 OpenClaim.holds_of_wide 5 Tryd.f5 rfl rfl rfl rfl rfl rfl rfl ⟨rfl, rfl, rfl, rfl, rfl⟩ rfl rfl rfl rfl rfl (by kernel_rfl) Tryd.func5 (by kernel_rfl)
  (of_decide_eq_true (by kernel_rfl)) (by unfold Func.isWrapper; first | (rw [if_pos (by decide +kernel)]; kernel_rfl) | (rw [if_neg (by decide +kernel)]; exact ⟨rfl, rfl⟩))
  (fun os started H enc _ => lifted os started H enc)
theorem proved : Rows.AsmBesideCardSaid :=
 Claim7.holds_tied_plain_at .later [] [.data, .data, .data, .data, .sentinel, .sentinel, .pinned] true Rows.asmBesideCard.stood.harness true over (fun _ h => by cases h) (by kernel_rfl) (fun _ h => by cases h) asmBeside_row_tie rfl ⟨rfl, rfl⟩ (by kernel_rfl) rfl
  (fun f fn hf hfn => by
   obtain rfl : f = 5 := Option.some.inj ((show Tryd.prog.funcNamed "gantlet/gantletlaw13.AsmBeside" = some 5 by kernel_rfl).symm.trans hf) |>.symm
   obtain rfl : fn = Tryd.f5 := (Option.some.inj (Tryd.func5.symm.trans hfn)).symm
   exact ⟨by kernel_rfl, fun j t ht => by
    rw [Tryd.params5] at ht
    have hm : t ∈ [9, 38, 9] := by simpa using Array.mem_of_getElem? ht
    have hall : ([9, 38, 9].all fun u => !Tryd.prog.wantsStandIn u) = true := by kernel_rfl
    exact (show Tryd.prog.wantsStandIn t = false by simpa using List.all_eq_true.1 hall t hm)⟩)
  (by kernel_rfl)
#print axioms proved
end AsmBeside
end Ev
end Go.Proofs.YtlbbiflodemagaaDoor
