/- Part 11. -/
import Derived.Test.YthfohmhipifiaaaGreatZah
import Derived.Test.YthfohmhipifiaaaGreatZai
import Derived.Test.YthfohmhipifiaaaGreatZaj
import Derived.Test.YthfohmhipifiaaaGreatZae
set_option linter.unusedSimpArgs false
set_option linter.unusedVariables false
set_option linter.unusedVariables false
set_option maxRecDepth 100000
/- Programs of FifoOrder, checked one after another (3). -/
namespace Go.Proofs.YthfohmhipifiaaaGreat
open Go.RowKit
namespace Ev
theorem Z4P : Zc6 okS 2 [.pass, .put] = true := by kernel_rfl
theorem Z4Q : Zc6 okS 2 [.pass, .take] = true := by kernel_rfl
theorem Z4R : Zc6 okS 2 [.pass, .try'] = true := by kernel_rfl
theorem Z4S : Zc6 okS 2 [.pass, .pass] = true := by kernel_rfl
theorem Z2R : ∀ a b : Kd, Zc6 okS 2 [a, b] = true
 | .put, .put => Z4D
 | .put, .take => Z4E
 | .put, .try' => Z4F
 | .put, .pass => Z4G
 | .take, .put => Z4H
 | .take, .take => Z4I
 | .take, .try' => Z4J
 | .take, .pass => Z4K
 | .try', .put => Z4L
 | .try', .take => Z4M
 | .try', .try' => Z4N
 | .try', .pass => Z4O
 | .pass, .put => Z4P
 | .pass, .take => Z4Q
 | .pass, .try' => Z4R
 | .pass, .pass => Z4S
theorem allS1 : ∀ a : Kd, okS [a] = true := by intro a;cases a <;> kernel_rfl
theorem okAll : ∀ l : List Kd, l.length ≤ 4 → okS l = true
 | [], _ => by kernel_rfl
 | [a], _ => allS1 a
 | [a, b], _ => by have h := Z2R a b;simp only [Zc6, Bool.and_eq_true] at h;exact h.1.1.1.1
 | [c, a, b], _ => by
  have h := Z2R a b;simp only [Zc6, Bool.and_eq_true] at h;cases c
  ·exact h.1.1.1.2.1.1.1.1
  ·exact h.1.1.2.1.1.1.1
  ·exact h.1.2.1.1.1.1
  ·exact h.2.1.1.1.1
 | [d, c, a, b], _ => by
  have h := Z2R a b;simp only [Zc6, Bool.and_eq_true] at h;cases c
  ·have h := h.1.1.1.2
   cases d
   ·exact h.1.1.1.2
   ·exact h.1.1.2
   ·exact h.1.2
   ·exact h.2
  ·have h := h.1.1.2
   cases d
   ·exact h.1.1.1.2
   ·exact h.1.1.2
   ·exact h.1.2
   ·exact h.2
  ·have h := h.1.2
   cases d
   ·exact h.1.1.1.2
   ·exact h.1.1.2
   ·exact h.1.2
   ·exact h.2
  ·have h := h.2
   cases d
   ·exact h.1.1.1.2
   ·exact h.1.1.2
   ·exact h.1.2
   ·exact h.2
 | _ :: _ :: _ :: _ :: _ :: _, h => by simp at h
def Vd (n : Int) : Prop := 1048576 ≤ n ∧ n / 1048576 ≤ 1073741824 ∧ 1 ≤ n % 1048576
abbrev ob (O : List RJ) (i : Nat) : RJ := O.getD i RJ.z
structure Mo (O : List RJ) : Prop where
 len : O.length ≤ 1000
 k : ∀ i, i < O.length → (ob O i).a0 = 2
 u : ∀ i j, i < O.length → j < O.length → (ob O i).a1 = (ob O j).a1 → i = j
 v : ∀ i, i < O.length → Vd (ob O i).a1
theorem Vd.ne {n : Int} (h : Vd n) : ¬ n = 0 := by unfold Vd at h; omega
theorem ZnC {n : Int} (h : Vd n) : Zb7 2 n 100000 = some (.r0 true) := by obtain ⟨h1, h2, h3⟩ := h;unfold Zb7;rw [if_neg (by decide), if_pos (by decide), if_neg (by omega), if_pos h1, if_pos (by omega), if_pos h2, if_pos h3]
theorem Z3K : Zb7 2 0 100000 = some (.r0 true) := rfl
theorem Z6x (n : Int) : Zb7 1 n 100000 = some (.r0 true) := rfl
section
variable {O : List RJ} (m : Mo O) {i : Nat} (hi : i < O.length)
include m hi
theorem Zh1 (h5 : ¬ (ob O i).a5 = 3) : Zca O 2 (ob O i).a1 100000 = some (.r0 (i : Int) 0) := by
 have go : ∀ d j : Nat, j + d = i → ZW (ZfS O 2 (ob O i).a1 100000) (d + 1) (.h1m0 j) = some (.r0 (i : Int) 0) := by
  intro d
  induction d with
  | zero =>
   intro j hj;obtain rfl : j = i := by omega
   refine ZE ?_;refine Eq.trans (show _ = Zcw O 2 (ob O j).a1 100000 j from rfl) ?_;unfold Zcw;rw [if_pos (by omega), if_pos ⟨m.k j hi, rfl⟩, if_pos h5]
  | succ d ih =>
   intro j hj;have hl := m.len;refine (Zo ?_).trans (ih (j + 1) (by omega));refine Eq.trans (show _ = Zcw O 2 (ob O i).a1 100000 j from rfl) ?_;unfold Zcw;rw [if_pos (by omega), if_neg (fun c => by have := m.u j i (by omega) hi c.2; omega), if_pos (by omega)]
 have hl := m.len;unfold Zca;refine (ZaB (x := (.h1m0 0 : Zbe)) ?_).trans (Zej (n := i + 1) (by omega) (go i 0 (by omega)));unfold Zew;rw [if_neg (by decide)];refine Zs (ZnC (m.v i hi)) ?_;exact Z8 (fun c => c rfl) (Z8 (m.v i hi).ne rfl)
theorem Z5G : ZdW O 2 (ob O i).a1 100000 = some (.r0 (ob O i).a0 (ob O i).a1 (ob O i).a2 (ob O i).a3 (ob O i).a4 (ob O i).a5 (ob O i).a6 (ob O i).a7) := by
 have go : ∀ d j : Nat, j + d = i → ZW (ZeZ O 2 (ob O i).a1 100000) (d + 1) (.h1m0 j) = some (.r0 (ob O i).a0 (ob O i).a1 (ob O i).a2 (ob O i).a3 (ob O i).a4 (ob O i).a5 (ob O i).a6 (ob O i).a7) := by
  intro d
  induction d with
  | zero =>
   intro j hj;obtain rfl : j = i := by omega
   refine ZE ?_;refine Eq.trans (show _ = ZaK O 2 (ob O j).a1 100000 j from rfl) ?_;unfold ZaK;rw [if_pos (by omega), if_pos ⟨m.k j hi, rfl⟩]
  | succ d ih =>
   intro j hj;have hl := m.len;refine (Zo ?_).trans (ih (j + 1) (by omega));refine Eq.trans (show _ = ZaK O 2 (ob O i).a1 100000 j from rfl) ?_;unfold ZaK;rw [if_pos (by omega), if_neg (fun c => by have := m.u j i (by omega) hi c.2; omega), if_pos (by omega)]
 have hl := m.len;unfold ZdW;exact (ZaB (x := (.h1m0 0 : Zbz)) rfl).trans (Zej (n := i + 1) (by omega) (go i 0 (by omega)))
theorem ZtW (h5 : ¬ (ob O i).a5 = 3) {f : Nat} (hf : f < (ob O i).a7.length) : Zda O 2 (ob O i).a1 (f : Int) 100000 = some (.r0 ((ob O i).a7.getD f RG.z).a0 ((ob O i).a7.getD f RG.z).a1) := by unfold Zda;refine Zs (Zh1 m hi h5) ?_;exact Z8 (fun c => c rfl) (Z8 (by omega) (Zq (by omega) (Zq (by omega) (Z8 (by show ¬ (((ob O ((i : Int)).toNat).a7.length : Nat) : Int) ≤ (f : Int); rw [Int.toNat_natCast]; omega) rfl))))
theorem Zka (h5 : (ob O i).a5 = 2) (t : Int) : ZaA O 2 (ob O i).a1 t 100000 = some (.r0 false) := by unfold ZaA;refine Zs (Zh1 m hi (by rw [h5]; decide)) ?_;exact Zq rfl (Zq (by omega) (Zq (by omega) (Z8 (by rw [Int.toNat_natCast]; show ¬ (ob O i).a5 = 1; rw [h5]; decide) rfl)))
theorem ZzX {t : Int} (h5 : (ob O i).a5 = 1) (h6 : (ob O i).a6 = t) : ZaA O 2 (ob O i).a1 t 100000 = some (.r0 true) := by unfold ZaA;refine Zs (Zh1 m hi (by rw [h5]; decide)) ?_;exact Zq rfl (Zq (by omega) (Zq (by omega) (Zq (by rw [Int.toNat_natCast]; exact h5) (Zq (by rw [Int.toNat_natCast]; exact h6) rfl))))
theorem ZzY (h5 : ¬ (ob O i).a5 = 3) (s : Int) : Zdw O 2 (ob O i).a1 s 100000 = some (.r0 (O.set i { ob O i with a5 := s })) := by
 have hl := m.len;have p : ∀ a b c d e f g (L : List RG), Zed O (i : Int) a b c d e f g L 100000 = some .r0 := by intro a b c d e f g L;unfold Zed;rw [if_neg (by omega), if_pos (by omega), if_pos (by omega), if_pos (by omega)]
 unfold Zdw;refine Zs (Zh1 m hi h5) (Zq (by omega) (Zq (by omega) (Zs (p _ _ _ _ _ _ _ _) ?_)));rfl
theorem Z5H (h5 : ¬ (ob O i).a5 = 3) (hr : ¬ (ob O i).a1 = 1048577) (t : Int) : ZeK O t 2 (ob O i).a1 true 100000 = some (.r0 (O.set i { ob O i with a5 := 3 })) := by unfold ZeK;refine Zs (Zh1 m hi h5) (Z8 (fun c => c rfl) (Z8 (fun c => hr c.2) (Z8 (fun c => c rfl) (Zs (ZzY m hi h5 3) ?_))));rfl
end
theorem Z5I (O : List RJ) (n t : Int) : ZaA O 1 n t 100000 = some (.r0 false) := by
 unfold ZaA Zca;refine Zs (ZmN (r := .r0 0 10) ?_) ?_
 ·unfold Zew; rw [if_pos (by decide)]
 ·rfl
theorem Z5J (O : List RJ) (t : Int) : ZaA O 2 0 t 100000 = some (.r0 false) := by
 unfold ZaA Zca;refine Zs (ZmN (r := .r0 0 11) ?_) ?_
 ·unfold Zew
  rw [if_neg (by decide)];refine Zs Z3K ?_;exact Z8 (fun c => c rfl) (Zq rfl rfl)
 ·rfl
def Ld (O : List RJ) (v : RG) : Prop := v.a0 = 1 ∨ v = ⟨2, 0⟩ ∨ ∃ j, j < O.length ∧ v = ⟨2, (ob O j).a1⟩ ∧ (ob O j).a5 = 2
theorem Ld.own {O : List RJ} (m : Mo O) {v : RG} (h : Ld O v) (t : Int) : ZaA O v.a0 v.a1 t 100000 = some (.r0 false) := by
 rcases h with h | rfl | ⟨j, hj, rfl, h5⟩
 ·rw [h]; exact Z5I O _ t
 ·exact Z5J O t
 ·exact Zka m hj h5 t
theorem Ld.is {O : List RJ} (m : Mo O) {v : RG} (h : Ld O v) : Zb7 v.a0 v.a1 100000 = some (.r0 true) := by
 rcases h with h | rfl | ⟨j, hj, rfl, h5⟩
 ·rw [h]; exact Z6x _
 ·exact Z3K
 ·exact ZnC (m.v j hj)
def Zs5 (a4 : Int) (f : Nat) (v : RG) : Prop := (v.a0 = 2 → Int.tmod (a4 / (2 ^ f : Int)) 2 = 1) ∧ (¬ v.a0 = 2 → ¬ Int.tmod (a4 / (2 ^ f : Int)) 2 = 1)
section
variable {O : List RJ} (m : Mo O) {i : Nat} (hi : i < O.length) (h5 : ¬ (ob O i).a5 = 3) {f : Nat} (hf : f < (ob O i).a7.length) (h63 : f ≤ 63) (hl : (ob O i).a7.length ≤ 100000) {v : RG} (hv : Zs5 (ob O i).a4 f v) (t : Int)
include m hi h5 hf h63 hl hv
theorem Z1K (a b c d e g h : Int) (L : List RG) : Zb2 O (i : Int) a b c d e g h L 100000 = some .r0 := by have hl := m.len;unfold Zb2;rw [if_neg (by omega), if_pos (by omega), if_pos (by omega), if_pos (by omega)]
theorem ZvY {b : Bool} (ho : ZaA O 2 (ob O i).a1 t 100000 = some (.r0 b)) (hL : Ld O v) : ZeJ O t 2 (ob O i).a1 (f : Int) v.a0 v.a1 100000 = some (.r0 (O.set i { ob O i with a7 := (ob O i).a7.set f v })) := by
 have e : ZeR O t 2 (ob O i).a1 (f : Int) v.a0 v.a1 100000 = some (.inl (.h1m0 (O.set i { ob O i with a7 := (ob O i).a7.set f v }))) := by
  unfold ZeR;rw [if_pos (by omega), if_pos (by omega)];refine Zs (ZtW m hi h5 hf) (Zs (Zh1 m hi h5) (Zq (by omega) (Zq (by omega) (Zs (hL.is m) (Zq rfl ?_)))));have p := Z1K m hi h5 hf h63 hl hv;by_cases c : v.a0 = 2
  ·refine Zq c (Zq (by rw [Int.toNat_natCast, Int.toNat_natCast]; exact hv.1 c) (Zs ho ?_))
   cases b with
   | true => exact Zq rfl (Z8 (by rw [Int.toNat_natCast]; show ¬ (ob O i).a7.length = 0; omega) (Zq (by rw [Int.toNat_natCast]; exact hl) (Zq (by rw [Int.toNat_natCast, Int.toNat_natCast]; show f < 0 + (ob O i).a7.length; omega) (Zs (p _ _ _ _ _ _ _ _) rfl))))
   | false => exact Z8 (fun c => by cases c) (Zs (hL.own m t) (Z8 (fun c => by cases c) (Z8 (by rw [Int.toNat_natCast]; show ¬ (ob O i).a7.length = 0; omega) (Zq (by rw [Int.toNat_natCast]; exact hl) (Zq (by rw [Int.toNat_natCast, Int.toNat_natCast]; show f < 0 + (ob O i).a7.length; omega) (Zs (p _ _ _ _ _ _ _ _) rfl))))))
  ·refine Z8 c (Z8 (by rw [Int.toNat_natCast, Int.toNat_natCast]; exact hv.2 c) (Zs ho ?_))
   cases b with
   | true => exact Zq rfl (Z8 (by rw [Int.toNat_natCast]; show ¬ (ob O i).a7.length = 0; omega) (Zq (by rw [Int.toNat_natCast]; exact hl) (Zq (by rw [Int.toNat_natCast, Int.toNat_natCast]; show f < 0 + (ob O i).a7.length; omega) (Zs (p _ _ _ _ _ _ _ _) rfl))))
   | false => exact Z8 (fun c => by cases c) (Zs (hL.own m t) (Z8 (fun c => by cases c) (Z8 (by rw [Int.toNat_natCast]; show ¬ (ob O i).a7.length = 0; omega) (Zq (by rw [Int.toNat_natCast]; exact hl) (Zq (by rw [Int.toNat_natCast, Int.toNat_natCast]; show f < 0 + (ob O i).a7.length; omega) (Zs (p _ _ _ _ _ _ _ _) rfl))))))
 unfold ZeJ;exact (ZaB e).trans (ZE (n := 99999) rfl)
end
theorem Z3L {O : List RJ} (m : Mo O) {k n : Int} (h : ∀ j, j < O.length → ¬ ((ob O j).a0 = k ∧ (ob O j).a1 = n)) : ZdW O k n 100000 = some .r1 := by
 have go : ∀ d j : Nat, j + d = O.length → ZW (ZeZ O k n 100000) (d + 1) (.h1m0 j) = some .r1 := by
  intro d
  induction d with
  | zero =>
   intro j hj;refine ZE ?_;refine Eq.trans (show _ = ZaK O k n 100000 j from rfl) ?_;unfold ZaK;rw [if_neg (by omega)]
  | succ d ih =>
   intro j hj;have hl := m.len;refine (Zo ?_).trans (ih (j + 1) (by omega));refine Eq.trans (show _ = ZaK O k n 100000 j from rfl) ?_;unfold ZaK;rw [if_pos (by omega), if_neg (h j (by omega)), if_pos (by omega)]
 have hl := m.len;unfold ZdW;exact (ZaB (x := (.h1m0 0 : Zbz)) rfl).trans (Zej (n := O.length + 1) (by omega) (go O.length 0 (by omega)))
def Lz (v : RG) : Prop := v.a0 = 1 ∨ v = ⟨2, 0⟩
theorem Lz.walk {O : List RJ} (m : Mo O) {v : RG} (h : Lz v) (x : RG) : Zfb O [x] v.a0 v.a1 100000 = some .r0 := by
 have hn : ∀ k n, (∀ j, j < O.length → ¬ ((ob O j).a0 = k ∧ (ob O j).a1 = n)) → Zfb O [x] k n 100000 = some .r0 := by
  intro k n hh;have f := Z3L m hh;have g : ZdN O k n 100000 = some (.r0 false) := by unfold ZdN;refine Zs f ?_;rfl
  show ZaW 100000 (99999 + 1) O [x] k n = _;refine Eq.trans (show _ = goM (Zf0 (ZaW 100000 99999) O [x] k n 100000) 100000 (Zfa (ZaW 100000 99999) O [x] k n 100000) from rfl) (ZmN ?_);unfold Zfa;exact Zs f (Zs g (Zq (fun c => by cases c) rfl))
 rcases h with h | rfl
 ·exact hn _ _ fun j hj c => by have := m.k j hj; omega
 ·exact hn _ _ fun j hj c => (m.v j hj).ne c.2
section
variable {O : List RJ} (m : Mo O) {i : Nat} (hi : i < O.length) (h5 : (ob O i).a5 = 1) {x y : RG} (h7 : (ob O i).a7 = [x, y]) (hx : Lz x) (hy : Lz y)
include m hi h5 h7 hx hy
theorem Z1w : Zcl O 2 (ob O i).a1 100000 = some (.r1 [⟨2, (ob O i).a1⟩]) := by
 have f := Z5G m hi;have g : ZdN O 2 (ob O i).a1 100000 = some (.r0 true) := by unfold ZdN;exact Zs f (Zq rfl (Zq (m.v i hi).ne rfl))
 have w : ZeI O 2 (ob O i).a1 100000 = some (.r1 [⟨2, (ob O i).a1⟩]) := by
  unfold ZeI;refine (ZaB (x := (.h1m0 [⟨2, (ob O i).a1⟩] 0 (ob O i).a0 (ob O i).a1 (ob O i).a2 (ob O i).a3 (ob O i).a4 (ob O i).a5 (ob O i).a6 (ob O i).a7 : ZaP)) ?_).trans ?_
  ·unfold ZhW
   exact Zs f (Zs g (Z8 (fun c => c rfl) (Zs (show Zjr 2 (ob O i).a1 100000 = some .r0 from rfl) (Z8 (fun c => c h5) rfl))))
  ·rw [h7]
   refine (Zo (n := 99999) (y := (.h1m0 [⟨2, (ob O i).a1⟩] 1 (ob O i).a0 (ob O i).a1 (ob O i).a2 (ob O i).a3 (ob O i).a4 (ob O i).a5 (ob O i).a6 [x, y] : ZaP)) ?_).trans ((Zo (n := 99998) (y := (.h1m0 [⟨2, (ob O i).a1⟩] 2 (ob O i).a0 (ob O i).a1 (ob O i).a2 (ob O i).a3 (ob O i).a4 (ob O i).a5 (ob O i).a6 [x, y] : ZaP)) ?_).trans (ZE (n := 99997) rfl))
   ·refine Eq.trans (show _ = ZcL O 2 (ob O i).a1 100000 [⟨2, (ob O i).a1⟩] 0 (ob O i).a0 (ob O i).a1 (ob O i).a2 (ob O i).a3 (ob O i).a4 (ob O i).a5 (ob O i).a6 [x, y] from rfl) ?_
    unfold ZcL;rw [if_pos (by show (0 : Int) < 2; decide)];exact Zs (hx.walk m _) (Zq (by decide) rfl)
   ·refine Eq.trans (show _ = ZcL O 2 (ob O i).a1 100000 [⟨2, (ob O i).a1⟩] 1 (ob O i).a0 (ob O i).a1 (ob O i).a2 (ob O i).a3 (ob O i).a4 (ob O i).a5 (ob O i).a6 [x, y] from rfl) ?_
    unfold ZcL;rw [if_pos (by show (1 : Int) < 2; decide)];exact Zs (hy.walk m _) (Zq (by decide) rfl)
 unfold Zcl;exact Zs w rfl
end
theorem Mo.set {O : List RJ} (m : Mo O) {i : Nat} {b : RJ} (h0 : b.a0 = (ob O i).a0) (h1 : b.a1 = (ob O i).a1) : Mo (O.set i b) := by
 have e : ∀ j, j < O.length → (ob (O.set i b) j).a0 = (ob O j).a0 ∧ (ob (O.set i b) j).a1 = (ob O j).a1 := by
  intro j hj;by_cases c : i = j
  ·subst c; rw [ob, Zbv hj]; exact ⟨h0, h1⟩
  ·rw [ob, ZN c]; exact ⟨rfl, rfl⟩
 refine ⟨by rw [List.length_set]; exact m.len, fun j hj => ?_, fun j k hj hk h => ?_, fun j hj => ?_⟩
 ·rw [List.length_set] at hj; rw [(e j hj).1]; exact m.k j hj
 ·rw [List.length_set] at hj hk; rw [(e j hj).2, (e k hk).2] at h; exact m.u j k hj hk h
 ·rw [List.length_set] at hj; rw [(e j hj).2]; exact m.v j hj
theorem ZvZ {O : List RJ} (m : Mo O) {i j : Nat} (hi : i < O.length) (hj : j < O.length) (hij : i ≠ j) (h5 : ¬ (ob O i).a5 = 3) {f : Nat} (hf : f < (ob O i).a7.length) (h63 : f ≤ 63) (hl : (ob O i).a7.length ≤ 100000) (hv : Zs5 (ob O i).a4 f ⟨2, (ob O j).a1⟩) (t : Int)
  (ho : ZaA O 2 (ob O i).a1 t 100000 = some (.r0 false)) (j5 : (ob O j).a5 = 1) (j6 : (ob O j).a6 = t) {x y : RG} (j7 : (ob O j).a7 = [x, y]) (hx : Lz x) (hy : Lz y) : ZeJ O t 2 (ob O i).a1 (f : Int) 2 (ob O j).a1 100000 = some (.r0 ((O.set i { ob O i with a7 := (ob O i).a7.set f ⟨2, (ob O j).a1⟩ }).set j { ob O j with a5 := 2 })) := by
 have e : ZeR O t 2 (ob O i).a1 (f : Int) 2 (ob O j).a1 100000 = some (.inl (.h1m1 (O.set i { ob O i with a7 := (ob O i).a7.set f ⟨2, (ob O j).a1⟩ }) [⟨2, (ob O j).a1⟩] 0)) := by unfold ZeR;rw [if_pos (by omega), if_pos (by omega)];refine Zs (ZtW m hi h5 hf) (Zs (Zh1 m hi h5) (Zq (by omega) (Zq (by omega) (Zs (ZnC (m.v j hj)) (Zq rfl ?_)))));have p := Z1K m hi h5 hf h63 hl hv;refine Zq rfl (Zq (by rw [Int.toNat_natCast, Int.toNat_natCast]; exact hv.1 rfl) (Zs ho (Z8 (fun c => by cases c) (Zs (ZzX m hj j5 j6) (Zq rfl (Zs (Z1w m hj j5 j7 hx hy) ?_))))));exact Z8 (by rw [Int.toNat_natCast]; show ¬ (ob O i).a7.length = 0; omega) (Zq (by rw [Int.toNat_natCast]; exact hl) (Zq (by rw [Int.toNat_natCast, Int.toNat_natCast]; show f < 0 + (ob O i).a7.length; omega) (Zs (p _ _ _ _ _ _ _ _) rfl)))
 have m' : Mo (O.set i { ob O i with a7 := (ob O i).a7.set f ⟨2, (ob O j).a1⟩ }) := m.set rfl rfl;have oj : ob (O.set i { ob O i with a7 := (ob O i).a7.set f ⟨2, (ob O j).a1⟩ }) j = ob O j := ZN hij;have s := ZzY m' (i := j) (by rw [List.length_set]; exact hj) (by rw [oj, j5]; decide) 2;rw [oj] at s;unfold ZeJ;refine (ZaB e).trans ((Zo (n := 99999) (y := (.h1m1 ((O.set i { ob O i with a7 := (ob O i).a7.set f ⟨2, (ob O j).a1⟩ }).set j { ob O j with a5 := 2 }) [⟨2, (ob O j).a1⟩] 1 : Zam)) ?_).trans (ZE (n := 99998) rfl));refine Eq.trans (show _ = Zfd O t 2 (ob O i).a1 (f : Int) 2 (ob O j).a1 100000 (O.set i { ob O i with a7 := (ob O i).a7.set f ⟨2, (ob O j).a1⟩ }) [⟨2, (ob O j).a1⟩] 0 from rfl) ?_;unfold Zfd;rw [if_pos (by show (0 : Int) < 1; decide)];exact Zs s (Zq (by decide) rfl)
end Ev
end Go.Proofs.YthfohmhipifiaaaGreat
namespace Go.Proofs.YthfohmhipifiaaaGreat
open Go.IntKind (i64)
open Go.RowKit
namespace Ev
theorem isK (r n : Int) (hr : r = 1 ∨ r = 2 ∨ r = 7) (h0 : 0 ≤ n) (h1 : n ≤ 255) : ZaN 1 r n 0 100000 = some (.r0 true) := by
 have e : ZaG 2 n 0 100000 = some (.r0 true) := by unfold ZaG;rw [if_neg (by decide), if_pos rfl, if_pos (by omega), if_pos (by omega)]
 rcases hr with rfl | rfl | rfl <;> (unfold ZaN; show ((ZaG 2 n 0 100000).bind _) = _; rw [e]; rfl)
structure Sx where
 O : List RJ
 R : List RG
 p : Nat
 u : Int
 tr : Int
section
variable (L : List RI) (t : Int) (O0 : List RJ) (R0 : List RG) (p0 : Int) (E : List RG) (W : List RG) (mt : List Int)
abbrev mk1 (room : Int) (n : Nat) (s : Sx) : ref20_blockX := .h1m1 room mt n s.O s.R (s.p : Int) s.u s.tr
def Go1 (k : Nat) (s s' : Sx) : Prop := ∀ (room : Int) (n f : Nat), 2000 * (k : Int) ≤ room → room ≤ 2097152000 → n + k ≤ 1000 → ∃ room', room - 2000 * (k : Int) ≤ room' ∧ room' ≤ room ∧ ZW (ZdG L t O0 R0 p0 E 0 0 W 2097152000 100000) (f + k) (mk1 mt room n s) = ZW (ZdG L t O0 R0 p0 E 0 0 W 2097152000 100000) f (mk1 mt room' (n + k) s')
def Z4T (s : Sx) (r : Int → ZH) : Prop := ∀ (room : Int) (n f : Nat), 2000 ≤ room → room ≤ 2097152000 → n ≤ 1000 → ∃ room', ZW (ZdG L t O0 R0 p0 E 0 0 W 2097152000 100000) (f + 1) (mk1 mt room n s) = some (r room')
end
section
variable {L : List RI} {t : Int} {O0 : List RJ} {R0 : List RG} {p0 : Int} {E : List RG} {W : List RG} {mt : List Int}
theorem Go1.trans {k j : Nat} {a b c : Sx} (h : Go1 L t O0 R0 p0 E W mt k a b) (g : Go1 L t O0 R0 p0 E W mt j b c) : Go1 L t O0 R0 p0 E W mt (k + j) a c := by intro room n f h1 h2 h3;obtain ⟨r1, a1, a2, e1⟩ := h room n (f + j) (by omega) h2 (by omega);obtain ⟨r2, b1, b2, e2⟩ := g r1 (n + k) f (by omega) (by omega) (by omega);refine ⟨r2, by omega, by omega, ?_⟩;rw [show f + (k + j) = f + j + k by omega, e1, e2, show n + (k + j) = n + k + j by omega]
theorem Go1.one {a b : Sx} (h : ∀ (room : Int) (n : Nat), 2000 ≤ room → room ≤ 2097152000 → n + 1 ≤ 1000 → ∃ room', room - 2000 ≤ room' ∧ room' ≤ room ∧ Za7 L t O0 R0 p0 E 0 0 W 2097152000 100000 room mt n a.O a.R (a.p : Int) a.u a.tr = some (.inl (mk1 mt room' (n + 1) b))) : Go1 L t O0 R0 p0 E W mt 1 a b := by intro room n f h1 h2 h3;obtain ⟨r1, a1, a2, e⟩ := h room n (by omega) h2 h3;exact ⟨r1, by omega, a2, Zo e⟩
theorem Z5n {r : Int} (h1 : 2000 ≤ r) (h2 : r ≤ 2097152000) : i64.wrap (r - 2000) = r - 2000 := w64 (by omega) (by omega)
theorem w1 {r : Int} (h1 : 2000 ≤ r) (h2 : r ≤ 2097152000) : i64.wrap (r - 1) = r - 1 := w64 (by omega) (by omega)
section
variable {O O' : List RJ} {R R' : List RG} {p : Nat} {u tr : Int} (hp : p < L.length) (h5 : p < 500)
include hp h5
theorem Ziu {i : RI} (e : L.getD p RI.z = i) (hi : i.a0 = 13 ∨ i.a0 = 14 ∨ i.a0 = 12) (hm : Z6 O R p E u tr t i.a0 i.a1 i.a2 i.a3 W true 100000 = some (.r1 O' R')) : Go1 L t O0 R0 p0 E W mt 1 ⟨O, R, p, u, tr⟩ ⟨O', R', p + 1, u, tr⟩ := by
 refine Go1.one fun room n h1 h2 h3 => ⟨room - 2000, by omega, by omega, ?_⟩
 have wp : i64.wrap ((p : Int) + 1) = ((p + 1 : Nat) : Int) := by rw [w64 (by omega) (by omega)]; omega
 unfold Za7;rw [if_pos (by omega), if_pos (by show (0 : Int) ≤ (p : Int); omega), if_pos (by show ((p : Int)).toNat < L.length; omega)];show (if (L.getD ((p : Int)).toNat RI.z).a0 = 11 then _ else _) = _;rw [Int.toNat_natCast, e, Z5n h1 h2];have nn : ¬ room - 2000 < 0 := by omega
 rcases hi with c | c | c
 ·rw [if_neg (by omega), if_pos c, if_neg nn]
  refine Zs hm ?_;show some (Sum.inl (ref20_blockX.h1m1 (room - 2000) mt (n + 1) O' R' (i64.wrap ((p : Int) + 1)) u tr)) = _;rw [wp]
 ·rw [if_neg (by omega), if_neg (by omega), if_pos c, if_neg nn]
  refine Zs hm ?_;show some (Sum.inl (ref20_blockX.h1m1 (room - 2000) mt (n + 1) O' R' (i64.wrap ((p : Int) + 1)) u tr)) = _;rw [wp]
 ·rw [if_neg (by omega), if_neg (by omega), if_neg (by omega), if_pos c, if_neg nn]
  refine Zs hm ?_;show some (Sum.inl (ref20_blockX.h1m1 (room - 2000) mt (n + 1) O' R' (i64.wrap ((p : Int) + 1)) u tr)) = _;rw [wp]
theorem Z6y {a tr' : Int} (e : L.getD p RI.z = ⟨11, a, 2, 1⟩) (hu : u = 0) (hm : Z6 O R p E u tr t 11 a 2 1 W true 100000 = some (.r0 O' R' tr')) : Go1 L t O0 R0 p0 E W mt 1 ⟨O, R, p, u, tr⟩ ⟨O', R', p + 1, 1, tr'⟩ := by
 subst hu;refine Go1.one fun room n h1 h2 h3 => ⟨room - 2000, by omega, by omega, ?_⟩
 have wp : i64.wrap ((p : Int) + 1) = ((p + 1 : Nat) : Int) := by rw [w64 (by omega) (by omega)]; omega
 unfold Za7;rw [if_pos (by omega), if_pos (by show (0 : Int) ≤ (p : Int); omega), if_pos (by show ((p : Int)).toNat < L.length; omega)];show (if (L.getD ((p : Int)).toNat RI.z).a0 = 11 then _ else _) = _;rw [Int.toNat_natCast, e, Z5n h1 h2, if_pos rfl, if_neg (by omega)];refine Zs hm ?_;show some (Sum.inl (ref20_blockX.h1m1 (room - 2000) mt (n + 1) O' R' (i64.wrap ((p : Int) + 1)) (i64.wrap (0 + 1)) tr')) = _;rw [wp];rfl
theorem ZdA {i : RI} (e : L.getD p RI.z = i) (hi : 1 ≤ i.a0 ∧ i.a0 ≤ 10) {q : Nat} (hm : Zcd O R p E u tr i.a0 i.a1 i.a2 i.a3 100000 = some (.r0 R' (q : Int))) : Go1 L t O0 R0 p0 E W mt 1 ⟨O, R, p, u, tr⟩ ⟨O, R', q, u, tr⟩ := by
 refine Go1.one fun room n h1 h2 h3 => ⟨room - 1, by omega, by omega, ?_⟩
 unfold Za7;rw [if_pos (by omega), if_pos (by show (0 : Int) ≤ (p : Int); omega), if_pos (by show ((p : Int)).toNat < L.length; omega)];show (if (L.getD ((p : Int)).toNat RI.z).a0 = 11 then _ else _) = _;rw [Int.toNat_natCast, e, w1 h1 h2, if_neg (by omega), if_neg (by omega), if_neg (by omega), if_neg (by omega), if_neg (by omega), if_neg (by omega), if_neg (by omega), if_neg (by omega), if_neg (by omega), if_neg (by omega)];refine Zs hm ?_;rfl
theorem Z6z {i : RI} (e : L.getD p RI.z = i) (hi : i.a0 = 17) : Z4T L t O0 R0 p0 E W mt ⟨O, R, p, u, tr⟩ (fun w => .r0 O R ((p + 1 : Nat) : Int) u tr true w) := by
 intro room n f h1 h2 h3;refine ⟨room - 1, ZE ?_⟩;have wp : i64.wrap ((p : Int) + 1) = ((p + 1 : Nat) : Int) := by rw [w64 (by omega) (by omega)]; omega
 refine Eq.trans (show _ = Za7 L t O0 R0 p0 E 0 0 W 2097152000 100000 room mt n O R (p : Int) u tr from rfl) ?_;unfold Za7;rw [if_pos (by omega), if_pos (by show (0 : Int) ≤ (p : Int); omega), if_pos (by show ((p : Int)).toNat < L.length; omega)];rw [Int.toNat_natCast, e, w1 h1 h2, if_neg (by omega), if_neg (by omega), if_neg (by omega), if_neg (by omega), if_neg (by omega), if_neg (by omega), if_neg (by omega), if_neg (by omega), if_pos hi, wp]
theorem Z4U {i : RI} (e : L.getD p RI.z = i) (hi : i.a0 = 18) {b : Nat} (hb : p0 = (b : Int)) (hbm : b < mt.length) (hm : 0 ≤ mt.getD b 0 ∧ mt.getD b 0 < (L.length : Int)) (h16 : ∀ i, i < L.length → ¬ (L.getD i RI.z).a0 = 16) : Z4T L t O0 R0 p0 E W mt ⟨O, R, p, u, tr⟩ (fun w => .r0 O R (p : Int) u tr false w) := by
 subst hb;intro room n f h1 h2 h3;refine ⟨room - 1, ZE ?_⟩;refine Eq.trans (show _ = Za7 L t O0 R0 (b : Int) E 0 0 W 2097152000 100000 room mt n O R (p : Int) u tr from rfl) ?_;have rt : ∀ y : R_iiDiiiiiiiiiiiiiiiiiAii, y.a0 = (b : Int) → y.a1 = 0 → Zex L mt [y] 100000 = some .r0 := by
  intro y y0 y1;unfold Zex;refine (ZaB (x := (.h1m0 0 : Zap)) rfl).trans ((Zo (n := 99999) (y := (.h1m0 (-1) : Zap)) ?_).trans (ZE (n := 99998) ?_))
  ·refine Eq.trans (show _ = Zd4 L mt [y] 100000 0 from rfl) ?_
   unfold Zd4;show (if (0 : Int) ≤ 0 then if 0 < 1 then if (0 : Int) ≤ y.a0 then if (y.a0).toNat < mt.length then if y.a1 = 0 then if (0 : Int) ≤ mt.getD (y.a0).toNat 0 then if (mt.getD (y.a0).toNat 0).toNat < L.length then if (L.getD (mt.getD (y.a0).toNat 0).toNat RI.z).a0 = 16 then none else _ else _ else _ else _ else _ else _ else _ else _) = _;rw [y0, Int.toNat_natCast, if_pos (by decide), if_pos (by decide), if_pos (by omega), if_pos hbm, if_pos y1, if_pos hm.1, if_pos (by omega), if_neg (h16 _ (by omega))];rfl
  ·rfl
 unfold Za7;rw [if_pos (by omega), if_pos (by show (0 : Int) ≤ (p : Int); omega), if_pos (by show ((p : Int)).toNat < L.length; omega)];rw [Int.toNat_natCast, e, w1 h1 h2, if_neg (by omega), if_neg (by omega), if_neg (by omega), if_neg (by omega), if_neg (by omega), if_neg (by omega), if_neg (by omega), if_neg (by omega), if_neg (by omega), if_pos hi];refine Zs (rt _ rfl rfl) ?_;rfl
end
end
end Ev
end Go.Proofs.YthfohmhipifiaaaGreat
namespace Go.Proofs.YthfohmhipifiaaaGreat
open Go.RowKit
namespace Ev
theorem op9 : (1 : Int) ≤ 9 ∧ (9 : Int) ≤ 10 := by decide
theorem op8 : (1 : Int) ≤ 8 ∧ (8 : Int) ≤ 10 := by decide
theorem op1 : (1 : Int) ≤ 1 ∧ (1 : Int) ≤ 10 := by decide
theorem ne9 : ¬ (9 : Int) = 19 := by decide
theorem ne8 : ¬ (8 : Int) = 19 := by decide
theorem ne1 : ¬ (1 : Int) = 19 := by decide
theorem f_reg {r : Int} (h0 : 0 ≤ r) (h1 : r < 8) : ZaG 1 r 0 100000 = some (.r0 true) := by unfold ZaG; rw [if_pos rfl, if_pos h0, if_pos h1]
theorem Z5o {r : Int} (h0 : 0 ≤ r) (h1 : r ≤ 512) : ZaG 3 r 0 100000 = some (.r0 true) := by unfold ZaG; rw [if_neg (by decide), if_neg (by decide), if_pos rfl, if_pos h0, if_pos h1]
theorem is_jz {r g : Int} (h0 : 0 ≤ r) (h1 : r < 8) (g0 : 0 ≤ g) (g1 : g ≤ 512) : ZaN 9 r g 0 100000 = some (.r0 true) := by unfold ZaN;refine Zs (show Zgj 9 100000 = some (.r0 1 3 0) from rfl) (Zs (f_reg h0 h1) (Zq rfl (Zs (Z5o g0 g1) (Zq rfl (Zs (show ZaG 0 0 g 100000 = some (.r0 true) from rfl) (Zq rfl rfl))))))
theorem is_j {g : Int} (g0 : 0 ≤ g) (g1 : g ≤ 512) : ZaN 8 g 0 0 100000 = some (.r0 true) := by unfold ZaN;refine Zs (show Zgj 8 100000 = some (.r0 3 0 0) from rfl) (Zs (Z5o g0 g1) (Zq rfl (Zs (show ZaG 0 0 0 100000 = some (.r0 true) from rfl) (Zq rfl (Zs (show ZaG 0 0 0 100000 = some (.r0 true) from rfl) (Zq rfl rfl))))))
section
variable (r0 r1 r2 r3 r4 r5 r6 r7 : RG)
abbrev rg8 : List RG := [r0, r1, r2, r3, r4, r5, r6, r7]
theorem Zqj {reg g : Int} {p : Nat} (hp : p < 500) (hr : reg = 4 ∨ reg = 5) {x : RG} (hx : (rg8 r0 r1 r2 r3 r4 r5 r6 r7).getD reg.toNat RG.z = x) (g0 : 0 ≤ g) (g1 : g ≤ 512) : ZD (rg8 r0 r1 r2 r3 r4 r5 r6 r7) p 9 reg g 0 2 1048577 100000 = some (.r0 (rg8 r0 r1 r2 r3 r4 r5 r6 r7) (if (x.a0 = 2 ∧ x.a1 = 0) ∨ (x.a0 = 1 ∧ x.a1 = 0) then g else ((p + 1 : Nat) : Int))) := by
 unfold ZD;refine Zs (is_jz (by omega) (by omega) g0 g1) (Z8 (fun c => c rfl) (Zq (by decide) (Zq (by decide) (Z8 (by omega) (Z8 (by omega) (Z8 (by decide) (Zq (by decide) (Zq (by omega) (Zq (by omega) ?_)))))))));have e1 : (((p : Int)) + 1) = ((p + 1 : Nat) : Int) := by omega
 rcases hr with rfl | rfl
 ·have hx' : r4 = x := hx
  clear hx;subst hx';show (if r4.a0 = 2 ∧ r4.a1 = 0 then some (ref14_DoR.r0 (rg8 r0 r1 r2 r3 r4 r5 r6 r7) g) else if r4.a0 = 1 ∧ r4.a1 = 0 then some (ref14_DoR.r0 (rg8 r0 r1 r2 r3 r4 r5 r6 r7) g) else some (ref14_DoR.r0 (rg8 r0 r1 r2 r3 r4 r5 r6 r7) ((p : Int) + 1))) = _;by_cases c : r4.a0 = 2 ∧ r4.a1 = 0
  ·rw [if_pos c, if_pos (Or.inl c)]
  ·by_cases d : r4.a0 = 1 ∧ r4.a1 = 0
   ·rw [if_neg c, if_pos d, if_pos (Or.inr d)]
   ·rw [if_neg c, if_neg d, if_neg (fun h => h.elim c d), e1]
 ·have hx' : r5 = x := hx
  clear hx;subst hx';show (if r5.a0 = 2 ∧ r5.a1 = 0 then some (ref14_DoR.r0 (rg8 r0 r1 r2 r3 r4 r5 r6 r7) g) else if r5.a0 = 1 ∧ r5.a1 = 0 then some (ref14_DoR.r0 (rg8 r0 r1 r2 r3 r4 r5 r6 r7) g) else some (ref14_DoR.r0 (rg8 r0 r1 r2 r3 r4 r5 r6 r7) ((p : Int) + 1))) = _;by_cases c : r5.a0 = 2 ∧ r5.a1 = 0
  ·rw [if_pos c, if_pos (Or.inl c)]
  ·by_cases d : r5.a0 = 1 ∧ r5.a1 = 0
   ·rw [if_neg c, if_pos d, if_pos (Or.inr d)]
   ·rw [if_neg c, if_neg d, if_neg (fun h => h.elim c d), e1]
theorem Z2S {g : Int} {p : Nat} (hp : p < 500) (g0 : 0 ≤ g) (g1 : g ≤ 512) : ZD (rg8 r0 r1 r2 r3 r4 r5 r6 r7) p 8 g 0 0 2 1048577 100000 = some (.r0 (rg8 r0 r1 r2 r3 r4 r5 r6 r7) g) := by unfold ZD;exact Zs (is_j g0 g1) (Z8 (fun c => c rfl) (Zq (by decide) (Zq (by decide) (Z8 (by omega) (Z8 (by omega) (Zq (by decide) rfl))))))
theorem Ziv {o a b c : Int} {R R' : List RG} {p : Nat} (hp : p < 500) (ho : 1 ≤ o ∧ o ≤ 10 ∧ ¬ o = 8 ∧ ¬ o = 9) (hi : ZaN o a b c 100000 = some (.r0 true)) {k v : Int} (hm : Zds R o a b c 2 1048577 100000 = some (.r0 k v)) (hp' : Zh8 R a k v 100000 = some (.r0 R')) : ZD R p o a b c 2 1048577 100000 = some (.r0 R' ((p + 1 : Nat) : Int)) := by unfold ZD;refine Zs hi (Z8 (fun c => c rfl) (Zq ho.1 (Zq ho.2.1 (Z8 (by omega) (Z8 (by omega) (Z8 ho.2.2.1 (Z8 ho.2.2.2 (Zs hm (Zs hp' ?_)))))))));rw [show ((p + 1 : Nat) : Int) = (p : Int) + 1 by omega]
theorem ZdB {O : List RJ} {R R' E : List RG} {p : Nat} {u tr o a b c q : Int} (ho : ¬ o = 19) (h : ZD R p o a b c 2 1048577 100000 = some (.r0 R' q)) : Zcd O R p E u tr o a b c 100000 = some (.r0 R' q) := by
 unfold Zcd;have t : ZaU R o a b c 100000 = some (.r0 0 0 false) := by unfold ZaU; rw [if_pos ho]
 exact Zs t (Z8 (fun c => by cases c) (Zs h rfl))
theorem Z5K {p : Nat} (hp : p < 500) (c m : Int) : ZD (rg8 r0 r1 ⟨1, m⟩ r3 r4 r5 ⟨1, c⟩ r7) p 6 5 6 2 2 1048577 100000 = some (.r0 (rg8 r0 r1 ⟨1, m⟩ r3 r4 ⟨1, if c < m then 1 else 0⟩ ⟨1, c⟩ r7) ((p + 1 : Nat) : Int)) := by
 by_cases h : c < m
 ·rw [if_pos h]
  refine Ziv hp (by decide) rfl (k := 1) (v := 1) ?_ rfl;unfold Zds;rw [if_neg (by decide), if_neg (by decide), if_neg (by decide), if_neg (by decide), if_neg (by decide), if_pos rfl, if_pos (by decide), if_pos (by decide), if_pos (by decide), if_pos (by decide), if_pos (by rfl), if_pos (by rfl)];exact Zq h rfl
 ·rw [if_neg h]
  refine Ziv hp (by decide) rfl (k := 1) (v := 0) ?_ rfl;unfold Zds;rw [if_neg (by decide), if_neg (by decide), if_neg (by decide), if_neg (by decide), if_neg (by decide), if_pos rfl, if_pos (by decide), if_pos (by decide), if_pos (by decide), if_pos (by decide), if_pos (by rfl), if_pos (by rfl)];exact Z8 h rfl
theorem Z60 {p : Nat} (hp : p < 500) {c : Int} (c0 : 0 ≤ c) (c1 : c < 1000) : ZD (rg8 r0 r1 r2 ⟨1, 1⟩ r4 r5 ⟨1, c⟩ r7) p 4 6 6 3 2 1048577 100000 = some (.r0 (rg8 r0 r1 r2 ⟨1, 1⟩ r4 r5 ⟨1, c + 1⟩ r7) ((p + 1 : Nat) : Int)) := by refine Ziv hp (by decide) rfl (k := 1) (v := c + 1) ?_ rfl;unfold Zds;rw [if_neg (by decide), if_neg (by decide), if_neg (by decide), if_pos rfl, if_pos (by decide), if_pos (by decide), if_pos (by decide), if_pos (by decide), if_pos (by rfl), if_pos (by rfl)];show some (ref14_madeR.r0 1 (IntKind.i64.wrap (c + 1))) = _;rw [w64 (by omega) (by omega)]
theorem Z61 {p : Nat} (hp : p < 500) {c : Int} (c0 : 0 ≤ c) (c1 : c < 1000) : ZD (rg8 r0 r1 r2 ⟨1, 1⟩ r4 r5 ⟨1, c⟩ r7) p 5 6 6 3 2 1048577 100000 = some (.r0 (rg8 r0 r1 r2 ⟨1, 1⟩ r4 r5 ⟨1, c - 1⟩ r7) ((p + 1 : Nat) : Int)) := by refine Ziv hp (by decide) rfl (k := 1) (v := c - 1) ?_ rfl;unfold Zds;rw [if_neg (by decide), if_neg (by decide), if_neg (by decide), if_neg (by decide), if_pos rfl, if_pos (by decide), if_pos (by decide), if_pos (by decide), if_pos (by decide), if_pos (by rfl), if_pos (by rfl)];show some (ref14_madeR.r0 1 (IntKind.i64.wrap (c - 1))) = _;rw [w64 (by omega) (by omega)]
theorem Z5p {p : Nat} (hp : p < 500) {n : Int} (h0 : 0 ≤ n) (h1 : n ≤ 255) : ZD (rg8 r0 r1 r2 r3 r4 r5 r6 r7) p 1 7 n 0 2 1048577 100000 = some (.r0 (rg8 r0 r1 r2 r3 r4 r5 r6 ⟨1, n⟩) ((p + 1 : Nat) : Int)) :=
 Ziv hp (by decide) (isK 7 n (by simp) h0 h1) (k := 1) (v := n) rfl rfl
end
section
variable {O O' : List RJ} {R E W : List RG} {p : Nat} {u tr t : Int} (hR : R.length = 8)
include hR
theorem Zvz {a b f : Int} {x v : RG} (ha : 0 ≤ a ∧ a.toNat < 8) (hb : 0 ≤ b ∧ b.toNat < 8) (hx : R.getD b.toNat RG.z = x) (h : Zda O x.a0 x.a1 f 100000 = some (.r0 v.a0 v.a1)) : Z6 O R p E u tr t 13 a b f W true 100000 = some (.r1 O (R.set a.toNat v)) := by subst hx;unfold Z6;exact Z8 (by decide) (Zq rfl (Zq hb.1 (Zq hb.2 (Zs h (Zq ha.1 (Zq ha.2 (Zq (by omega) rfl)))))))
theorem ZmO {a c f : Int} {x v : RG} (ha : 0 ≤ a ∧ a.toNat < 8) (hc : 0 ≤ c ∧ c.toNat < 8) (hx : R.getD a.toNat RG.z = x) (hv : R.getD c.toNat RG.z = v) (h : ZeJ O t x.a0 x.a1 f v.a0 v.a1 100000 = some (.r0 O')) : Z6 O R p E u tr t 14 a f c W true 100000 = some (.r1 O' R) := by subst hx hv;unfold Z6;exact Z8 (by decide) (Z8 (by decide) (Zq rfl (Zq ha.1 (Zq ha.2 (Zq hc.1 (Zq hc.2 (Zs h rfl)))))))
theorem Z4V {a : Int} {x : RG} (ha : 0 ≤ a ∧ a.toNat < 8) (hx : R.getD a.toNat RG.z = x) (h : ZeK O t x.a0 x.a1 true 100000 = some (.r0 O')) : Z6 O R p E u tr t 12 a 0 0 W true 100000 = some (.r1 O' R) := by subst hx;unfold Z6;exact Z8 (by decide) (Z8 (by decide) (Z8 (by decide) (Zq ha.1 (Zq ha.2 (Zs h rfl)))))
theorem Z5L {a tr' : Int} {x : RG} {F : List RG} (ha : 0 ≤ a ∧ a.toNat < 8) (h0 : 0 < O.length) (h1 : O.length ≤ 100000) (hn : ZcJ O R p E u tr W 100000 = some (.r0 x.a0 x.a1 tr')) (hf : Zdt x.a0 x.a1 t 100000 = some (.r0 F)) : Z6 O R p E u tr t 11 a 2 1 W true 100000 = some (.r0 (O ++ [⟨x.a0, x.a1, IntKind.i64.wrap (Int.tdiv x.a1 1048576), 2, 1, 1, t, F⟩]) (R.set a.toNat x) tr') := by unfold Z6;exact Zq rfl (Zs hn (Z8 (by omega) (Zq h1 (Zq rfl (Zq rfl (Zs hf (Zq ha.1 (Zq ha.2 (Zq (by omega) rfl)))))))))
end
theorem Z3M {n t : Int} (h : Vd n) : Zdt 2 n t 100000 = some (.r0 [⟨2, 0⟩, ⟨1, 0⟩]) := by unfold Zdt;refine (ZaB (x := (.h1m0 : Zav)) ?_).trans rfl;unfold Zhf;exact Zq rfl (Zs (ZnC h) (Z8 (fun c => c rfl) rfl))
theorem Z5M {O : List RJ} {R E : List RG} {p : Int} (x : RG) (W : List RG) : ZcJ O R p E 0 0 (x :: W) 100000 = some (.r0 x.a0 x.a1 0) := by unfold ZcJ;refine ZmN ?_;unfold ZhT;rw [if_pos (by rw [List.length_cons]; omega), if_pos (by decide)];rfl
abbrev rf (O : List RJ) (i : Nat) : RG := ⟨2, (ob O i).a1⟩
def hdR (O : List RJ) : List Nat → RG
 | [] => ⟨2, 0⟩
 | i :: _ => rf O i
def lsR (O : List RJ) : List Nat → RG
 | [] => ⟨2, 0⟩
 | [i] => rf O i
 | _ :: j :: l => lsR O (j :: l)
def Ch (O : List RJ) : List Nat → List Int → Prop
 | [], [] => True
 | i :: l, v :: w => (1 ≤ i ∧ i < O.length ∧ (ob O i).a5 = 2 ∧ (ob O i).a4 = 1 ∧ (ob O i).a7 = [hdR O l, ⟨1, v⟩]) ∧ Ch O l w
 | _, _ => False
theorem ZpV {O O' : List RJ} : ∀ {l : List Nat}, (∀ j ∈ l, (ob O' j).a1 = (ob O j).a1) → hdR O' l = hdR O l
 | [], _ => rfl
 | i :: _, h => by show (⟨2, _⟩ : RG) = ⟨2, _⟩; rw [h i List.mem_cons_self]
theorem ZtX {O O' : List RJ} : ∀ {l : List Nat}, (∀ j ∈ l, (ob O' j).a1 = (ob O j).a1) → lsR O' l = lsR O l
 | [], _ => rfl
 | [i], h => by show (⟨2, _⟩ : RG) = ⟨2, _⟩; rw [h i List.mem_cons_self]
 | _ :: j :: l, h => ZtX (l := j :: l) fun k hk => h k (List.mem_cons_of_mem _ hk)
theorem Ch.mono {O O' : List RJ} (hl : O.length ≤ O'.length) : ∀ {l : List Nat} {w : List Int}, (∀ j ∈ l, ob O' j = ob O j) → Ch O l w → Ch O' l w
 | [], [], _, _ => trivial
 | [], _ :: _, _, h => h.elim
 | _ :: _, [], _, h => h.elim
 | i :: l, v :: w, e, h => by refine ⟨?_, Ch.mono hl (fun j hj => e j (List.mem_cons_of_mem _ hj)) h.2⟩;rw [e i List.mem_cons_self, ZpV (O := O) (O' := O') (l := l) fun j hj => by rw [e j (List.mem_cons_of_mem _ hj)]];exact ⟨h.1.1, Nat.lt_of_lt_of_le h.1.2.1 hl, h.1.2.2⟩
theorem Ch.len {O : List RJ} : ∀ {l : List Nat} {w : List Int}, Ch O l w → l.length = w.length
 | [], [], _ => rfl
 | [], _ :: _, h => h.elim
 | _ :: _, [], h => h.elim
 | _ :: l, _ :: w, h => by rw [List.length_cons, List.length_cons, Ch.len h.2]
theorem Ch.mem {O : List RJ} : ∀ {l : List Nat} {w : List Int}, Ch O l w → ∀ i ∈ l, 1 ≤ i ∧ i < O.length ∧ (ob O i).a5 = 2
 | [], [], _, _, h => by cases h
 | [], _ :: _, h, _, _ => h.elim
 | _ :: _, [], h, _, _ => h.elim
 | i :: l, v :: w, h, j, hj => by
  rcases List.mem_cons.1 hj with rfl | hj
  ·exact ⟨h.1.1, h.1.2.1, h.1.2.2.1⟩
  ·exact Ch.mem h.2 j hj
theorem Ch.led {O : List RJ} {l : List Nat} {w : List Int} (h : Ch O l w) : Ld O (hdR O l) := by
 cases l with
 | nil => exact .inr (.inl rfl)
 | cons i l =>
  obtain ⟨_, h2, h3⟩ := h.mem i List.mem_cons_self;exact .inr (.inr ⟨i, h2, rfl, h3⟩)
theorem ZnD {O : List RJ} : ∀ {l : List Nat} {w : List Int}, Ch O l w → l ≠ [] → ∃ i, i ∈ l ∧ lsR O l = rf O i ∧ l = l.dropLast ++ [i]
 | [], _, _, h => absurd rfl h
 | [i], _, _, _ => ⟨i, List.mem_cons_self, rfl, rfl⟩
 | i :: j :: l, [], h, _ => h.elim
 | i :: j :: l, v :: w, h, _ => by obtain ⟨k, h1, h2, h3⟩ := ZnD (l := j :: l) h.2 (by simp);refine ⟨k, List.mem_cons_of_mem _ h1, h2, ?_⟩;rw [List.dropLast_cons_cons, List.cons_append, ← h3]
def ud {α : Type} (f : Int → α) (q : Int) (x : α) : Int → α := fun k => if k = q then x else f k
theorem ZdH {α : Type} (f : Int → α) (q : Int) (x : α) : ud f q x q = x := if_pos rfl
theorem ZfW {α : Type} {f : Int → α} {q k : Int} {x : α} (h : ¬ k = q) : ud f q x k = f k := if_neg h
structure Qs (O : List RJ) (I : Int → List Nat) (S : Int → List Int) : Prop where
 m : Mo O
 ln : 1 ≤ O.length
 r1 : (ob O 0).a1 = 1048577
 r4 : (ob O 0).a4 = 255
 r5 : (ob O 0).a5 = 2
 r7 : (ob O 0).a7.length = 16
 hd : ∀ q : Int, 0 ≤ q → q ≤ 3 → (ob O 0).a7.getD (2 * q).toNat RG.z = hdR O (I q)
 tl : ∀ q : Int, 0 ≤ q → q ≤ 3 → (ob O 0).a7.getD (2 * q + 1).toNat RG.z = lsR O (I q)
 ct : ∀ q : Int, 0 ≤ q → q ≤ 3 → (ob O 0).a7.getD (8 + q).toNat RG.z = ⟨1, ((S q).length : Int)⟩
 ch : ∀ q : Int, 0 ≤ q → q ≤ 3 → Ch O (I q) (S q)
 dj : ∀ q p : Int, 0 ≤ q → q ≤ 3 → 0 ≤ p → p ≤ 3 → ∀ i, i ∈ I q → i ∈ I p → q = p
 nd : ∀ q : Int, 0 ≤ q → q ≤ 3 → (I q).Nodup
theorem Zqk {f : Nat} (h : f < 8) (n : Int) : Zs5 255 f ⟨2, n⟩ := by
 refine ⟨fun _ => ?_, fun c => absurd rfl c⟩;have : f = 0 ∨ f = 1 ∨ f = 2 ∨ f = 3 ∨ f = 4 ∨ f = 5 ∨ f = 6 ∨ f = 7 := by omega
 rcases this with rfl | rfl | rfl | rfl | rfl | rfl | rfl | rfl <;> decide
theorem Z1L {f : Nat} (h : 8 ≤ f) (h' : f < 16) (n : Int) : Zs5 255 f ⟨1, n⟩ := by
 refine ⟨fun c => absurd c (by show ¬ (1 : Int) = 2; decide), fun _ => ?_⟩;have : f = 8 ∨ f = 9 ∨ f = 10 ∨ f = 11 ∨ f = 12 ∨ f = 13 ∨ f = 14 ∨ f = 15 := by omega
 rcases this with rfl | rfl | rfl | rfl | rfl | rfl | rfl | rfl <;> decide
abbrev rs (O : List RJ) (f : Nat) (v : RG) : List RJ := O.set 0 { ob O 0 with a7 := (ob O 0).a7.set f v }
structure Rt (O : List RJ) : Prop where
 m : Mo O
 ln : 1 ≤ O.length
 r1 : (ob O 0).a1 = 1048577
 r4 : (ob O 0).a4 = 255
 r5 : (ob O 0).a5 = 2
 r7 : (ob O 0).a7.length = 16
theorem Qs.rt {O : List RJ} {I : Int → List Nat} {S : Int → List Int} (h : Qs O I S) : Rt O := ⟨h.m, h.ln, h.r1, h.r4, h.r5, h.r7⟩
section
variable {O : List RJ} (h : Rt O)
include h
theorem Rt.get {f : Nat} (hf : f < 16) : Zda O 2 1048577 (f : Int) 100000 = some (.r0 ((ob O 0).a7.getD f RG.z).a0 ((ob O 0).a7.getD f RG.z).a1) := by have := ZtW h.m (i := 0) h.ln (by rw [h.r5]; decide) (f := f) (by rw [h.r7]; exact hf);rwa [h.r1] at this
theorem Rt.set {f : Nat} (hf : f < 16) {v : RG} (hv : Zs5 255 f v) (hL : Ld O v) (t : Int) : ZeJ O t 2 1048577 (f : Int) v.a0 v.a1 100000 = some (.r0 (rs O f v)) := by have := ZvY h.m (i := 0) h.ln (by rw [h.r5]; decide) (f := f) (by rw [h.r7]; exact hf) (by omega) (by rw [h.r7]; decide) (v := v) (by rw [h.r4]; exact hv) t (Zka h.m h.ln h.r5 t) hL;rwa [h.r1] at this
theorem Zs6 (f : Nat) (v : RG) : ob (rs O f v) 0 = { ob O 0 with a7 := (ob O 0).a7.set f v } := Zbv h.ln
theorem Z4W {i : Nat} (hi : 1 ≤ i) (f : Nat) (v : RG) : ob (rs O f v) i = ob O i := by have _ := h;exact ZN (by omega)
theorem Rt.put (f : Nat) (v : RG) : Rt (rs O f v) :=
 ⟨h.m.set rfl rfl, by rw [List.length_set]; exact h.ln, by rw [Zs6 h]; exact h.r1, by rw [Zs6 h]; exact h.r4, by rw [Zs6 h]; exact h.r5, by rw [Zs6 h]; show ((ob O 0).a7.set f v).length = 16; rw [List.length_set]; exact h.r7⟩
theorem Rt.name (f : Nat) (v : RG) (i : Nat) : (ob (rs O f v) i).a1 = (ob O i).a1 := by
 cases i with
 | zero => rw [Zs6 h]
 | succ i => rw [Z4W h (by omega)]
theorem Ld.put {x : RG} (hx : Ld O x) (f : Nat) (v : RG) : Ld (rs O f v) x := by
 rcases hx with hx | hx | ⟨j, h1, h2, h3⟩
 ·exact .inl hx
 ·exact .inr (.inl hx)
 ·refine .inr (.inr ⟨j, by rw [List.length_set]; exact h1, by rw [h.name]; exact h2, ?_⟩)
  cases j with
  | zero => rw [Zs6 h]; exact h3
  | succ j => rw [Z4W h (by omega)]; exact h3
end
structure Rw (O O' : List RJ) (G : Nat → RG) : Prop where
 rt : Rt O'
 len : O'.length = O.length
 nd : ∀ j, 1 ≤ j → ob O' j = ob O j
 fl : ∀ f, f < 16 → (ob O' 0).a7.getD f RG.z = G f
theorem Rt.same {O : List RJ} (h : Rt O) : Rw O O (fun f => (ob O 0).a7.getD f RG.z) := ⟨h, rfl, fun _ _ => rfl, fun _ _ => rfl⟩
section
variable {O O' : List RJ} {G : Nat → RG} (h : Rw O O' G)
include h
theorem Rw.put {f : Nat} (hf : f < 16) (v : RG) : Rw O (rs O' f v) (fun k => if k = f then v else G k) :=
 ⟨h.rt.put f v, by rw [List.length_set]; exact h.len, fun j hj => by rw [Z4W h.rt hj]; exact h.nd j hj, fun k hk => by
  rw [Zs6 h.rt];show ((ob O' 0).a7.set f v).getD k RG.z = _;rw [Zs4 (by rw [h.rt.r7]; exact hf)];by_cases c : k = f
  ·rw [if_pos c, if_pos c]
  ·rw [if_neg c, if_neg c]; exact h.fl k hk⟩
theorem Rw.name {O0 : Rt O} (j : Nat) : (ob O' j).a1 = (ob O j).a1 := by
 cases j with
 | zero => rw [h.rt.r1, O0.r1]
 | succ j => rw [h.nd _ (by omega)]
theorem Rw.get {f : Nat} (hf : f < 16) : Zda O' 2 1048577 (f : Int) 100000 = some (.r0 (G f).a0 (G f).a1) := by rw [h.rt.get hf, h.fl f hf]
end
section
variable {L : List RI} {t : Int} {O0 : List RJ} {R0 : List RG} {p0 : Int} {E : List RG} {W : List RG} {mt : List Int}
abbrev q8 (r1 r2 r4 r5 r6 r7 : RG) : List RG := [⟨2, 1048577⟩, r1, r2, ⟨1, 1⟩, r4, r5, r6, r7]
theorem ZtY {O O' : List RJ} {G : Nat → RG} (h : Rw O O' G) {R : List RG} {p : Nat} {u tr : Int} (hp : p < L.length) (h5 : p < 500) {a f : Int} (e : L.getD p RI.z = ⟨13, a, 0, f⟩) (hR : R.length = 8) (hx : R.getD 0 RG.z = ⟨2, 1048577⟩) (ha : 0 ≤ a ∧ a.toNat < 8) (hf : 0 ≤ f ∧ f < 16) : Go1 L t O0 R0 p0 E W mt 1 ⟨O', R, p, u, tr⟩ ⟨O', R.set a.toNat (G f.toNat), p + 1, u, tr⟩ := by refine Ziu hp h5 e (.inl rfl) (Zvz hR ha ⟨Int.le_refl 0, by show 0 < 8; decide⟩ hx ?_);have := h.get (f := f.toNat) (by omega);rwa [show (f.toNat : Int) = f by omega] at this
theorem ZpW {O' : List RJ} (h : Rt O') {R : List RG} {p : Nat} {u tr : Int} (hp : p < L.length) (h5 : p < 500) {c f : Int} (e : L.getD p RI.z = ⟨14, 0, f, c⟩) (hR : R.length = 8) (hx : R.getD 0 RG.z = ⟨2, 1048577⟩) (hc : 0 ≤ c ∧ c.toNat < 8) (hf : 0 ≤ f ∧ f < 16) {v : RG} (hv : R.getD c.toNat RG.z = v) (hF : Zs5 255 f.toNat v) (hL : Ld O' v) : Go1 L t O0 R0 p0 E W mt 1 ⟨O', R, p, u, tr⟩ ⟨rs O' f.toNat v, R, p + 1, u, tr⟩ := by refine Ziu hp h5 e (.inr (.inl rfl)) (ZmO hR ⟨Int.le_refl 0, by show 0 < 8; decide⟩ hc hx hv ?_);have := h.set (f := f.toNat) (by omega) hF hL t;rwa [show (f.toNat : Int) = f by omega] at this
variable {O : List RJ} {I : Int → List Nat} {S : Int → List Int} (Q : Qs O I S) {q : Int} (q0 : 0 ≤ q) (q3 : q ≤ 3) {s : Nat} {l : RI} (hw : ∀ j, j < 14 → L.getD (s + 5 + j) RI.z = (tkP q s l).getD j RI.z) (hs : s + 20 ≤ L.length) (h4 : s < 450) (r1 r2 r4 r5 r6 r7 : RG) {u tr : Int}
include Q q0 q3 hw hs h4
theorem ZtZ : Go1 L t O0 R0 p0 E W mt 1 ⟨O, q8 r1 r2 r4 r5 r6 r7, s + 5, u, tr⟩ ⟨O, q8 r1 r2 (hdR O (I q)) r5 r6 r7, s + 6, u, tr⟩ := by have g := ZtY (t := t) (O0 := O0) (R0 := R0) (p0 := p0) (E := E) (W := W) (mt := mt) (L := L) (R := q8 r1 r2 r4 r5 r6 r7) (u := u) (tr := tr) Q.rt.same (p := s + 5) (by omega) (by omega) (a := 4) (f := 2 * q) (hw 0 (by decide)) rfl rfl (by decide) (by omega);rw [Q.hd q q0 q3] at g;exact g
theorem ZpX (hI : I q = []) : Go1 L t O0 R0 p0 E W mt 2 ⟨O, q8 r1 r2 r4 r5 r6 r7, s + 5, u, tr⟩ ⟨O, q8 r1 r2 ⟨2, 0⟩ r5 r6 r7, s + 18, u, tr⟩ := by have g := ZtZ (t := t) (O0 := O0) (R0 := R0) (p0 := p0) (E := E) (W := W) (mt := mt) Q q0 q3 hw hs h4 r1 r2 r4 r5 r6 r7 (u := u) (tr := tr);rw [hI] at g;refine g.trans (ZdA (by omega) (by omega) (i := ⟨9, 4, (s : Int) + 18, 0⟩) (hw 1 (by decide)) op9 (q := s + 18) (ZdB ne9 ?_));have d := Zqj (⟨2, 1048577⟩) r1 r2 (⟨1, 1⟩) (⟨2, 0⟩) r5 r6 r7 (p := s + 6) (by omega) (.inl rfl) (reg := 4) (g := (s : Int) + 18) rfl (by omega) (by omega);rw [if_pos (.inl ⟨rfl, rfl⟩)] at d;exact d
theorem Zs7 {i : Nat} {r : List Nat} {v : Int} {w : List Int} (hI : I q = i :: r) (hS : S q = v :: w) (hw9 : (S q).length < 900) : ∃ k O', k ≤ 13 ∧ Go1 L t O0 R0 p0 E W mt k ⟨O, q8 r1 r2 r4 r5 r6 r7, s + 5, u, tr⟩ ⟨O', q8 r1 r2 (rf O i) (hdR O r) ⟨1, (w.length : Int)⟩ ⟨1, v⟩, s + 19, u, tr⟩ ∧ Qs O' (ud I q r) (ud S q w) ∧ O'.length = O.length ∧ ∀ j, (ob O' j).a1 = (ob O j).a1 := by
 have hch := Q.ch q q0 q3;rw [hI, hS] at hch;obtain ⟨⟨i1, i2, i5, i4, i7⟩, hr⟩ := hch;have hrt := Q.rt;have vi := Q.m.v i i2;have ir : ¬ (ob O i).a1 = 1048577 := fun c => by have := Q.m.u i 0 i2 Q.ln (by rw [c, Q.r1]); omega
 -- the first one's name
 have g1 := ZtZ (t := t) (O0 := O0) (R0 := R0) (p0 := p0) (E := E) (W := W) (mt := mt) Q q0 q3 hw hs h4 r1 r2 r4 r5 r6 r7 (u := u) (tr := tr);rw [hI] at g1;have g2 : Go1 L t O0 R0 p0 E W mt 1 ⟨O, q8 r1 r2 (rf O i) r5 r6 r7, s + 6, u, tr⟩ ⟨O, q8 r1 r2 (rf O i) r5 r6 r7, s + 7, u, tr⟩ := by refine ZdA (by omega) (by omega) (i := ⟨9, 4, (s : Int) + 18, 0⟩) (hw 1 (by decide)) op9 (q := s + 7) (ZdB ne9 ?_);have d := Zqj (⟨2, 1048577⟩) r1 r2 (⟨1, 1⟩) (rf O i) r5 r6 r7 (p := s + 6) (by omega) (.inl rfl) (reg := 4) (g := (s : Int) + 18) rfl (by omega) (by omega);rw [if_neg (by rintro (⟨_, c⟩ | ⟨c, _⟩); exact vi.ne c; exact absurd c (by show ¬ (2 : Int) = 1; decide))] at d;exact d
 have hasN : ∀ f : Nat, f < 2 → Zda O 2 (ob O i).a1 (f : Int) 100000 = some (.r0 (([hdR O r, ⟨1, v⟩] : List RG).getD f RG.z).a0 (([hdR O r, ⟨1, v⟩] : List RG).getD f RG.z).a1) := fun f hf => by have := ZtW Q.m i2 (by rw [i5]; decide) (f := f) (by rw [i7]; exact hf);rwa [i7] at this
 have g3 : Go1 L t O0 R0 p0 E W mt 1 ⟨O, q8 r1 r2 (rf O i) r5 r6 r7, s + 7, u, tr⟩ ⟨O, q8 r1 r2 (rf O i) r5 r6 ⟨1, v⟩, s + 8, u, tr⟩ :=
  Ziu (by omega) (by omega) (i := ⟨13, 7, 4, 1⟩) (hw 2 (by decide)) (.inl rfl) (Zvz rfl (by decide) (by decide) (x := rf O i) rfl (v := ⟨1, v⟩) (hasN 1 (by decide)))
 have g4 : Go1 L t O0 R0 p0 E W mt 1 ⟨O, q8 r1 r2 (rf O i) r5 r6 ⟨1, v⟩, s + 8, u, tr⟩ ⟨O, q8 r1 r2 (rf O i) (hdR O r) r6 ⟨1, v⟩, s + 9, u, tr⟩ :=
  Ziu (by omega) (by omega) (i := ⟨13, 5, 4, 0⟩) (hw 3 (by decide)) (.inl rfl) (Zvz rfl (by decide) (by decide) (x := rf O i) rfl (v := hdR O r) (hasN 0 (by decide)))
 have ld : Ld O (hdR O r) := hr.led;have ref2 : ∃ n, hdR O r = ⟨2, n⟩ := by cases r with | nil => exact ⟨_, rfl⟩ | cons => exact ⟨_, rfl⟩
 have fitr : ∀ f, f < 8 → Zs5 255 f (hdR O r) := fun f hf => by obtain ⟨n, e⟩ := ref2; rw [e]; exact Zqk hf n
 have g5 : Go1 L t O0 R0 p0 E W mt 1 ⟨O, q8 r1 r2 (rf O i) (hdR O r) r6 ⟨1, v⟩, s + 9, u, tr⟩ ⟨rs O (2 * q).toNat (hdR O r), q8 r1 r2 (rf O i) (hdR O r) r6 ⟨1, v⟩, s + 10, u, tr⟩ :=
  ZpW hrt (by omega) (by omega) (c := 5) (f := 2 * q) (hw 4 (by decide)) rfl rfl (by decide) (by omega) rfl (fitr _ (by omega)) ld
 have w1 := Q.rt.same.put (f := (2 * q).toNat) (by omega) (hdR O r)
 -- the last one's name
 have g6 : ∃ k O2, k ≤ 2 ∧ Go1 L t O0 R0 p0 E W mt k ⟨rs O (2 * q).toNat (hdR O r), q8 r1 r2 (rf O i) (hdR O r) r6 ⟨1, v⟩, s + 10, u, tr⟩ ⟨O2, q8 r1 r2 (rf O i) (hdR O r) r6 ⟨1, v⟩, s + 13, u, tr⟩ ∧ Rw O O2 (fun f => if f = (2 * q + 1).toNat then lsR O r else if f = (2 * q).toNat then hdR O r else (ob O 0).a7.getD f RG.z) := by
  have d := Zqj (⟨2, 1048577⟩) r1 r2 (⟨1, 1⟩) (rf O i) (hdR O r) r6 ⟨1, v⟩ (p := s + 10) (by omega) (.inr rfl) (reg := 5) (g := (s : Int) + 12) rfl (by omega) (by omega);cases r with
  | nil =>
   rw [if_pos (.inl ⟨rfl, rfl⟩)] at d;have a := ZdA (t := t) (O0 := O0) (R0 := R0) (p0 := p0) (E := E) (W := W) (mt := mt) (O := rs O (2 * q).toNat (hdR O [])) (u := u) (tr := tr) (p := s + 10) (by omega) (by omega) (i := ⟨9, 5, (s : Int) + 12, 0⟩) (hw 5 (by decide)) op9 (q := s + 12) (ZdB ne9 d);have b := ZpW (t := t) (O0 := O0) (R0 := R0) (p0 := p0) (E := E) (W := W) (mt := mt) (u := u) (tr := tr) (R := q8 r1 r2 (rf O i) (hdR O []) r6 ⟨1, v⟩) w1.rt (p := s + 12) (by omega) (by omega) (c := 5) (f := 2 * q + 1) (hw 7 (by decide)) rfl rfl (by decide) (by omega) (v := ⟨2, 0⟩) rfl (Zqk (by omega) 0) (.inr (.inl rfl));exact ⟨2, _, by omega, a.trans b, w1.put (by omega) _⟩
  | cons i' r' =>
   have i'2 := (hr.mem i' List.mem_cons_self).2.1;rw [if_neg (by rintro (⟨_, c⟩ | ⟨c, _⟩); exact (Q.m.v i' i'2).ne c; exact absurd c (by show ¬ (2 : Int) = 1; decide))] at d;have a := ZdA (t := t) (O0 := O0) (R0 := R0) (p0 := p0) (E := E) (W := W) (mt := mt) (O := rs O (2 * q).toNat (hdR O (i' :: r'))) (u := u) (tr := tr) (p := s + 10) (by omega) (by omega) (i := ⟨9, 5, (s : Int) + 12, 0⟩) (hw 5 (by decide)) op9 (q := s + 11) (ZdB ne9 d);have b := ZdA (t := t) (O0 := O0) (R0 := R0) (p0 := p0) (E := E) (W := W) (mt := mt) (O := rs O (2 * q).toNat (hdR O (i' :: r'))) (R := q8 r1 r2 (rf O i) (hdR O (i' :: r')) r6 ⟨1, v⟩) (u := u) (tr := tr) (p := s + 11) (by omega) (by omega) (i := ⟨8, (s : Int) + 13, 0, 0⟩) (hw 6 (by decide)) op8 (q := s + 13) (ZdB ne8 (Z2S (g := (s : Int) + 13) _ _ _ _ _ _ _ _ (by omega) (by omega) (by omega)));refine ⟨2, _, by omega, a.trans b, w1.rt, w1.len, w1.nd, fun f hf => ?_⟩;rw [w1.fl f hf];by_cases c : f = (2 * q + 1).toNat
   ·rw [if_pos c, if_neg (by omega), c, Q.tl q q0 q3, hI]; rfl
   ·rw [if_neg c]
 obtain ⟨k6, O2, hk6, g6, w2⟩ := g6;have ctq := Q.ct q q0 q3;rw [hS] at ctq;have g7 := ZtY (t := t) (O0 := O0) (R0 := R0) (p0 := p0) (E := E) (W := W) (mt := mt) (L := L) (R := q8 r1 r2 (rf O i) (hdR O r) r6 ⟨1, v⟩) (u := u) (tr := tr) w2 (p := s + 13) (by omega) (by omega) (a := 6) (f := 8 + q) (hw 8 (by decide)) rfl rfl (by decide) (by omega);rw [if_neg (by omega), if_neg (by omega), ctq] at g7;rw [hS, List.length_cons] at hw9;have g8 : Go1 L t O0 R0 p0 E W mt 1 ⟨O2, q8 r1 r2 (rf O i) (hdR O r) ⟨1, (((v :: w).length : Nat) : Int)⟩ ⟨1, v⟩, s + 14, u, tr⟩ ⟨O2, q8 r1 r2 (rf O i) (hdR O r) ⟨1, (w.length : Int)⟩ ⟨1, v⟩, s + 15, u, tr⟩ := by refine ZdA (by omega) (by omega) (i := ⟨5, 6, 6, 3⟩) (hw 9 (by decide)) (by decide) (q := s + 15) (ZdB (by decide) ?_);have d := Z61 (⟨2, 1048577⟩) r1 r2 (rf O i) (hdR O r) ⟨1, v⟩ (p := s + 14) (by omega) (c := (((v :: w).length : Nat) : Int)) (by omega) (by rw [List.length_cons]; omega);rwa [show (((v :: w).length : Nat) : Int) - 1 = (w.length : Int) by rw [List.length_cons]; omega] at d
 have g9 : Go1 L t O0 R0 p0 E W mt 1 ⟨O2, q8 r1 r2 (rf O i) (hdR O r) ⟨1, (w.length : Int)⟩ ⟨1, v⟩, s + 15, u, tr⟩ ⟨rs O2 (8 + q).toNat ⟨1, (w.length : Int)⟩, q8 r1 r2 (rf O i) (hdR O r) ⟨1, (w.length : Int)⟩ ⟨1, v⟩, s + 16, u, tr⟩ :=
  ZpW w2.rt (by omega) (by omega) (c := 6) (f := 8 + q) (hw 10 (by decide)) rfl rfl (by decide) (by omega) rfl (Z1L (by omega) (by omega) _) (.inl rfl)
 have w3 := w2.put (f := (8 + q).toNat) (by omega) ⟨1, (w.length : Int)⟩;generalize hO3 : rs O2 (8 + q).toNat ⟨1, (w.length : Int)⟩ = O3 at g9 w3;have n3 : ∀ j, (ob O3 j).a1 = (ob O j).a1 := fun j => Rw.name w3 (O0 := hrt) j;have e3 : ob O3 i = ob O i := w3.nd i i1;have g10 : Go1 L t O0 R0 p0 E W mt 1 ⟨O3, q8 r1 r2 (rf O i) (hdR O r) ⟨1, (w.length : Int)⟩ ⟨1, v⟩, s + 16, u, tr⟩ ⟨O3.set i { ob O3 i with a5 := 3 }, q8 r1 r2 (rf O i) (hdR O r) ⟨1, (w.length : Int)⟩ ⟨1, v⟩, s + 17, u, tr⟩ := by refine Ziu (by omega) (by omega) (i := ⟨12, 4, 0, 0⟩) (hw 11 (by decide)) (.inr (.inr rfl)) (Z4V rfl (by decide) (x := rf O i) rfl ?_);have f := Z5H w3.rt.m (i := i) (by rw [w3.len]; exact i2) (by rw [e3, i5]; decide) (by rw [e3]; exact ir) t;rw [n3] at f;exact f
 have g11 : Go1 L t O0 R0 p0 E W mt 1 ⟨O3.set i { ob O3 i with a5 := 3 }, q8 r1 r2 (rf O i) (hdR O r) ⟨1, (w.length : Int)⟩ ⟨1, v⟩, s + 17, u, tr⟩ ⟨O3.set i { ob O3 i with a5 := 3 }, q8 r1 r2 (rf O i) (hdR O r) ⟨1, (w.length : Int)⟩ ⟨1, v⟩, s + 19, u, tr⟩ :=
  ZdA (by omega) (by omega) (i := ⟨8, (s : Int) + 19, 0, 0⟩) (hw 12 (by decide)) op8 (q := s + 19) (ZdB ne8 (Z2S (g := (s : Int) + 19) _ _ _ _ _ _ _ _ (by omega) (by omega) (by omega)))
 have m4 : Mo (O3.set i { ob O3 i with a5 := 3 }) := w3.rt.m.set rfl rfl;have n4 : ∀ j, (ob (O3.set i { ob O3 i with a5 := 3 }) j).a1 = (ob O j).a1 := fun j => by
  by_cases c : i = j
  ·subst c; rw [ob, Zbv (by rw [w3.len]; exact i2)]; exact n3 i
  ·rw [ob, ZN c]; exact n3 j
 have o4 : ∀ j, 1 ≤ j → j ≠ i → ob (O3.set i { ob O3 i with a5 := 3 }) j = ob O j := fun j h1 h2 => by rw [ob, ZN (fun c => h2 c.symm)]; exact w3.nd j h1
 have z4 : ob (O3.set i { ob O3 i with a5 := 3 }) 0 = ob O3 0 := ZN (by omega);have l4 : (O3.set i { ob O3 i with a5 := 3 }).length = O.length := by rw [List.length_set, w3.len]
 have nod := Q.nd q q0 q3;rw [hI] at nod;have nr : ∀ j ∈ r, j ≠ i := fun j hj c => (List.nodup_cons.1 nod).1 (c ▸ hj);have no : ∀ p, 0 ≤ p → p ≤ 3 → ¬ p = q → ∀ j ∈ I p, j ≠ i := fun p p0 p3 hp j hj c => hp (Q.dj p q p0 p3 q0 q3 j hj (by rw [hI, c]; exact List.mem_cons_self));refine ⟨1 + 1 + 1 + 1 + 1 + k6 + 1 + 1 + 1 + 1 + 1, _, by omega, (((((((((g1.trans g2).trans g3).trans g4).trans g5).trans g6).trans g7).trans g8).trans g9).trans g10).trans g11, ?_, l4, n4⟩;refine ⟨m4, by rw [l4]; exact Q.ln, by rw [z4]; exact w3.rt.r1, by rw [z4]; exact w3.rt.r4, by rw [z4]; exact w3.rt.r5, by rw [z4]; exact w3.rt.r7, fun p p0 p3 => ?_, fun p p0 p3 => ?_, fun p p0 p3 => ?_, fun p p0 p3 => ?_, fun p p' p0 p3 p0' p3' j hj hj' => ?_, fun p p0 p3 => ?_⟩
 ·rw [z4, w3.fl _ (by omega), if_neg (by omega), if_neg (by omega)]
  by_cases c : p = q
  ·subst c; rw [if_pos rfl, ZdH]; exact (ZpV fun j _ => n4 j).symm
  ·rw [if_neg (by omega), ZfW c, Q.hd p p0 p3]; exact (ZpV fun j _ => n4 j).symm
 ·rw [z4, w3.fl _ (by omega), if_neg (by omega)]
  by_cases c : p = q
  ·subst c; rw [if_pos rfl, ZdH]; exact (ZtX fun j _ => n4 j).symm
  ·rw [if_neg (by omega), if_neg (by omega), ZfW c, Q.tl p p0 p3]; exact (ZtX fun j _ => n4 j).symm
 ·rw [z4, w3.fl _ (by omega)]
  by_cases c : p = q
  ·subst c; rw [if_pos rfl, ZdH]
  ·rw [if_neg (by omega), if_neg (by omega), if_neg (by omega), ZfW c, Q.ct p p0 p3]
 ·by_cases c : p = q
  ·subst c
   rw [ZdH, ZdH];exact hr.mono (by omega) fun j hj => o4 j (hr.mem j hj).1 (nr j hj)
  ·rw [ZfW c, ZfW c]
   exact (Q.ch p p0 p3).mono (by omega) fun j hj => o4 j ((Q.ch p p0 p3).mem j hj).1 (no p p0 p3 c j hj)
 ·have hh : ∀ p, 0 ≤ p → p ≤ 3 → ∀ j, j ∈ ud I q r p → j ∈ I p := fun p _ _ j hj => by
   by_cases c : p = q
   ·subst c; rw [ZdH] at hj; rw [hI]; exact List.mem_cons_of_mem _ hj
   ·rwa [ZfW c] at hj
  exact Q.dj p p' p0 p3 p0' p3' j (hh p p0 p3 j hj) (hh p' p0' p3' j hj')
 ·by_cases c : p = q
  ·subst c; rw [ZdH]; exact (List.nodup_cons.1 nod).2
  ·rw [ZfW c]; exact Q.nd p p0 p3
end
theorem Z1M {α : Type} : ∀ (l : List α) (a b : α), (l ++ [a]).set l.length b = l ++ [b]
 | [], _, _ => rfl
 | x :: l, a, b => by show x :: (l ++ [a]).set l.length b = x :: (l ++ [b]);rw [Z1M l a b]
theorem ZkY {O : List RJ} {b : RJ} {j : Nat} (h : j < O.length) : ob (O ++ [b]) j = ob O j := Zdc h
theorem ZmP (O : List RJ) (b : RJ) : ob (O ++ [b]) O.length = b := Z3J
theorem Mo.app {O : List RJ} (m : Mo O) (hl : O.length < 1000) {b : RJ} (h0 : b.a0 = 2) (hv : Vd b.a1) (hn : ∀ j, j < O.length → ¬ (ob O j).a1 = b.a1) : Mo (O ++ [b]) := by
 have e : ∀ j, j < (O ++ [b]).length → j < O.length ∨ j = O.length := fun j hj => by rw [List.length_append, List.length_cons, List.length_nil] at hj; omega
 refine ⟨by rw [List.length_append, List.length_cons, List.length_nil]; omega, fun j hj => ?_, fun i j hi hj h => ?_, fun j hj => ?_⟩
 ·rcases e j hj with h | rfl
  ·rw [ZkY h]; exact m.k j h
  ·rw [ZmP]; exact h0
 ·rcases e i hi with h1 | rfl <;> rcases e j hj with h2 | rfl
  ·rw [ZkY h1, ZkY h2] at h; exact m.u i j h1 h2 h
  ·rw [ZkY h1, ZmP] at h; exact absurd h (hn i h1)
  ·rw [ZkY h2, ZmP] at h; exact absurd h.symm (hn j h2)
  ·rfl
 ·rcases e j hj with h | rfl
  ·rw [ZkY h]; exact m.v j h
  ·rw [ZmP]; exact hv
theorem Ch.snoc {O O' : List RJ} (hl : O.length ≤ O'.length) {c : Nat} {x : Int} (hc : 1 ≤ c ∧ c < O'.length ∧ (ob O' c).a5 = 2 ∧ (ob O' c).a4 = 1 ∧ (ob O' c).a7 = [⟨2, 0⟩, ⟨1, x⟩]) : ∀ {l : List Nat} {w : List Int}, (∀ j ∈ l, (ob O' j).a1 = (ob O j).a1) → (∀ j ∈ l.dropLast, ob O' j = ob O j) → (∀ j, l.getLast? = some j → ob O' j = { ob O j with a7 := (ob O j).a7.set 0 (rf O' c) }) → Ch O l w → Ch O' (l ++ [c]) (w ++ [x])
 | [], [], _, _, _, _ => ⟨hc, trivial⟩
 | [], _ :: _, _, _, _, h => h.elim
 | _ :: _, [], _, _, _, h => h.elim
 | [i], v :: w, n, _, e, h => by
  cases w with
  | cons _ _ => exact h.2.elim
  | nil =>
   refine ⟨?_, hc, trivial⟩;rw [e i rfl];refine ⟨h.1.1, Nat.lt_of_lt_of_le h.1.2.1 hl, h.1.2.2.1, h.1.2.2.2.1, ?_⟩;show (ob O i).a7.set 0 _ = _;rw [h.1.2.2.2.2];rfl
 | i :: j :: l, v :: w, n, d, e, h => by
  refine ⟨?_, Ch.snoc hl hc (l := j :: l) (w := w) (fun k hk => n k (List.mem_cons_of_mem _ hk)) (fun k hk => d k (by rw [List.dropLast_cons_cons]; exact List.mem_cons_of_mem _ hk)) (fun k hk => e k (by rw [List.getLast?_cons_cons]; exact hk)) h.2⟩;rw [d i (by rw [List.dropLast_cons_cons]; exact List.mem_cons_self)];refine ⟨h.1.1, Nat.lt_of_lt_of_le h.1.2.1 hl, h.1.2.2.1, h.1.2.2.2.1, ?_⟩;rw [h.1.2.2.2.2];show ([hdR O (j :: l), ⟨1, v⟩] : List RG) = [hdR O' (j :: (l ++ [c])), ⟨1, v⟩]
  have : hdR O' (j :: (l ++ [c])) = hdR O (j :: l) := by
   show (⟨2, (ob O' j).a1⟩ : RG) = ⟨2, (ob O j).a1⟩
   rw [n j (List.mem_cons_of_mem _ List.mem_cons_self)]
  rw [this]
theorem Z4X {O : List RJ} (l : List Nat) (c : Nat) : hdR O (l ++ [c]) = if l = [] then rf O c else hdR O l := by
 cases l with
 | nil => rfl
 | cons i l => rw [if_neg (by simp)]; rfl
theorem ZzZ {O : List RJ} : ∀ (l : List Nat) (c : Nat), lsR O (l ++ [c]) = rf O c
 | [], _ => rfl
 | [_], _ => rfl
 | _ :: j :: l, c => ZzZ (j :: l) c
section
variable {L : List RI} {t : Int} {O0 : List RJ} {R0 : List RG} {p0 : Int} {E : List RG} {W : List RG} {mt : List Int}
variable {O : List RJ} {I : Int → List Nat} {S : Int → List Int} (Q : Qs O I S) {q : Int} (q0 : 0 ≤ q) (q3 : q ≤ 3) {s : Nat} {rr : Int} (hw : ∀ j, j < 15 → L.getD (s + 5 + j) RI.z = (adP q s rr).getD j RI.z) (hs : s + 20 ≤ L.length) (h4 : s < 450) (r1 r4 r5 r6 r7 : RG) {m : Int}
include Q q0 q3 hw hs h4
theorem Zwa {u tr : Int} : Go1 L t O0 R0 p0 E W mt 2 ⟨O, q8 r1 ⟨1, m⟩ r4 r5 r6 r7, s + 5, u, tr⟩ ⟨O, q8 r1 ⟨1, m⟩ r4 ⟨1, if ((S q).length : Int) < m then 1 else 0⟩ ⟨1, ((S q).length : Int)⟩ r7, s + 7, u, tr⟩ := by have g := ZtY (t := t) (O0 := O0) (R0 := R0) (p0 := p0) (E := E) (W := W) (mt := mt) (L := L) (R := q8 r1 ⟨1, m⟩ r4 r5 r6 r7) (u := u) (tr := tr) Q.rt.same (p := s + 5) (by omega) (by omega) (a := 6) (f := 8 + q) (hw 0 (by decide)) rfl rfl (by decide) (by omega);rw [Q.ct q q0 q3] at g;exact g.trans (ZdA (by omega) (by omega) (i := ⟨6, 5, 6, 2⟩) (hw 1 (by decide)) (by decide) (q := s + 7) (ZdB (by decide) (Z5K (⟨2, 1048577⟩) r1 (⟨1, 1⟩) r4 r5 r7 (by omega) _ m)))
theorem Z0a {u tr : Int} (h : ¬ ((S q).length : Int) < m) : Go1 L t O0 R0 p0 E W mt 3 ⟨O, q8 r1 ⟨1, m⟩ r4 r5 r6 r7, s + 5, u, tr⟩ ⟨O, q8 r1 ⟨1, m⟩ r4 ⟨1, 0⟩ ⟨1, ((S q).length : Int)⟩ r7, s + 19, u, tr⟩ := by have g := Zwa (t := t) (O0 := O0) (R0 := R0) (p0 := p0) (E := E) (W := W) (mt := mt) Q q0 q3 hw hs h4 r1 r4 r5 r6 r7 (m := m) (u := u) (tr := tr);rw [if_neg h] at g;refine g.trans (ZdA (by omega) (by omega) (i := ⟨9, 5, (s : Int) + 19, 0⟩) (hw 2 (by decide)) op9 (q := s + 19) (ZdB ne9 ?_));have d := Zqj (⟨2, 1048577⟩) r1 (⟨1, m⟩) (⟨1, 1⟩) r4 ⟨1, 0⟩ ⟨1, ((S q).length : Int)⟩ r7 (p := s + 7) (by omega) (.inr rfl) (reg := 5) (g := (s : Int) + 19) rfl (by omega) (by omega);rw [if_pos (.inr ⟨rfl, rfl⟩)] at d;exact d
theorem Z1N (h : ((S q).length : Int) < m) (hlen : O.length < 900) (hS9 : (S q).length < 900) {id tr' : Int} (hn : ∀ (R : List RG) (p : Int) (E : List RG), ZcJ O R p E 0 0 W 100000 = some (.r0 2 id tr')) (hv : Vd id) (hid : ∀ j, j < O.length → ¬ (ob O j).a1 = id) {x : Int} (hx : rr = 1 ∧ r1 = ⟨1, x⟩ ∨ rr = 7 ∧ r7 = ⟨1, x⟩) : ∃ k O', k ≤ 14 ∧ Go1 L t O0 R0 p0 E W mt k ⟨O, q8 r1 ⟨1, m⟩ r4 r5 r6 r7, s + 5, 0, 0⟩ ⟨O', q8 r1 ⟨1, m⟩ ⟨2, id⟩ (lsR O (I q)) ⟨1, ((S q).length : Int) + 1⟩ r7, s + 20, 1, tr'⟩ ∧ Qs O' (ud I q (I q ++ [O.length])) (ud S q (S q ++ [x])) ∧ O'.length = O.length + 1 ∧ (∀ j, j < O.length → (ob O' j).a1 = (ob O j).a1) ∧ (ob O' O.length).a1 = id := by
 have g1 := Zwa (t := t) (O0 := O0) (R0 := R0) (p0 := p0) (E := E) (W := W) (mt := mt) Q q0 q3 hw hs h4 r1 r4 r5 r6 r7 (m := m) (u := 0) (tr := 0);rw [if_pos h] at g1;have g2 : Go1 L t O0 R0 p0 E W mt 1 ⟨O, q8 r1 ⟨1, m⟩ r4 ⟨1, 1⟩ ⟨1, ((S q).length : Int)⟩ r7, s + 7, 0, 0⟩ ⟨O, q8 r1 ⟨1, m⟩ r4 ⟨1, 1⟩ ⟨1, ((S q).length : Int)⟩ r7, s + 8, 0, 0⟩ := by refine ZdA (by omega) (by omega) (i := ⟨9, 5, (s : Int) + 19, 0⟩) (hw 2 (by decide)) op9 (q := s + 8) (ZdB ne9 ?_);have d := Zqj (⟨2, 1048577⟩) r1 (⟨1, m⟩) (⟨1, 1⟩) r4 ⟨1, 1⟩ ⟨1, ((S q).length : Int)⟩ r7 (p := s + 7) (by omega) (.inr rfl) (reg := 5) (g := (s : Int) + 19) rfl (by omega) (by omega);rw [if_neg (by rintro (⟨c, _⟩ | ⟨_, c⟩); exact absurd c (by show ¬ (1 : Int) = 2; decide); exact absurd c (by show ¬ (1 : Int) = 0; decide))] at d;exact d
 -- the new one
 have nf : Zdt 2 id t 100000 = _ := Z3M hv;have g3 := Z6y (L := L) (t := t) (O0 := O0) (R0 := R0) (p0 := p0) (E := E) (W := W) (mt := mt) (p := s + 8) (u := 0) (tr := 0) (by omega) (by omega) (a := 4) (hw 3 (by decide)) rfl (Z5L (R := q8 r1 ⟨1, m⟩ r4 ⟨1, 1⟩ ⟨1, ((S q).length : Int)⟩ r7) rfl (by decide) Q.ln (by omega) (x := ⟨2, id⟩) (hn _ _ _) nf);generalize IntKind.i64.wrap (Int.tdiv id 1048576) = gn at g3;have m1 : Mo (O ++ [⟨2, id, gn, 2, 1, 1, t, [⟨2, 0⟩, ⟨1, 0⟩]⟩]) := Q.m.app (by omega) rfl hv hid;have c1 : ob (O ++ [⟨2, id, gn, 2, 1, 1, t, [⟨2, 0⟩, ⟨1, 0⟩]⟩]) O.length = ⟨2, id, gn, 2, 1, 1, t, [⟨2, 0⟩, ⟨1, 0⟩]⟩ := ZmP _ _;have cl : O.length < (O ++ [(⟨2, id, gn, 2, 1, 1, t, [⟨2, 0⟩, ⟨1, 0⟩]⟩ : RJ)]).length := by rw [List.length_append, List.length_cons, List.length_nil]; omega
 have g4 : Go1 L t O0 R0 p0 E W mt 1 ⟨O ++ [⟨2, id, gn, 2, 1, 1, t, [⟨2, 0⟩, ⟨1, 0⟩]⟩], q8 r1 ⟨1, m⟩ ⟨2, id⟩ ⟨1, 1⟩ ⟨1, ((S q).length : Int)⟩ r7, s + 9, 1, tr'⟩ ⟨O ++ [⟨2, id, gn, 2, 1, 1, t, [⟨2, 0⟩, ⟨1, x⟩]⟩], q8 r1 ⟨1, m⟩ ⟨2, id⟩ ⟨1, 1⟩ ⟨1, ((S q).length : Int)⟩ r7, s + 10, 1, tr'⟩ := by
  have st := ZvY m1 cl (by rw [c1]; show ¬ (1 : Int) = 3; decide) (f := 1) (by rw [c1]; show 1 < 2; decide) (by decide) (by rw [c1]; show 2 ≤ 100000; decide) (v := ⟨1, x⟩) (by rw [c1]; exact ⟨fun c => absurd c (by show ¬ (1 : Int) = 2; decide), fun _ => by show ¬ Int.tmod (1 / 2 ^ 1) 2 = 1; decide⟩) t (ZzX m1 cl (by rw [c1]) (by rw [c1])) (.inl rfl);rw [c1, Z1M] at st;rcases hx with ⟨rfl, rfl⟩ | ⟨rfl, rfl⟩
  ·exact Ziu (by omega) (by omega) (i := ⟨14, 4, 1, 1⟩) (hw 4 (by decide)) (.inr (.inl rfl)) (ZmO rfl (by decide) (by decide) (x := ⟨2, id⟩) rfl (v := ⟨1, x⟩) rfl st)
  ·exact Ziu (by omega) (by omega) (i := ⟨14, 4, 1, 7⟩) (hw 4 (by decide)) (.inr (.inl rfl)) (ZmO rfl (by decide) (by decide) (x := ⟨2, id⟩) rfl (v := ⟨1, x⟩) rfl st)
 have m2 : Mo (O ++ [⟨2, id, gn, 2, 1, 1, t, [⟨2, 0⟩, ⟨1, x⟩]⟩]) := Q.m.app (by omega) rfl hv hid;generalize hO2 : O ++ [(⟨2, id, gn, 2, 1, 1, t, [⟨2, 0⟩, ⟨1, x⟩]⟩ : RJ)] = O2 at g4 m2;have c2 : ob O2 O.length = ⟨2, id, gn, 2, 1, 1, t, [⟨2, 0⟩, ⟨1, x⟩]⟩ := by rw [← hO2]; exact ZmP _ _
 have o2 : ∀ j, j < O.length → ob O2 j = ob O j := fun j hj => by rw [← hO2]; exact ZkY hj
 have l2 : O2.length = O.length + 1 := by rw [← hO2, List.length_append, List.length_cons, List.length_nil]
 have ln := Q.ln;have z2 : ob O2 0 = ob O 0 := o2 0 ln;have rt2 : Rt O2 := ⟨m2, by omega, by rw [z2]; exact Q.r1, by rw [z2]; exact Q.r4, by rw [z2]; exact Q.r5, by rw [z2]; exact Q.r7⟩
 have g5 := ZtY (t := t) (O0 := O0) (R0 := R0) (p0 := p0) (E := E) (W := W) (mt := mt) (L := L) (R := q8 r1 ⟨1, m⟩ ⟨2, id⟩ ⟨1, 1⟩ ⟨1, ((S q).length : Int)⟩ r7) (u := 1) (tr := tr') rt2.same (p := s + 10) (by omega) (by omega) (a := 5) (f := 2 * q + 1) (hw 5 (by decide)) rfl rfl (by decide) (by omega);rw [z2, Q.tl q q0 q3] at g5;have hch := Q.ch q q0 q3;have d := Zqj (⟨2, 1048577⟩) r1 (⟨1, m⟩) (⟨1, 1⟩) ⟨2, id⟩ (lsR O (I q)) ⟨1, ((S q).length : Int)⟩ r7 (p := s + 11) (by omega) (.inr rfl) (reg := 5) (g := (s : Int) + 14) rfl (by omega) (by omega);have cl2 : O.length < O2.length := by omega
 -- it is hung on the last one, or on the root
 have g6 : ∃ k O3, k ≤ 3 ∧ Go1 L t O0 R0 p0 E W mt k ⟨O2, q8 r1 ⟨1, m⟩ ⟨2, id⟩ (lsR O (I q)) ⟨1, ((S q).length : Int)⟩ r7, s + 11, 1, tr'⟩ ⟨O3, q8 r1 ⟨1, m⟩ ⟨2, id⟩ (lsR O (I q)) ⟨1, ((S q).length : Int)⟩ r7, s + 15, 1, tr'⟩ ∧ Rt O3 ∧ O3.length = O.length + 1 ∧ ob O3 O.length = ⟨2, id, gn, 2, 1, 2, t, [⟨2, 0⟩, ⟨1, x⟩]⟩ ∧ (∀ f, f < 16 → (ob O3 0).a7.getD f RG.z = if f = (2 * q).toNat ∧ I q = [] then ⟨2, id⟩ else (ob O 0).a7.getD f RG.z) ∧ (∀ j, j < O.length → (ob O3 j).a1 = (ob O j).a1) ∧ (∀ j, 1 ≤ j → j < O.length → (¬ (I q).getLast? = some j → ob O3 j = ob O j) ∧ ((I q).getLast? = some j → ob O3 j = { ob O j with a7 := (ob O j).a7.set 0 ⟨2, id⟩ })) := by
  have lx : Lz ⟨2, 0⟩ := .inr rfl;have ly : Lz ⟨1, x⟩ := .inl rfl;by_cases hI : I q = []
  ·rw [hI] at d ⊢
   rw [if_pos (.inl ⟨rfl, rfl⟩)] at d;have a := ZdA (t := t) (O0 := O0) (R0 := R0) (p0 := p0) (E := E) (W := W) (mt := mt) (O := O2) (u := 1) (tr := tr') (p := s + 11) (by omega) (by omega) (i := ⟨9, 5, (s : Int) + 14, 0⟩) (hw 6 (by decide)) op9 (q := s + 14) (ZdB ne9 d);have st := ZvZ m2 (i := 0) (j := O.length) (by omega) cl2 (by omega) (by rw [z2, Q.r5]; decide) (f := (2 * q).toNat) (by rw [z2, Q.r7]; omega) (by omega) (by rw [z2, Q.r7]; decide) (by rw [z2, Q.r4]; exact Zqk (by omega) _) t (Zka m2 (by omega) (by rw [z2, Q.r5]) t) (by rw [c2]) (by rw [c2]) (by rw [c2]) lx ly;rw [c2, z2, Q.r1, show (((2 * q).toNat : Nat) : Int) = 2 * q by omega] at st;have b := Ziu (L := L) (t := t) (O0 := O0) (R0 := R0) (p0 := p0) (E := E) (W := W) (mt := mt) (u := 1) (tr := tr') (p := s + 14) (by omega) (by omega) (i := ⟨14, 0, 2 * q, 4⟩) (hw 9 (by decide)) (.inr (.inl rfl)) (ZmO (R := q8 r1 ⟨1, m⟩ ⟨2, id⟩ (lsR O []) ⟨1, ((S q).length : Int)⟩ r7) rfl ⟨Int.le_refl 0, by show 0 < 8; decide⟩ ⟨by show (0 : Int) ≤ 4; decide, by show 4 < 8; decide⟩ (x := ⟨2, 1048577⟩) rfl (v := ⟨2, id⟩) rfl st);refine ⟨2, _, by omega, a.trans b, ?_, by rw [List.length_set, List.length_set]; exact l2, by rw [ob, Zbv (by rw [List.length_set]; omega)], fun f hf => ?_, fun j hj => ?_, fun j j1 hj => ⟨fun _ => ?_, fun c => by cases c⟩⟩
   ·have w := rt2.put (2 * q).toNat ⟨2, id⟩
    have e0 : ∀ y, ob ((O2.set 0 { ob O 0 with a7 := (ob O 0).a7.set (2 * q).toNat ⟨2, id⟩ }).set O.length y) 0 = { ob O 0 with a7 := (ob O 0).a7.set (2 * q).toNat ⟨2, id⟩ } := fun y => by rw [ob, ZN (by omega), Zbv (by omega)]
    refine ⟨?_, by rw [List.length_set, List.length_set]; omega, by rw [e0]; exact Q.r1, by rw [e0]; exact Q.r4, by rw [e0]; exact Q.r5, by rw [e0]; show ((ob O 0).a7.set _ _).length = 16; rw [List.length_set]; exact Q.r7⟩;have m3 : Mo (O2.set 0 { ob O 0 with a7 := (ob O 0).a7.set (2 * q).toNat ⟨2, id⟩ }) := m2.set (by rw [z2]) (by rw [z2]);exact m3.set (by rw [ob, ZN (by omega)]; exact (congrArg (·.a0) c2).symm) (by rw [ob, ZN (by omega)]; exact (congrArg (·.a1) c2).symm)
   ·rw [ob, ZN (by omega), Zbv (by omega)]
    show ((ob O 0).a7.set _ _).getD f RG.z = _;rw [Zs4 (by rw [Q.r7]; omega)];by_cases c : f = (2 * q).toNat
    ·rw [if_pos c, if_pos ⟨c, rfl⟩]
    ·rw [if_neg c, if_neg (fun e => c e.1)]
   ·rw [ob, ZN (by omega)]
    by_cases c : j = 0
    ·subst c; rw [Zbv (by omega)]
    ·rw [ZN (by omega)]; exact congrArg (·.a1) (o2 j hj)
   ·rw [ob, ZN (by omega), ZN (by omega)]; exact o2 j hj
  ·obtain ⟨k, k1, k2, k3⟩ := ZnD hch hI
   obtain ⟨kk1, kk2, kk5⟩ := hch.mem k k1;have kl : (I q).getLast? = some k := by rw [k3, List.getLast?_append]; rfl
   have ka : (ob O k).a4 = 1 ∧ ∃ y z, (ob O k).a7 = [y, z] := by
    have go : ∀ {l : List Nat} {w : List Int}, Ch O l w → ∀ i ∈ l, (ob O i).a4 = 1 ∧ ∃ y z, (ob O i).a7 = [y, z] := by
     intro l
     induction l with
     | nil => intro w _ i hi; cases hi
     | cons a l ih =>
      intro w hc i hi;cases w with
      | nil => exact hc.elim
      | cons v w =>
       rcases List.mem_cons.1 hi with rfl | hi
       ·exact ⟨hc.1.2.2.2.1, _, _, hc.1.2.2.2.2⟩
       ·exact ih hc.2 i hi
    exact go hch k k1
   obtain ⟨ka4, y, z, ka7⟩ := ka;have e2 := o2 k kk2;rw [k2] at d ⊢;rw [if_neg (by rintro (⟨_, c⟩ | ⟨c, _⟩); exact (Q.m.v k kk2).ne c; exact absurd c (by show ¬ (2 : Int) = 1; decide))] at d;have a := ZdA (t := t) (O0 := O0) (R0 := R0) (p0 := p0) (E := E) (W := W) (mt := mt) (O := O2) (u := 1) (tr := tr') (p := s + 11) (by omega) (by omega) (i := ⟨9, 5, (s : Int) + 14, 0⟩) (hw 6 (by decide)) op9 (q := s + 12) (ZdB ne9 d);have st := ZvZ m2 (i := k) (j := O.length) (by omega) cl2 (by omega) (by rw [e2, kk5]; decide) (f := 0) (by rw [e2, ka7]; show 0 < 2; decide) (by omega) (by rw [e2, ka7]; show 2 ≤ 100000; decide) (by rw [e2, ka4]; exact ⟨fun _ => by decide, fun c => absurd rfl c⟩) t (Zka m2 (by omega) (by rw [e2, kk5]) t) (by rw [c2]) (by rw [c2]) (by rw [c2]) lx ly;rw [c2, e2] at st;have b := Ziu (L := L) (t := t) (O0 := O0) (R0 := R0) (p0 := p0) (E := E) (W := W) (mt := mt) (u := 1) (tr := tr') (p := s + 12) (by omega) (by omega) (i := ⟨14, 5, 0, 4⟩) (hw 7 (by decide)) (.inr (.inl rfl)) (ZmO (R := q8 r1 ⟨1, m⟩ ⟨2, id⟩ (rf O k) ⟨1, ((S q).length : Int)⟩ r7) rfl (by decide) (by decide) (x := rf O k) rfl (v := ⟨2, id⟩) rfl st);have c := ZdA (t := t) (O0 := O0) (R0 := R0) (p0 := p0) (E := E) (W := W) (mt := mt) (O := (O2.set k { ob O k with a7 := (ob O k).a7.set 0 ⟨2, id⟩ }).set O.length ⟨2, id, gn, 2, 1, 2, t, [⟨2, 0⟩, ⟨1, x⟩]⟩) (R := q8 r1 ⟨1, m⟩ ⟨2, id⟩ (rf O k) ⟨1, ((S q).length : Int)⟩ r7) (u := 1) (tr := tr') (p := s + 13) (by omega) (by omega) (i := ⟨8, (s : Int) + 15, 0, 0⟩) (hw 8 (by decide)) op8 (q := s + 15) (ZdB ne8 (Z2S (g := (s : Int) + 15) _ _ _ _ _ _ _ _ (by omega) (by omega) (by omega)));have e0 : ∀ w y, ob ((O2.set k w).set O.length y) 0 = ob O 0 := fun w y => by rw [ob, ZN (by omega), ZN (by omega)]; exact z2
   refine ⟨3, _, by omega, (a.trans b).trans c, ?_, by rw [List.length_set, List.length_set]; exact l2, by rw [ob, Zbv (by rw [List.length_set]; omega)], fun f hf => ?_, fun j hj => ?_, fun j j1 hj => ⟨fun e => ?_, fun e => ?_⟩⟩
   ·refine ⟨?_, by rw [List.length_set, List.length_set]; omega, by rw [e0]; exact Q.r1, by rw [e0]; exact Q.r4, by rw [e0]; exact Q.r5, by rw [e0]; exact Q.r7⟩
    have m3 : Mo (O2.set k { ob O k with a7 := (ob O k).a7.set 0 ⟨2, id⟩ }) := m2.set (by rw [e2]) (by rw [e2]);exact m3.set (by rw [ob, ZN (by omega)]; exact (congrArg (·.a0) c2).symm) (by rw [ob, ZN (by omega)]; exact (congrArg (·.a1) c2).symm)
   ·rw [e0, if_neg (fun e => hI e.2)]
   ·rw [ob, ZN (by omega)]
    by_cases c : k = j
    ·subst c; rw [Zbv (by omega)]
    ·rw [ZN c]; exact congrArg (·.a1) (o2 j hj)
   ·rw [ob, ZN (by omega), ZN (fun c => e (by rw [kl, c]))]; exact o2 j hj
   ·rw [kl] at e
    obtain rfl := Option.some.inj e;rw [ob, ZN (by omega), Zbv (by omega)]
 obtain ⟨k6, O3, hk6, g6, rt3, l3, c3, f3, n3, o3⟩ := g6;have ld3 : Ld O3 ⟨2, id⟩ := .inr (.inr ⟨O.length, by omega, by rw [c3], by rw [c3]⟩);have g7 : Go1 L t O0 R0 p0 E W mt 1 ⟨O3, q8 r1 ⟨1, m⟩ ⟨2, id⟩ (lsR O (I q)) ⟨1, ((S q).length : Int)⟩ r7, s + 15, 1, tr'⟩ ⟨rs O3 (2 * q + 1).toNat ⟨2, id⟩, q8 r1 ⟨1, m⟩ ⟨2, id⟩ (lsR O (I q)) ⟨1, ((S q).length : Int)⟩ r7, s + 16, 1, tr'⟩ :=
  ZpW rt3 (by omega) (by omega) (c := 4) (f := 2 * q + 1) (hw 10 (by decide)) rfl rfl (by decide) (by omega) rfl (Zqk (by omega) _) ld3
 have g8 : Go1 L t O0 R0 p0 E W mt 1 ⟨rs O3 (2 * q + 1).toNat ⟨2, id⟩, q8 r1 ⟨1, m⟩ ⟨2, id⟩ (lsR O (I q)) ⟨1, ((S q).length : Int)⟩ r7, s + 16, 1, tr'⟩ ⟨rs O3 (2 * q + 1).toNat ⟨2, id⟩, q8 r1 ⟨1, m⟩ ⟨2, id⟩ (lsR O (I q)) ⟨1, ((S q).length : Int) + 1⟩ r7, s + 17, 1, tr'⟩ :=
  ZdA (by omega) (by omega) (i := ⟨4, 6, 6, 3⟩) (hw 11 (by decide)) (by decide) (q := s + 17) (ZdB (by decide) (Z60 _ _ _ _ _ _ (by omega) (by omega) (by omega)))
 have w4 := rt3.same.put (f := (2 * q + 1).toNat) (by omega) ⟨2, id⟩;have g9 : Go1 L t O0 R0 p0 E W mt 1 ⟨rs O3 (2 * q + 1).toNat ⟨2, id⟩, q8 r1 ⟨1, m⟩ ⟨2, id⟩ (lsR O (I q)) ⟨1, ((S q).length : Int) + 1⟩ r7, s + 17, 1, tr'⟩ ⟨rs (rs O3 (2 * q + 1).toNat ⟨2, id⟩) (8 + q).toNat ⟨1, ((S q).length : Int) + 1⟩, q8 r1 ⟨1, m⟩ ⟨2, id⟩ (lsR O (I q)) ⟨1, ((S q).length : Int) + 1⟩ r7, s + 18, 1, tr'⟩ :=
  ZpW w4.rt (by omega) (by omega) (c := 6) (f := 8 + q) (hw 12 (by decide)) rfl rfl (by decide) (by omega) rfl (Z1L (by omega) (by omega) _) (.inl rfl)
 have w5 := w4.put (f := (8 + q).toNat) (by omega) ⟨1, ((S q).length : Int) + 1⟩;generalize rs (rs O3 (2 * q + 1).toNat ⟨2, id⟩) (8 + q).toNat ⟨1, ((S q).length : Int) + 1⟩ = O5 at g9 w5;have g10 : Go1 L t O0 R0 p0 E W mt 1 ⟨O5, q8 r1 ⟨1, m⟩ ⟨2, id⟩ (lsR O (I q)) ⟨1, ((S q).length : Int) + 1⟩ r7, s + 18, 1, tr'⟩ ⟨O5, q8 r1 ⟨1, m⟩ ⟨2, id⟩ (lsR O (I q)) ⟨1, ((S q).length : Int) + 1⟩ r7, s + 20, 1, tr'⟩ :=
  ZdA (by omega) (by omega) (i := ⟨8, (s : Int) + 20, 0, 0⟩) (hw 13 (by decide)) op8 (q := s + 20) (ZdB ne8 (Z2S (g := (s : Int) + 20) _ _ _ _ _ _ _ _ (by omega) (by omega) (by omega)))
 have c5 : ob O5 O.length = ⟨2, id, gn, 2, 1, 2, t, [⟨2, 0⟩, ⟨1, x⟩]⟩ := by rw [w5.nd _ (by omega), c3]
 have n5 : ∀ j, j < O.length → (ob O5 j).a1 = (ob O j).a1 := fun j hj => by
  cases j with
  | zero => rw [w5.rt.r1, Q.r1]
  | succ j => rw [w5.nd _ (by omega)]; exact n3 _ hj
 have rc : rf O5 O.length = ⟨2, id⟩ := by show (⟨2, (ob O5 O.length).a1⟩ : RG) = _; rw [c5]
 have l5 : O5.length = O.length + 1 := by rw [w5.len, l3]
 have lt : ∀ p, 0 ≤ p → p ≤ 3 → ∀ j ∈ I p, 1 ≤ j ∧ j < O.length := fun p p0 p3 j hj => ⟨((Q.ch p p0 p3).mem j hj).1, ((Q.ch p p0 p3).mem j hj).2.1⟩
 have lastq : ∀ j, (I q).getLast? = some j → j ∈ I q := fun j hj => List.mem_of_getLast? hj;refine ⟨2 + 1 + 1 + 1 + 1 + k6 + 1 + 1 + 1 + 1, O5, by omega, ((((((((g1.trans g2).trans g3).trans g4).trans g5).trans g6).trans g7).trans g8).trans g9).trans g10, ?_, l5, n5, by rw [c5]⟩;refine ⟨w5.rt.m, w5.rt.ln, w5.rt.r1, w5.rt.r4, w5.rt.r5, w5.rt.r7, fun p p0 p3 => ?_, fun p p0 p3 => ?_, fun p p0 p3 => ?_, fun p p0 p3 => ?_, fun p p' p0 p3 p0' p3' j hj hj' => ?_, fun p p0 p3 => ?_⟩
 ·rw [w5.fl _ (by omega), if_neg (by omega), if_neg (by omega), f3 _ (by omega)]
  by_cases c : p = q
  ·subst c
   rw [ZdH, Z4X];by_cases e : I p = []
   ·rw [if_pos ⟨rfl, e⟩, if_pos e, rc]
   ·rw [if_neg (fun h => e h.2), if_neg e, Q.hd p p0 p3]
    exact (ZpV fun j hj => n5 j (lt p p0 p3 j hj).2).symm
  ·rw [if_neg (fun h => c (by omega)), ZfW c, Q.hd p p0 p3]
   exact (ZpV fun j hj => n5 j (lt p p0 p3 j hj).2).symm
 ·rw [w5.fl _ (by omega), if_neg (by omega)]
  by_cases c : p = q
  ·subst c; rw [if_pos rfl, ZdH, ZzZ, rc]
  ·rw [if_neg (by omega), f3 _ (by omega), if_neg (fun h => by omega), ZfW c, Q.tl p p0 p3]
   exact (ZtX fun j hj => n5 j (lt p p0 p3 j hj).2).symm
 ·rw [w5.fl _ (by omega)]
  by_cases c : p = q
  ·subst c; rw [if_pos rfl, ZdH, List.length_append, List.length_cons, List.length_nil]; rfl
  ·rw [if_neg (by omega), if_neg (by omega), f3 _ (by omega), if_neg (fun h => by omega), ZfW c, Q.ct p p0 p3]
 ·by_cases c : p = q
  ·subst c
   rw [ZdH, ZdH];refine hch.snoc (by omega) (by rw [c5]; exact ⟨Q.ln, by omega, rfl, rfl, rfl⟩) (fun j hj => n5 j (lt p p0 p3 j hj).2) (fun j hj => ?_) (fun j hj => ?_)
   ·have hj' := List.dropLast_subset _ hj
    obtain ⟨j1, j2⟩ := lt p p0 p3 j hj';rw [w5.nd j j1];refine (o3 j j1 j2).1 fun e => ?_;obtain ⟨k, k1, k2, k3⟩ := ZnD hch (List.ne_nil_of_mem hj');have nod := Q.nd p p0 p3;rw [k3] at e nod;rw [List.getLast?_append] at e;obtain rfl : k = j := by simpa using e
    exact (List.nodup_append.1 nod).2.2 k hj k List.mem_cons_self rfl
   ·obtain ⟨j1, j2⟩ := lt p p0 p3 j (lastq j hj)
    rw [w5.nd j j1, rc];exact (o3 j j1 j2).2 hj
  ·rw [ZfW c, ZfW c]
   refine (Q.ch p p0 p3).mono (by omega) fun j hj => ?_;obtain ⟨j1, j2⟩ := lt p p0 p3 j hj;rw [w5.nd j j1];exact (o3 j j1 j2).1 fun e => c (Q.dj p q p0 p3 q0 q3 j hj (lastq j e))
 ·have hh : ∀ p, 0 ≤ p → p ≤ 3 → ∀ j, j ∈ ud I q (I q ++ [O.length]) p → j ∈ I p ∨ (j = O.length ∧ p = q) := fun p _ _ j hj => by
   by_cases c : p = q
   ·subst c; rw [ZdH] at hj
    rcases List.mem_append.1 hj with h | h
    ·exact .inl h
    ·rw [List.mem_singleton] at h; exact .inr ⟨h, rfl⟩
   ·rw [ZfW c] at hj; exact .inl hj
  rcases hh p p0 p3 j hj with h1 | ⟨h1, e1⟩ <;> rcases hh p' p0' p3' j hj' with h2 | ⟨h2, e2⟩
  ·exact Q.dj p p' p0 p3 p0' p3' j h1 h2
  ·have := (lt p p0 p3 j h1).2; omega
  ·have := (lt p' p0' p3' j h2).2; omega
  ·rw [e1, e2]
 ·by_cases c : p = q
  ·subst c
   rw [ZdH];refine List.nodup_append.2 ⟨Q.nd p p0 p3, by simp, fun a ha b hb => ?_⟩;rw [List.mem_singleton] at hb;have := (lt p p0 p3 a ha).2;omega
  ·rw [ZfW c]; exact Q.nd p p0 p3
end
def Zf6 (S : Int → List Int) (x : Pc) : Option ((Int → List Int) × Int × Bool) := match x.d with
 | .put => if ((S x.q).length : Int) < x.m then some (ud S x.q (S x.q ++ [x.n]), 1, true) else none
 | .take => match S x.q with
  | [] => none
  | v :: w => some (ud S x.q w, v, false)
 | .try' => match S x.q with
  | [] => some (S, x.n, false)
  | v :: w => some (ud S x.q w, v, false)
 | .pass => match S x.q with
  | [] => none
  | v :: w => if ((ud S x.q w x.to).length : Int) < x.m then some (ud (ud S x.q w) x.to (ud S x.q w x.to ++ [v]), v, true) else none
def Pc.h1 (x : Pc) : Int := match x.d with
 | .put => x.n
 | .take => 0
 | .try' => x.n
 | .pass => 0
def Pc.h2 (x : Pc) : Int := match x.d with
 | .put => x.m
 | .take => 0
 | .try' => 0
 | .pass => x.m
structure PcOk (x : Pc) : Prop where
 q : x.q = 0 ∨ x.q = 1 ∨ x.q = 2 ∨ x.q = 3
 to : x.to = 0 ∨ x.to = 1 ∨ x.to = 2 ∨ x.to = 3
 n0 : 0 ≤ x.n
 n1 : x.n ≤ 255
 m : x.m = 1 ∨ x.m = 2 ∨ x.m = 3
structure Wn (L : List RI) (M : List Int) (x : Pc) (s : Nat) : Prop where
 w : ∀ j, j < x.d.len → L.getD (s + j) RI.z = (pcs x s).getD j RI.z
 l : s + x.d.len ≤ L.length
 s4 : s < 430
 mt : Zby L 100000 = some (.r1 M)
 ml : M.length = L.length
 mb : ∀ i, i < L.length → (L.getD i RI.z).a0 = 15 → 0 ≤ M.getD i 0 ∧ M.getD i 0 < (L.length : Int)
 n16 : ∀ i, i < L.length → ¬ (L.getD i RI.z).a0 = 16
structure Nx (O : List RJ) (W : List RG) (id tr : Int) : Prop where
 nx : ∀ (O1 : List RJ) (R : List RG) (p : Int) (E : List RG), O1.length = O.length → (∀ j, (ob O1 j).a1 = (ob O j).a1) → ZcJ O1 R p E 0 0 W 100000 = some (.r0 2 id tr)
 vd : Vd id
 nw : ∀ j, j < O.length → ¬ (ob O j).a1 = id
section
variable {L : List RI} {M : List Int} {x : Pc} {s : Nat} (H : Wn L M x s) {t : Int} {O : List RJ} {R : List RG} {E W : List RG}
include H
theorem Wn.at4 : L.getD (s + 4) RI.z = ⟨15, 0, 0, 0⟩ := by
 have l4 : 4 < x.d.len := by cases x.d <;> decide
 rw [H.w 4 l4];obtain ⟨d, q, to, n, m⟩ := x;cases d <;> rfl
theorem Z3N {k : Nat} (hk : k ≤ 100) {a : Sx} {O' : List RJ} {R' : List RG} {p u tr : Int} {b : Bool} (h : Go1 L t O R ((s + 4 : Nat) : Int) E W M k ⟨O, R, s + 5, 0, 0⟩ a) (g : Z4T L t O R ((s + 4 : Nat) : Int) E W M a fun w => .r0 O' R' p u tr b w) : ZaQ L t O R ((s + 4 : Nat) : Int) E 0 0 W 100000 = some (.r0 O' R' p u tr b) := by
 obtain ⟨r1, a1, a2, e1⟩ := h 2097150000 1 (99999 - k) (by omega) (by omega) (by omega);obtain ⟨r2, e2⟩ := g r1 (1 + k) (99998 - k) (by omega) (by omega) (by omega);have hb : ZfL L t O R ((s + 4 : Nat) : Int) E 0 0 W 2097152000 100000 = some (.r0 O' R' p u tr b r2) := by
  unfold ZfL;refine (ZaB (x := (.h1m0 M : ref20_blockX)) ?_).trans ((Zo (n := 99999) (y := mk1 M 2097150000 1 ⟨O, R, s + 5, 0, 0⟩) ?_).trans ?_)
  ·unfold Zhg
   rw [H.mt];rfl
  ·refine Eq.trans (show _ = Zeo L t O R ((s + 4 : Nat) : Int) E 0 0 W 2097152000 100000 M from rfl) ?_
   have l4 : s + 4 < L.length := by
    have := H.l;have l4 : 4 < x.d.len := by cases x.d <;> decide
    omega
   have h4 := H.s4;unfold Zeo;rw [if_pos (by omega), if_pos (by rw [Int.toNat_natCast]; exact l4)];rw [Int.toNat_natCast, H.at4, if_neg (by decide), if_neg (by decide), if_neg (by decide), if_neg (by decide), if_neg (by decide), if_pos rfl];show (if IntKind.i64.wrap (2097152000 - 2000) < 0 then _ else _) = _;rw [if_neg (by decide)];have wp : IntKind.i64.wrap (((s + 4 : Nat) : Int) + 1) = ((s + 5 : Nat) : Int) := by rw [w64 (by omega) (by omega)]; omega
   rw [wp];rfl
  ·rw [show 99999 = 99999 - k + k by omega, e1, show 99999 - k = 99998 - k + 1 by omega]
   exact e2
 unfold ZaQ;rw [hb];rfl
theorem ZnE {k : Nat} (hk : k ≤ 100) {a : Sx} (ha : a.p < L.length) (ha5 : a.p < 500) (e : L.getD a.p RI.z = ⟨18, 0, 0, 0⟩) (h : Go1 L t O R ((s + 4 : Nat) : Int) E W M k ⟨O, R, s + 5, 0, 0⟩ a) : ∃ O' R' p u tr, ZaQ L t O R ((s + 4 : Nat) : Int) E 0 0 W 100000 = some (.r0 O' R' p u tr false) := by
 obtain ⟨O', R', p, u, tr⟩ := a;have l4 : s + 4 < L.length := by
  have := H.l;have l4 : 4 < x.d.len := by cases x.d <;> decide
  omega
 exact ⟨_, _, _, _, _, Z3N H hk h (Z4U ha ha5 e rfl rfl (by rw [H.ml]; exact l4) (H.mb _ l4 (by rw [H.at4])) H.n16)⟩
theorem ZmQ {k : Nat} (hk : k ≤ 100) {O' : List RJ} {R' : List RG} {p : Nat} {u tr : Int} (ha : p < L.length) (ha5 : p < 500) (e : L.getD p RI.z = ⟨17, 0, 0, 0⟩) (h : Go1 L t O R ((s + 4 : Nat) : Int) E W M k ⟨O, R, s + 5, 0, 0⟩ ⟨O', R', p, u, tr⟩) : ZaQ L t O R ((s + 4 : Nat) : Int) E 0 0 W 100000 = some (.r0 O' R' ((p + 1 : Nat) : Int) u tr true) :=
 Z3N H hk h (Z6z ha ha5 e rfl)
end
def ZfX (L : List RI) (t : Int) (O : List RJ) (R : List RG) (S : Int → List Int) (E W : List RG) (id tr' : Int) (x : Pc) (s : Nat) : Prop := match Zf6 S x with
 | none => ∃ O' R' p u tr, ZaQ L t O R ((s + 4 : Nat) : Int) E 0 0 W 100000 = some (.r0 O' R' p u tr false)
 | some (S', v, b) => ∃ O' I' r1 r2 r4 r5 r6, ZaQ L t O R ((s + 4 : Nat) : Int) E 0 0 W 100000 = some (.r0 O' (q8 r1 r2 r4 r5 r6 ⟨1, v⟩) ((s + x.d.len : Nat) : Int) (if b then 1 else 0) (if b then tr' else 0) true) ∧ Qs O' I' S' ∧ O'.length = O.length + (if b then 1 else 0) ∧ (∀ j, j < O.length → (ob O' j).a1 = (ob O j).a1) ∧ (b = true → (ob O' O.length).a1 = id)
section
variable {L : List RI} {M : List Int} {x : Pc} {s : Nat} (H : Wn L M x s) (P : PcOk x) {t : Int} {O : List RJ} {I : Int → List Nat} {S : Int → List Int} (Q : Qs O I S) (hS : ∀ q, (S q).length < 900) (hO : O.length < 900) {W : List RG} {id tr' : Int} (X : Nx O W id tr') (E : List RG) (r4 r5 r6 r7 : RG)
include H P Q hS hO X
theorem Z5N (hd : x.d = .put) : ZfX L t O (q8 ⟨1, x.h1⟩ ⟨1, x.h2⟩ r4 r5 r6 r7) S E W id tr' x s := by
 obtain ⟨d, q, to, n, m⟩ := x;subst hd;have q0 : 0 ≤ q := by have := P.q; dsimp only at this; omega
 have q3 : q ≤ 3 := by have := P.q; dsimp only at this; omega
 have hl := H.l;have h4 := H.s4;have len : (⟨.put, q, to, n, m⟩ : Pc).d.len = 22 := rfl;rw [len] at hl;have hw : ∀ j, j < 15 → L.getD (s + 5 + j) RI.z = (adP q s 1).getD j RI.z := fun j hj => by rw [show s + 5 + j = s + (j + 5) by omega, H.w (j + 5) (by rw [len]; omega)];exact Zdc (L := adP q s 1) (by exact hj)
 unfold ZfX Zf6;dsimp only;by_cases c : ((S q).length : Int) < m
 ·rw [if_pos c]
  dsimp only;obtain ⟨k, O', hk, g, Q', l', n', i'⟩ := Z1N (t := t) (O0 := O) (R0 := q8 ⟨1, n⟩ ⟨1, m⟩ r4 r5 r6 r7) (p0 := ((s + 4 : Nat) : Int)) (E := E) (W := W) (mt := M) Q q0 q3 hw (by omega) (by omega) ⟨1, n⟩ r4 r5 r6 r7 c hO (hS q) (fun R p E => X.nx O R p E rfl fun _ => rfl) X.vd X.nw (x := n) (.inl ⟨rfl, rfl⟩);have g2 := ZdA (L := L) (t := t) (O0 := O) (R0 := q8 ⟨1, n⟩ ⟨1, m⟩ r4 r5 r6 r7) (p0 := ((s + 4 : Nat) : Int)) (E := E) (W := W) (mt := M) (O := O') (R := q8 ⟨1, n⟩ ⟨1, m⟩ ⟨2, id⟩ (lsR O (I q)) ⟨1, ((S q).length : Int) + 1⟩ r7) (u := 1) (tr := tr') (p := s + 20) (by omega) (by omega) (i := ⟨1, 7, 1, 0⟩) (H.w 20 (by rw [len]; omega)) op1 (ZdB ne1 (Z5p _ _ _ _ _ _ _ _ (by omega) (by decide) (by decide)));exact ⟨O', _, _, _, _, _, _, ZmQ H (by omega) (p := s + 21) (by omega) (by omega) (H.w 21 (by rw [len]; omega)) (g.trans g2), Q', l', n', fun _ => i'⟩
 ·rw [if_neg c]
  exact ZnE H (by decide : 3 ≤ 100) (a := ⟨_, _, s + 19, _, _⟩) (by show s + 19 < _; omega) (by show s + 19 < _; omega) (hw 14 (by decide)) (Z0a Q q0 q3 hw (by omega) (by omega) ⟨1, n⟩ r4 r5 r6 r7 c)
theorem Z4Y (hd : x.d = .take) : ZfX L t O (q8 ⟨1, x.h1⟩ ⟨1, x.h2⟩ r4 r5 r6 r7) S E W id tr' x s := by
 obtain ⟨d, q, to, n, m⟩ := x;subst hd;have q0 : 0 ≤ q := by have := P.q; dsimp only at this; omega
 have q3 : q ≤ 3 := by have := P.q; dsimp only at this; omega
 have hl := H.l;have h4 := H.s4;have len : (⟨.take, q, to, n, m⟩ : Pc).d.len = 20 := rfl;rw [len] at hl;have hw : ∀ j, j < 14 → L.getD (s + 5 + j) RI.z = (tkP q s ⟨18, 0, 0, 0⟩).getD j RI.z := fun j hj => by rw [show s + 5 + j = s + (j + 5) by omega, H.w (j + 5) (by rw [len]; omega)];exact Zdc (L := tkP q s ⟨18, 0, 0, 0⟩) (by exact hj)
 have hch := (Q.ch q q0 q3).len;unfold ZfX Zf6;dsimp only;cases c : S q with
 | nil =>
  rw [c] at hch;exact ZnE H (by decide : 2 ≤ 100) (a := ⟨_, _, s + 18, _, _⟩) (by show s + 18 < _; omega) (by show s + 18 < _; omega) (hw 13 (by decide)) (ZpX Q q0 q3 hw (by omega) (by omega) _ _ r4 r5 r6 r7 (List.eq_nil_of_length_eq_zero hch))
 | cons v w =>
  rw [c] at hch;cases ci : I q with
  | nil => rw [ci] at hch; cases hch
  | cons i r =>
   obtain ⟨k, O', hk, g, Q', l', n'⟩ := Zs7 (t := t) (O0 := O) (R0 := q8 ⟨1, 0⟩ ⟨1, 0⟩ r4 r5 r6 r7) (p0 := ((s + 4 : Nat) : Int)) (E := E) (W := W) (mt := M) Q q0 q3 hw (by omega) (by omega) ⟨1, 0⟩ ⟨1, 0⟩ r4 r5 r6 r7 (u := 0) (tr := 0) ci c (hS q);exact ⟨O', _, _, _, _, _, _, ZmQ H (by omega) (p := s + 19) (by omega) (by omega) (H.w 19 (by rw [len]; omega)) g, Q', l', fun j _ => n' j, fun c => by cases c⟩
theorem Z5O (hd : x.d = .try') : ZfX L t O (q8 ⟨1, x.h1⟩ ⟨1, x.h2⟩ r4 r5 r6 r7) S E W id tr' x s := by
 obtain ⟨d, q, to, n, m⟩ := x;subst hd;have q0 : 0 ≤ q := by have := P.q; dsimp only at this; omega
 have q3 : q ≤ 3 := by have := P.q; dsimp only at this; omega
 have n0 : 0 ≤ n := P.n0;have n1 : n ≤ 255 := P.n1;have hl := H.l;have h4 := H.s4;have len : (⟨.try', q, to, n, m⟩ : Pc).d.len = 20 := rfl;rw [len] at hl;have hw : ∀ j, j < 14 → L.getD (s + 5 + j) RI.z = (tkP q s ⟨1, 7, n, 0⟩).getD j RI.z := fun j hj => by rw [show s + 5 + j = s + (j + 5) by omega, H.w (j + 5) (by rw [len]; omega)];exact Zdc (L := tkP q s ⟨1, 7, n, 0⟩) (by exact hj)
 have hch := (Q.ch q q0 q3).len;unfold ZfX Zf6;dsimp only;cases c : S q with
 | nil =>
  rw [c] at hch;have g := ZpX (t := t) (O0 := O) (R0 := q8 ⟨1, n⟩ ⟨1, 0⟩ r4 r5 r6 r7) (p0 := ((s + 4 : Nat) : Int)) (E := E) (W := W) (mt := M) Q q0 q3 hw (by omega) (by omega) ⟨1, n⟩ ⟨1, 0⟩ r4 r5 r6 r7 (u := 0) (tr := 0) (List.eq_nil_of_length_eq_zero hch);have g2 := ZdA (L := L) (t := t) (O0 := O) (R0 := q8 ⟨1, n⟩ ⟨1, 0⟩ r4 r5 r6 r7) (p0 := ((s + 4 : Nat) : Int)) (E := E) (W := W) (mt := M) (O := O) (R := q8 ⟨1, n⟩ ⟨1, 0⟩ ⟨2, 0⟩ r5 r6 r7) (u := 0) (tr := 0) (p := s + 18) (by omega) (by omega) (i := ⟨1, 7, n, 0⟩) (hw 13 (by decide)) op1 (ZdB ne1 (Z5p _ _ _ _ _ _ _ _ (by omega) n0 n1));exact ⟨O, I, _, _, _, _, _, ZmQ H (by decide : 2 + 1 ≤ 100) (p := s + 19) (by omega) (by omega) (H.w 19 (by rw [len]; omega)) (g.trans g2), Q, rfl, fun _ _ => rfl, fun c => by cases c⟩
 | cons v w =>
  rw [c] at hch;cases ci : I q with
  | nil => rw [ci] at hch; cases hch
  | cons i r =>
   obtain ⟨k, O', hk, g, Q', l', n'⟩ := Zs7 (t := t) (O0 := O) (R0 := q8 ⟨1, n⟩ ⟨1, 0⟩ r4 r5 r6 r7) (p0 := ((s + 4 : Nat) : Int)) (E := E) (W := W) (mt := M) Q q0 q3 hw (by omega) (by omega) ⟨1, n⟩ ⟨1, 0⟩ r4 r5 r6 r7 (u := 0) (tr := 0) ci c (hS q);exact ⟨O', _, _, _, _, _, _, ZmQ H (by omega) (p := s + 19) (by omega) (by omega) (H.w 19 (by rw [len]; omega)) g, Q', l', fun j _ => n' j, fun c => by cases c⟩
theorem Z4Z (hd : x.d = .pass) : ZfX L t O (q8 ⟨1, x.h1⟩ ⟨1, x.h2⟩ r4 r5 r6 r7) S E W id tr' x s := by
 obtain ⟨d, q, to, n, m⟩ := x;subst hd;have q0 : 0 ≤ q := by have := P.q; dsimp only at this; omega
 have q3 : q ≤ 3 := by have := P.q; dsimp only at this; omega
 have t0 : 0 ≤ to := by have := P.to; dsimp only at this; omega
 have t3 : to ≤ 3 := by have := P.to; dsimp only at this; omega
 have hl := H.l;have h4 := H.s4;have len : (⟨.pass, q, to, n, m⟩ : Pc).d.len = 35 := rfl;rw [len] at hl;have hw : ∀ j, j < 14 → L.getD (s + 5 + j) RI.z = (tkP q s ⟨18, 0, 0, 0⟩).getD j RI.z := fun j hj => by rw [show s + 5 + j = s + (j + 5) by omega, H.w (j + 5) (by rw [len]; omega)];exact Zdc (L := tkP q s ⟨18, 0, 0, 0⟩) (by exact hj)
 have hw2 : ∀ j, j < 15 → L.getD (s + 14 + 5 + j) RI.z = (adP to ((s + 14 : Nat) : Int) 7).getD j RI.z := fun j hj => by rw [show s + 14 + 5 + j = s + (j + 14 + 5) by omega, H.w (j + 14 + 5) (by rw [len]; omega)];exact Zdc (L := adP to ((s + 14 : Nat) : Int) 7) (by exact hj)
 have hch := (Q.ch q q0 q3).len;unfold ZfX Zf6;dsimp only;cases c : S q with
 | nil =>
  rw [c] at hch;exact ZnE H (by decide : 2 ≤ 100) (a := ⟨_, _, s + 18, _, _⟩) (by show s + 18 < _; omega) (by show s + 18 < _; omega) (hw 13 (by decide)) (ZpX Q q0 q3 hw (by omega) (by omega) _ _ r4 r5 r6 r7 (List.eq_nil_of_length_eq_zero hch))
 | cons v w =>
  rw [c] at hch;cases ci : I q with
  | nil => rw [ci] at hch; cases hch
  | cons i r =>
   obtain ⟨k, O1, hk, g, Q1, l1, n1⟩ := Zs7 (t := t) (O0 := O) (R0 := q8 ⟨1, 0⟩ ⟨1, m⟩ r4 r5 r6 r7) (p0 := ((s + 4 : Nat) : Int)) (E := E) (W := W) (mt := M) Q q0 q3 hw (by omega) (by omega) ⟨1, 0⟩ ⟨1, m⟩ r4 r5 r6 r7 (u := 0) (tr := 0) ci c (hS q);dsimp only;have S9 : (ud S q w to).length < 900 := by
    unfold ud;by_cases e : to = q
    ·rw [if_pos e]; have := hS q; rw [c, List.length_cons] at this; omega
    ·rw [if_neg e]; exact hS to
   by_cases f : ((ud S q w to).length : Int) < m
   ·rw [if_pos f]
    obtain ⟨k2, O2, hk2, g2, Q2, l2, n2, i2⟩ := Z1N (t := t) (O0 := O) (R0 := q8 ⟨1, 0⟩ ⟨1, m⟩ r4 r5 r6 r7) (p0 := ((s + 4 : Nat) : Int)) (E := E) (W := W) (mt := M) Q1 t0 t3 hw2 (by omega) (by omega) ⟨1, 0⟩ (rf O i) (hdR O r) ⟨1, (w.length : Int)⟩ ⟨1, v⟩ f (by omega) S9 (fun R p E => X.nx O1 R p E l1 n1) X.vd (fun j hj => by rw [n1]; exact X.nw j (by omega)) (x := v) (.inr ⟨rfl, rfl⟩);exact ⟨O2, _, _, _, _, _, _, ZmQ H (by omega : k + k2 ≤ 100) (p := s + 34) (by omega) (by omega) (H.w 34 (by rw [len]; omega)) (g.trans g2), Q2, by rw [l2, l1]; rfl, fun j hj => by rw [n2 j (by omega), n1], fun _ => by rw [← l1]; exact i2⟩
   ·rw [if_neg f]
    exact ZnE H (by omega : k + 3 ≤ 100) (a := ⟨_, _, s + 33, _, _⟩) (by show s + 33 < _; omega) (by show s + 33 < _; omega) (hw2 14 (by decide)) (g.trans (Z0a Q1 t0 t3 hw2 (by omega) (by omega) ⟨1, 0⟩ _ _ _ _ f))
theorem Z62 : ZfX L t O (q8 ⟨1, x.h1⟩ ⟨1, x.h2⟩ r4 r5 r6 r7) S E W id tr' x s := by
 cases h : x.d with
 | put => exact Z5N H P Q hS hO X E r4 r5 r6 r7 h
 | take => exact Z4Y H P Q hS hO X E r4 r5 r6 r7 h
 | try' => exact Z5O H P Q hS hO X E r4 r5 r6 r7 h
 | pass => exact Z4Z H P Q hS hO X E r4 r5 r6 r7 h
end
abbrev isI (i : RI) : Option Zea := ZaN i.a0 i.a1 i.a2 i.a3 100000
structure Si (i j : RI) : Prop where
 op : i.a0 = j.a0
 is : isI i = isI j
 j8 : j.a0 = 8 → i.a1 = j.a1
 j9 : j.a0 = 9 → i.a2 = j.a2
 j15 : j.a0 = 15 → i = j
structure Sm (L M : List RI) : Prop where
 len : L.length = M.length
 at' : ∀ i, Si (L.getD i RI.z) (M.getD i RI.z)
theorem Z1O (a b c d p : Int) (N : Nat) : ZcF a b c d p N = ZcF a 0 0 0 p N := rfl
theorem Z0b (L : List RG) (a b c d p : Int) (N : Nat) : Zb5 L a b c d p N = Zb5 L a 0 0 0 p N := rfl
section
variable {L M : List RI} (h : Sm L M)
include h
theorem Sm.st (i : Nat) (p : Int) : ZcF (L.getD i RI.z).a0 (L.getD i RI.z).a1 (L.getD i RI.z).a2 (L.getD i RI.z).a3 p 100000 = ZcF (M.getD i RI.z).a0 (M.getD i RI.z).a1 (M.getD i RI.z).a2 (M.getD i RI.z).a3 p 100000 := by rw [Z1O (L.getD i RI.z).a0, Z1O (M.getD i RI.z).a0, (h.at' i).op]
theorem Sm.st2 (l : List RG) (i : Nat) (p : Int) : Zb5 l (L.getD i RI.z).a0 (L.getD i RI.z).a1 (L.getD i RI.z).a2 (L.getD i RI.z).a3 p 100000 = Zb5 l (M.getD i RI.z).a0 (M.getD i RI.z).a1 (M.getD i RI.z).a2 (M.getD i RI.z).a3 p 100000 := by rw [Z0b l (L.getD i RI.z).a0, Z0b l (M.getD i RI.z).a0, (h.at' i).op]
theorem Sm.is' (i : Nat) : ZaN (L.getD i RI.z).a0 (L.getD i RI.z).a1 (L.getD i RI.z).a2 (L.getD i RI.z).a3 100000 = ZaN (M.getD i RI.z).a0 (M.getD i RI.z).a1 (M.getD i RI.z).a2 (M.getD i RI.z).a3 100000 := (h.at' i).is
theorem Sm.opens (a : Int) : ZfH L a 100000 = ZfH M a 100000 := by
 have e : ZeA L a 100000 = ZeA M a 100000 := by
  funext x
  cases x with
  | h1m0 v =>
   show Zdf L a 100000 v = Zdf M a 100000 v;unfold Zdf;rw [h.len, h.st]
  | h1m1 l v =>
   show Zdg L a 100000 l v = Zdg M a 100000 l v;unfold Zdg;rw [h.len, h.st2]
 unfold ZfH;rw [e];rfl
theorem Sm.branch (a : Int) : Zbl L a 100000 = Zbl M a 100000 := by unfold Zbl;rw [h.opens]
theorem Sm.wrong : ZfI L 100000 = ZfI M 100000 := by
 have e : ZeB L 100000 = ZeB M 100000 := by
  funext x
  cases x with
  | h1m0 v =>
   show Zdh L 100000 v = Zdh M 100000 v;unfold Zdh;rw [h.len, h.st, h.is']
  | h1m1 l v =>
   show Zdi L 100000 l v = Zdi M 100000 l v;unfold Zdi;rw [h.len, h.st2, h.is']
  | h2m0 v =>
   show Zdj L 100000 v = Zdj M 100000 v;unfold Zdj;rw [h.len, (h.at' v).op, h.branch, h.branch, h.branch];by_cases c8 : (M.getD v RI.z).a0 = 8
   ·rw [if_pos c8, if_pos c8, (h.at' v).j8 c8]
   ·rw [if_neg c8, if_neg c8]
    by_cases c9 : (M.getD v RI.z).a0 = 9
    ·rw [if_pos c9, if_pos c9, (h.at' v).j9 c9]
    ·rw [if_neg c9, if_neg c9]
 unfold ZfI;rw [e];unfold Zhd;rw [h.len]
theorem Sm.check : ZaO L 100000 = ZaO M 100000 := by unfold ZaO;rw [h.wrong]
theorem Sm.mate (a : Int) : Zfz L a 100000 = Zfz M a 100000 := by
 have e : ZeY L a 100000 = ZeY M a 100000 := by
  funext x
  cases x with
  | h1m0 v =>
   show ZdF L a 100000 v = ZdF M a 100000 v;unfold ZdF;rw [h.len, (h.at' _).op]
 unfold Zfz;rw [e];unfold ZhR;rw [h.len, (h.at' _).op, h.branch]
theorem Sm.mates : Zby L 100000 = Zby M 100000 := by
 have e : ZeE L 100000 = ZeE M 100000 := by
  funext x
  cases x with
  | h1m0 =>
   show Zdk L 100000 = Zdk M 100000;unfold Zdk;rw [h.len, h.mate]
  | h1m1 l v =>
   show Zdl L 100000 l v = Zdl M 100000 l v;unfold Zdl;rw [h.len, h.mate]
 unfold Zby;rw [e];unfold Zf9;rw [h.check]
end
inductive All2 (R : RI → RI → Prop) : List RI → List RI → Prop where
 | nil : All2 R [] []
 | cons {a b : RI} {l m : List RI} : R a b → All2 R l m → All2 R (a :: l) (b :: m)
theorem All2.app {R : RI → RI → Prop} {a b c d : List RI} (h : All2 R a b) (k : All2 R c d) : All2 R (a ++ c) (b ++ d) := by
 induction h with
 | nil => exact k
 | cons x _ ih => exact .cons x ih
theorem All2.sm {a b : List RI} (h : All2 Si a b) : Sm a b := by
 induction h with
 | nil => exact ⟨rfl, fun i => ⟨rfl, rfl, fun _ => rfl, fun _ => rfl, fun _ => rfl⟩⟩
 | cons x _ ih =>
  refine ⟨by simp [ih.len], fun i => ?_⟩;cases i with
  | zero => exact x
  | succ i => exact ih.at' i
theorem Z5P {x : Pc} (h : PcOk x) (s : Int) : All2 Si (pcs x s) (pcs ⟨x.d, 0, 0, 0, 1⟩ s) := by
 obtain ⟨d, q, to, n, m⟩ := x;obtain ⟨hq, ht, h0, h1, hm⟩ := h;dsimp only at hq ht h0 h1 hm;have k1 : Si ⟨1, 1, n, 0⟩ ⟨1, 1, 0, 0⟩ := ⟨rfl, (isK 1 n (by simp) h0 h1), fun c => absurd c (by dsimp only; decide), fun c => absurd c (by dsimp only; decide), fun c => absurd c (by dsimp only; decide)⟩
 have k7 : Si ⟨1, 7, n, 0⟩ ⟨1, 7, 0, 0⟩ := ⟨rfl, (isK 7 n (by simp) h0 h1), fun c => absurd c (by dsimp only; decide), fun c => absurd c (by dsimp only; decide), fun c => absurd c (by dsimp only; decide)⟩
 have k2 : Si ⟨1, 2, m, 0⟩ ⟨1, 2, 1, 0⟩ := ⟨rfl, (isK 2 m (by simp) (by omega) (by omega)), fun c => absurd c (by dsimp only; decide), fun c => absurd c (by dsimp only; decide), fun c => absurd c (by dsimp only; decide)⟩
 have hh : ∀ a b a' b', Si ⟨1, 1, a, 0⟩ ⟨1, 1, a', 0⟩ → Si ⟨1, 2, b, 0⟩ ⟨1, 2, b', 0⟩ → All2 Si (hdP a b) (hdP a' b') := fun a b a' b' k k' => .cons ⟨rfl, rfl, fun _ => rfl, fun _ => rfl, fun _ => rfl⟩ (.cons k (.cons k' (.cons ⟨rfl, rfl, fun _ => rfl, fun _ => rfl, fun _ => rfl⟩ (.cons ⟨rfl, rfl, fun _ => rfl, fun _ => rfl, fun _ => rfl⟩ .nil))));have ht' : ∀ (q s : Int) (l l' : RI), (q = 0 ∨ q = 1 ∨ q = 2 ∨ q = 3) → Si l l' → All2 Si (tkP q s l) (tkP 0 s l') := by intro q s l l' hq k;rcases hq with rfl | rfl | rfl | rfl <;> (unfold tkP; repeat' (first | exact All2.nil | refine All2.cons ?_ ?_)) <;> first | exact k | first | exact ⟨rfl, rfl, fun _ => rfl, fun _ => rfl, fun c => absurd c (by dsimp only; decide)⟩ | exact ⟨rfl, rfl, fun c => absurd c (by dsimp only; decide), fun c => absurd c (by dsimp only; decide), fun c => absurd c (by dsimp only; decide)⟩
 have ha : ∀ (q s r : Int), (q = 0 ∨ q = 1 ∨ q = 2 ∨ q = 3) → All2 Si (adP q s r) (adP 0 s r) := by intro q s r hq;rcases hq with rfl | rfl | rfl | rfl <;> (unfold adP; repeat' (first | exact All2.nil | refine All2.cons ?_ ?_)) <;> first | exact ⟨rfl, rfl, fun _ => rfl, fun _ => rfl, fun c => absurd c (by dsimp only; decide)⟩ | exact ⟨rfl, rfl, fun c => absurd c (by dsimp only; decide), fun c => absurd c (by dsimp only; decide), fun c => absurd c (by dsimp only; decide)⟩
 have o : ∀ i, Si i i := fun i => ⟨rfl, rfl, fun _ => rfl, fun _ => rfl, fun _ => rfl⟩
 cases d with
 | put => exact (hh _ _ _ _ k1 k2).app ((ha q s 1 hq).app (.cons (o _) (.cons (o _) .nil)))
 | take => exact (hh _ _ _ _ (o _) ⟨rfl, rfl, fun c => absurd c (by dsimp only; decide), fun c => absurd c (by dsimp only; decide), fun c => absurd c (by dsimp only; decide)⟩).app ((ht' q s _ _ hq (o _)).app (.cons (o _) .nil))
 | try' => exact (hh _ _ _ _ k1 ⟨rfl, rfl, fun c => absurd c (by dsimp only; decide), fun c => absurd c (by dsimp only; decide), fun c => absurd c (by dsimp only; decide)⟩).app ((ht' q s _ _ hq k7).app (.cons (o _) .nil))
 | pass => exact (hh _ _ _ _ (o _) k2).app ((ht' q s _ _ hq (o _)).app ((ha to (s + 14) 7 ht).app (.cons (o _) .nil)))
theorem Z1P : ∀ (l : List Pc) (s : Nat), (∀ x ∈ l, PcOk x) → All2 Si (prg s l) (prg s ((l.map (·.d)).map fun k => ⟨k, 0, 0, 0, 1⟩))
 | [], s, _ => .cons ⟨rfl, rfl, fun _ => rfl, fun _ => rfl, fun _ => rfl⟩ .nil
 | x :: l, s, h => (Z5P (h x List.mem_cons_self) s).app (.cons ⟨rfl, rfl, fun _ => rfl, fun _ => rfl, fun _ => rfl⟩ (Z1P l _ fun y hy => h y (List.mem_cons_of_mem _ hy)))
theorem Z63 {l : List Pc} (hl : l.length ≤ 4) (h : ∀ x ∈ l, PcOk x) : ZaO (prg 0 l) 100000 = some .r0 ∧ ∃ M, Zby (prg 0 l) 100000 = some (.r1 M) ∧ M.length = (prg 0 l).length ∧ ∀ i, i < (prg 0 l).length → ((prg 0 l).getD i RI.z).a0 = 15 → 0 ≤ M.getD i 0 ∧ M.getD i 0 < ((prg 0 l).length : Int) := by
 have s := (Z1P l 0 h).sm;have k := okAll (l.map (·.d)) (by rw [List.length_map]; exact hl);have ck : ∀ {M : List Int}, Zby (prg 0 l) 100000 = some (.r1 M) → ZaO (prg 0 l) 100000 = some .r0 := by
  intro M e;cases e1 : ZaO (prg 0 l) 100000 with
  | none =>
   unfold Zby Zf9 at e;rw [e1] at e;cases e
  | some z =>
   cases z;rfl
 unfold okS at k;cases e2 : Zby (shp (l.map (·.d))) 100000 with
 | none => rw [e2] at k; cases k
 | some z =>
  cases z with
  | r0 => rw [e2] at k; cases k
  | r1 M =>
   rw [e2] at k;have e3 := s.mates.trans e2;refine ⟨ck e3, M, e3, ?_⟩;simp only [mtB, Bool.and_eq_true, beq_iff_eq, List.all_eq_true, List.mem_range, Bool.or_eq_true, Bool.not_eq_true', beq_eq_false_iff_ne, decide_eq_true_eq] at k;refine ⟨by rw [k.1, s.len], fun i hi h15 => ?_⟩;rw [s.len] at hi ⊢;rw [(s.at' i).op] at h15;rcases k.2 i hi with c | c
   ·exact absurd h15 c
   ·exact c
def off : List Pc → Nat → Nat
 | _, 0 => 0
 | [], _ + 1 => 0
 | x :: l, a + 1 => x.d.len + 1 + off l a
abbrev pz : Pc := ⟨.put, 0, 0, 0, 1⟩
theorem ZhA (x : Pc) (s : Int) : (pcs x s).length = x.d.len := by obtain ⟨d, q, to, n, m⟩ := x;cases d <;> rfl
theorem Z0c {A B : List RI} {n j : Nat} (h : A.length = n) : (A ++ B).getD (n + j) RI.z = B.getD j RI.z := by subst h;rw [List.getD_eq_getElem?_getD, List.getD_eq_getElem?_getD, List.getElem?_append_right (by omega), Nat.add_sub_cancel_left]
theorem Zql : ∀ (l : List Pc) (s a : Nat), a < l.length → (∀ j, j < (l.getD a pz).d.len → (prg s l).getD (off l a + j) RI.z = (pcs (l.getD a pz) ((s + off l a : Nat) : Int)).getD j RI.z) ∧ (prg s l).getD (off l a + (l.getD a pz).d.len) RI.z = ⟨19, 7, 0, 0⟩
 | [], _, _, h => by cases h
 | x :: l, s, 0, _ => by
  refine ⟨fun j hj => ?_, ?_⟩
  ·show (pcs x s ++ _).getD (0 + j) RI.z = _
   rw [Nat.zero_add];exact Zdc (by rw [ZhA]; exact hj)
  ·show (pcs x s ++ (⟨19, 7, 0, 0⟩ :: prg (s + x.d.len + 1) l)).getD (0 + x.d.len) RI.z = _
   rw [Nat.zero_add];exact Z0c (j := 0) (ZhA x s)
 | x :: l, s, a + 1, h => by
  have ih := Zql l (s + x.d.len + 1) a (by simpa using h);have e : ∀ j, (prg s (x :: l)).getD (off (x :: l) (a + 1) + j) RI.z = (prg (s + x.d.len + 1) l).getD (off l a + j) RI.z := fun j => by show (pcs x s ++ (⟨19, 7, 0, 0⟩ :: prg (s + x.d.len + 1) l)).getD (x.d.len + 1 + off l a + j) RI.z = _;rw [show x.d.len + 1 + off l a + j = x.d.len + (off l a + j + 1) by omega, Z0c (ZhA x s)];rfl
  refine ⟨fun j hj => ?_, ?_⟩
  ·rw [e j]
   refine (ih.1 j hj).trans ?_;show (pcs (l.getD a pz) ((s + x.d.len + 1 + off l a : Nat) : Int)).getD j RI.z = (pcs (l.getD a pz) ((s + (x.d.len + 1 + off l a) : Nat) : Int)).getD j RI.z;rw [show s + x.d.len + 1 + off l a = s + (x.d.len + 1 + off l a) by omega]
  ·exact (e _).trans ih.2
theorem Zqm : ∀ (l : List Pc) (s : Nat), (prg s l).getD (off l l.length) RI.z = ⟨20, 0, 0, 0⟩ ∧ (prg s l).length = off l l.length + 1
 | [], _ => ⟨rfl, rfl⟩
 | x :: l, s => by
  have ih := Zqm l (s + x.d.len + 1);refine ⟨?_, ?_⟩
  ·show (pcs x s ++ (⟨19, 7, 0, 0⟩ :: prg (s + x.d.len + 1) l)).getD (x.d.len + 1 + off l l.length) RI.z = _
   rw [show x.d.len + 1 + off l l.length = x.d.len + (off l l.length + 1) by omega, Z0c (ZhA x s)];exact ih.1
  ·show (pcs x s ++ (⟨19, 7, 0, 0⟩ :: prg (s + x.d.len + 1) l)).length = x.d.len + 1 + off l l.length + 1
   rw [List.length_append, ZhA, List.length_cons, ih.2];omega
theorem ZiT : ∀ (l : List Pc) (a : Nat), a < l.length → off l (a + 1) = off l a + (l.getD a pz).d.len + 1
 | [], _, h => by cases h
 | x :: l, 0, _ => by show x.d.len + 1 + off l 0 = 0 + x.d.len + 1; rw [show off l 0 = 0 by cases l <;> rfl]; omega
 | x :: l, a + 1, h => by show x.d.len + 1 + off l (a + 1) = x.d.len + 1 + off l a + (l.getD a pz).d.len + 1;rw [ZiT l a (by simpa using h)];omega
theorem Zs8 (l : List Pc) : off l 0 = 0 := by cases l <;> rfl
theorem Zua (l : List Pc) : ∀ a : Nat, a ≤ l.length → off l a ≤ 36 * a
 | 0, _ => by rw [Zs8]; omega
 | a + 1, h => by
  rw [ZiT l a (by omega)];have := Zua l a (by omega);have : (l.getD a pz).d.len ≤ 35 := by cases (l.getD a pz).d <;> decide
  omega
theorem Z0d (l : List Pc) {a : Nat} : ∀ b : Nat, a ≤ b → b ≤ l.length → off l a ≤ off l b
 | 0, h, _ => by rw [show a = 0 by omega]; exact Nat.le_refl _
 | b + 1, h, hb => by
  by_cases c : a = b + 1
  ·rw [c]; exact Nat.le_refl _
  ·have := Z0d l (a := a) b (by omega) (by omega)
   rw [ZiT l b (by omega)];omega
def Zv0 (l : List RI) : Prop := ∀ i ∈ l, ¬ i.a0 = 16
theorem pcs16 (x : Pc) (s : Int) : Zv0 (pcs x s) := by
 obtain ⟨d, q, to, n, m⟩ := x;have h : ∀ (a : RI) (l : List RI), ¬ a.a0 = 16 → Zv0 l → Zv0 (a :: l) := fun a l h k i hi => by
  rcases List.mem_cons.1 hi with rfl | hi
  ·exact h
  ·exact k i hi
 have z : Zv0 [] := fun _ hi => by cases hi
 cases d <;> (repeat (first | exact z | refine h _ _ (by dsimp only; decide) ?_))
theorem Z5q : ∀ (l : List Pc) (s : Nat), Zv0 (prg s l)
 | [], _, i, hi => by obtain rfl := List.mem_singleton.1 hi;decide
 | x :: l, s, i, hi => by
  rcases List.mem_append.1 hi with hi | hi
  ·exact pcs16 x s i hi
  ·rcases List.mem_cons.1 hi with rfl | hi
   ·dsimp only; decide
   ·exact Z5q l _ i hi
theorem Z64 {l : List RI} (h : Zv0 l) (i : Nat) (hi : i < l.length) : ¬ (l.getD i RI.z).a0 = 16 := by rw [List.getD_eq_getElem?_getD, List.getElem?_eq_getElem hi];exact h _ (List.getElem_mem hi)
theorem ZpY {l : List Pc} (hl : l.length ≤ 4) (h : ∀ x ∈ l, PcOk x) : ZaO (prg 0 l) 100000 = some .r0 ∧ ∃ M, ∀ a, a < l.length → Wn (prg 0 l) M (l.getD a pz) (off l a) := by
 obtain ⟨c, M, m1, m2, m3⟩ := Z63 hl h;refine ⟨c, M, fun a ha => ⟨fun j hj => ?_, ?_, ?_, m1, m2, m3, Z64 (Z5q l 0)⟩⟩
 ·have := (Zql l 0 a ha).1 j hj
  rwa [Nat.zero_add] at this
 ·rw [(Zqm l 0).2]
  have := Z0d l (a := a + 1) l.length (by omega) (Nat.le_refl _);rw [ZiT l a ha] at this;omega
 ·have := Zua l a (by omega)
  omega
def Z0e (a : Int) : Kd := if a % 4 = 1 then .take else if a % 4 = 2 then .try' else if a % 4 = 3 then .pass else .put
def Zes (x : RM) : Pc := ⟨Z0e x.a0, x.a1 % 4, x.a2 % 4, x.a3, 1 + x.a4 % 3⟩
structure By (x : RM) : Prop where
 a0 : 0 ≤ x.a0 ∧ x.a0 ≤ 255
 a1 : 0 ≤ x.a1 ∧ x.a1 ≤ 255
 a2 : 0 ≤ x.a2 ∧ x.a2 ≤ 255
 a3 : 0 ≤ x.a3 ∧ x.a3 ≤ 255
 a4 : 0 ≤ x.a4 ∧ x.a4 ≤ 255
theorem By.ok {x : RM} (h : By x) : PcOk (Zes x) := by obtain ⟨_, _, _, h3, _⟩ := h;exact ⟨by show x.a1 % 4 = 0 ∨ x.a1 % 4 = 1 ∨ x.a1 % 4 = 2 ∨ x.a1 % 4 = 3; omega, by show x.a2 % 4 = 0 ∨ x.a2 % 4 = 1 ∨ x.a2 % 4 = 2 ∨ x.a2 % 4 = 3; omega, h3.1, h3.2, by show 1 + x.a4 % 3 = 1 ∨ 1 + x.a4 % 3 = 2 ∨ 1 + x.a4 % 3 = 3; omega⟩
theorem Z0f {x : RM} (h : By x) {s : Int} (s0 : 0 ≤ s) (s4 : s ≤ 400) : Zc8 x.a0 x.a1 x.a2 x.a3 x.a4 s 100000 = some (.r0 (pcs (Zes x) s)) := by
 obtain ⟨h0, h1, h2, h3, h4⟩ := h;unfold Zc8;rw [if_pos h0.1, if_pos h0.2, if_pos h1.1, if_pos h1.2, if_pos h2.1, if_pos h2.2, if_pos h3.1, if_pos h3.2, if_pos h4.1, if_pos h4.2];have ek : Zes x = ⟨Z0e x.a0, x.a1 % 4, x.a2 % 4, x.a3, 1 + x.a4 % 3⟩ := rfl;rw [ek];unfold Z0e;by_cases c1 : x.a0 % 4 = 1
 ·have f : Zfo s (x.a1 % 4) 100000 = some .r0 := by unfold Zfo;rw [if_pos (by omega), if_pos (by omega), if_pos s0, if_pos s4]
  rw [if_pos c1, if_pos c1, f];rfl
 ·rw [if_neg c1, if_neg c1]
  by_cases c2 : x.a0 % 4 = 2
  ·have f : Zgg s (x.a1 % 4) x.a3 100000 = some .r0 := by unfold Zgg;rw [if_pos (by omega), if_pos (by omega), if_pos s0, if_pos s4, if_pos (by omega), if_pos (by omega)]
   rw [if_pos c2, if_pos c2, f];rfl
  ·rw [if_neg c2, if_neg c2]
   by_cases c3 : x.a0 % 4 = 3
   ·have f : Zfp s (x.a1 % 4) (x.a2 % 4) (1 + x.a4 % 3) 100000 = some .r0 := by unfold Zfp;rw [if_pos (by omega), if_pos (by omega), if_pos (by omega), if_pos (by omega), if_pos s0, if_pos s4, if_pos (by omega), if_pos (by omega)]
    rw [if_pos c3, if_pos c3, f, show s + 33 = s + 14 + 19 by omega, show s + 28 = s + 14 + 14 by omega, show s + 29 = s + 14 + 15 by omega, show s + 34 = s + 14 + 20 by omega];rfl
   ·have f : Zgh s (x.a1 % 4) x.a3 (1 + x.a4 % 3) 100000 = some .r0 := by unfold Zgh;rw [if_pos (by omega), if_pos (by omega), if_pos s0, if_pos s4, if_pos (by omega), if_pos (by omega), if_pos (by omega), if_pos (by omega)]
    rw [if_neg c3, if_neg c3, f];rfl
def bdy : Nat → List Pc → List RI
 | _, [] => []
 | s, x :: l => pcs x s ++ (⟨19, 7, 0, 0⟩ :: bdy (s + x.d.len + 1) l)
theorem Z1Q : ∀ (l : List Pc) (s : Nat), prg s l = bdy s l ++ [⟨20, 0, 0, 0⟩]
 | [], _ => rfl
 | x :: l, s => by
  show pcs x s ++ (⟨19, 7, 0, 0⟩ :: prg (s + x.d.len + 1) l) = pcs x s ++ (⟨19, 7, 0, 0⟩ :: bdy (s + x.d.len + 1) l) ++ [⟨20, 0, 0, 0⟩]
  rw [Z1Q l, List.append_assoc, List.cons_append]
theorem Z1R : ∀ (l : List Pc) (s : Nat), (bdy s l).length ≤ 36 * l.length
 | [], _ => Nat.le_refl _
 | x :: l, s => by
  have ih := Z1R l (s + x.d.len + 1);have : x.d.len ≤ 35 := by cases x.d <;> decide
  show (pcs x s ++ (⟨19, 7, 0, 0⟩ :: bdy (s + x.d.len + 1) l)).length ≤ 36 * (l.length + 1);rw [List.length_append, List.length_cons, ZhA];omega
theorem Z0g : ∀ (l : List Pc) (s : Nat) (x : Pc), bdy s (l ++ [x]) = bdy s l ++ pcs x ((s + (bdy s l).length : Nat) : Int) ++ [⟨19, 7, 0, 0⟩]
 | [], s, x => rfl
 | y :: l, s, x => by
  show pcs y s ++ (⟨19, 7, 0, 0⟩ :: bdy (s + y.d.len + 1) (l ++ [x])) = _;rw [Z0g l];show _ = pcs y s ++ (⟨19, 7, 0, 0⟩ :: bdy (s + y.d.len + 1) l) ++ pcs x ((s + (pcs y s ++ (⟨19, 7, 0, 0⟩ :: bdy (s + y.d.len + 1) l)).length : Nat) : Int) ++ [⟨19, 7, 0, 0⟩]
  rw [List.length_append, List.length_cons, ZhA, show s + (y.d.len + ((bdy (s + y.d.len + 1) l).length + 1)) = s + y.d.len + 1 + (bdy (s + y.d.len + 1) l).length by omega];simp [List.append_assoc]
theorem Zl3 {α : Type} (l : List α) (i : Nat) (d : α) (h : i < l.length) : l.take (i + 1) = l.take i ++ [l.getD i d] := by rw [List.take_add_one, List.getElem?_eq_getElem h, List.getD_eq_getElem?_getD, List.getElem?_eq_getElem h];rfl
theorem ZbT {α : Type} {l : List α} {i : Nat} {d : α} (h : i < l.length) : l.getD i d ∈ l := by rw [List.getD_eq_getElem?_getD, List.getElem?_eq_getElem h];exact List.getElem_mem h
theorem Z2T {K : List RM} (hl : K.length ≤ 4) (h : ∀ x ∈ K, By x) : ZbA K 100000 = some (.r0 (prg 0 (K.map Zes))) := by
 have lt : ∀ j, (bdy 0 ((K.take j).map Zes)).length ≤ 144 := fun j => by have := Z1R ((K.take j).map Zes) 0;rw [List.length_map, List.length_take] at this;omega
 have pl : ∀ (x : Pc) (s : Int), ¬ (((pcs x s).length : Nat) : Int) < 1 ∧ ¬ (60 : Int) < (((pcs x s).length : Nat) : Int) := fun x s => by
  rw [ZhA];have : x.d.len ≤ 35 ∧ 20 ≤ x.d.len := by cases x.d <;> decide
  omega
 have go : ∀ d j : Nat, j + d = K.length → ZW (ZeT K 100000) (d + 1) (.h1m1 (bdy 0 ((K.take j).map Zes)) j) = some (.r0 (prg 0 (K.map Zes))) := by
  intro d
  induction d with
  | zero =>
   intro j hj;refine ZE ?_;refine Eq.trans (show _ = Zb4 K 100000 (bdy 0 ((K.take j).map Zes)) j from rfl) ?_;unfold Zb4;have := lt j;rw [if_neg (by omega), if_pos (by omega), List.take_of_length_le (by omega), Z1Q]
  | succ d ih =>
   intro j hj;refine (Zo ?_).trans (ih (j + 1) (by omega));refine Eq.trans (show _ = Zb4 K 100000 (bdy 0 ((K.take j).map Zes)) j from rfl) ?_;unfold Zb4;have lj := lt j;have e := Z0f (h _ (ZbT (l := K) (i := j) (d := RM.z) (by omega))) (s := (((bdy 0 ((K.take j).map Zes)).length : Nat) : Int)) (by omega) (by omega);obtain ⟨p1, p2⟩ := pl (Zes (K.getD j RM.z)) (((bdy 0 ((K.take j).map Zes)).length : Nat) : Int);rw [if_pos (by omega), if_pos (by omega), e, Option.bind_some];dsimp only;rw [if_neg p1, if_neg p2, if_pos (by omega), if_pos (by omega), Zl3 K j RM.z (by omega), List.map_append, List.map_cons, List.map_nil, Z0g, Nat.zero_add]
 unfold ZbA;refine (ZaB (x := (.h1m0 : Zaj)) rfl).trans ?_;cases K with
 | nil => exact ZE (n := 99999) rfl
 | cons x K =>
  refine (Zo (n := 99999) (y := .h1m1 (bdy 0 (((x :: K).take 1).map Zes)) 1) ?_).trans (Zej (n := K.length + 1) (by rw [List.length_cons] at hl; omega) (go K.length 1 (by rw [List.length_cons]; omega)));refine Eq.trans (show _ = Zd2 (x :: K) 100000 from rfl) ?_;unfold Zd2;have e := Z0f (h x List.mem_cons_self) (s := 0) (by omega) (by omega);obtain ⟨p1, p2⟩ := pl (Zes x) 0;rw [if_pos (by rw [List.length_cons]; omega)];refine Zs e ?_;dsimp only;rw [if_neg p1, if_neg p2];rfl
theorem op10 : (1 : Int) ≤ 10 ∧ (10 : Int) ≤ 10 := by decide
theorem Z2U {R : List RG} {o a b c : Int} (ho : ¬ o = 19) : ZaU R o a b c 100000 = some (.r0 0 0 false) := by unfold ZaU;rw [if_pos ho]
section
variable {L : List RI} {a2 a3 : Int} {L4 L5 : List RG} {p : Nat} (hp : p < L.length) (h5 : p < 500) {v1 R R' : List RG} {q : Int} {k m n : Nat} (hk : k < 1000)
include hp
theorem o0 {i : RI} (e : L.getD p RI.z = i) (hi : 1 ≤ i.a0 ∧ i.a0 ≤ 10) (hd : ZD L4 p i.a0 i.a1 i.a2 i.a3 2 1048577 100000 = some (.r0 R' q)) : Zb6 L 0 a2 p L4 L5 100000 (.h1m0 v1) = some (.inl (.h1m2 v1 1 q R')) := by refine Eq.trans (show _ = Zck L 0 a2 p L4 L5 100000 v1 from rfl) ?_;unfold Zck;rw [if_pos rfl, if_neg (by omega), if_pos (by omega), Int.toNat_natCast, e, if_neg (by omega), if_pos hi.1, if_pos hi.2, Z2U (by omega), Option.bind_some];dsimp only;rw [if_neg (by decide)];exact Zs hd rfl
include hk
theorem o1 {i : RI} (e : L.getD p RI.z = i) (hi : 1 ≤ i.a0 ∧ i.a0 ≤ 10) (hd : ZD R p i.a0 i.a1 i.a2 i.a3 2 1048577 100000 = some (.r0 R' q)) : Zb6 L 0 a2 a3 L4 L5 100000 (.h1m1 v1 k p R m n) = some (.inl (.h1m2 v1 (k + 1) q R')) := by refine Eq.trans (show _ = ZdL L 0 a2 a3 L4 L5 100000 v1 k p R m n from rfl) ?_;unfold ZdL;rw [if_pos (by omega), if_pos rfl, if_neg (by omega), if_pos (by omega), Int.toNat_natCast, e, if_neg (by omega), if_pos hi.1, if_pos hi.2, if_neg (by omega), Z2U (by omega), Option.bind_some];dsimp only;rw [if_neg (by decide)];exact Zs hd rfl
theorem o2 {i : RI} (e : L.getD p RI.z = i) (hi : 1 ≤ i.a0 ∧ i.a0 ≤ 10) (hd : ZD R p i.a0 i.a1 i.a2 i.a3 2 1048577 100000 = some (.r0 R' q)) : Zb6 L 0 a2 a3 L4 L5 100000 (.h1m2 v1 k p R) = some (.inl (.h1m2 v1 (k + 1) q R')) := by refine Eq.trans (show _ = ZdM L 0 a2 a3 L4 L5 100000 v1 k p R from rfl) ?_;unfold ZdM;rw [if_pos (by omega), if_pos rfl, if_neg (by omega), if_pos (by omega), Int.toNat_natCast, e, if_neg (by omega), if_pos hi.1, if_pos hi.2, if_neg (by omega), Z2U (by omega), Option.bind_some];dsimp only;rw [if_neg (by decide)];exact Zs hd rfl
theorem oe (e : L.getD p RI.z = ⟨15, 0, 0, 0⟩) : Zb6 L 0 a2 a3 L4 L5 100000 (.h1m2 v1 k p R) = some (.inr (.r0 0 p R v1)) := by refine Eq.trans (show _ = ZdM L 0 a2 a3 L4 L5 100000 v1 k p R from rfl) ?_;unfold ZdM;rw [if_pos (by omega), if_pos rfl, if_neg (by omega), if_pos (by omega), Int.toNat_natCast, e, if_neg (by decide), if_pos (by decide), if_neg (by decide), if_neg (by decide)]
theorem of1 (e : L.getD p RI.z = ⟨20, 0, 0, 0⟩) : Zb6 L 0 a2 a3 L4 L5 100000 (.h1m1 v1 k p R m n) = some (.inr (.r0 2 p R v1)) := by refine Eq.trans (show _ = ZdL L 0 a2 a3 L4 L5 100000 v1 k p R m n from rfl) ?_;unfold ZdL;rw [if_pos (by omega), if_pos rfl, if_neg (by omega), if_pos (by omega), Int.toNat_natCast, e, if_pos (by decide)]
omit hk in
theorem of0 (e : L.getD p RI.z = ⟨20, 0, 0, 0⟩) : Zb6 L 0 a2 p L4 L5 100000 (.h1m0 v1) = some (.inr (.r0 2 p L4 v1)) := by refine Eq.trans (show _ = Zck L 0 a2 p L4 L5 100000 v1 from rfl) ?_;unfold Zck;rw [if_pos rfl, if_neg (by omega), if_pos (by omega), Int.toNat_natCast, e, if_pos (by decide)]
omit hk in
theorem ot (hp5 : p < 500) (e : L.getD p RI.z = ⟨19, 7, 0, 0⟩) (hv : v1.length ≤ 1000) (r0 r1 r2 r3 r4 r5 r6 r7 : RG) : Zb6 L 0 a2 p (rg8 r0 r1 r2 r3 r4 r5 r6 r7) L5 100000 (.h1m0 v1) = some (.inl (.h1m1 (v1 ++ [r7]) 1 ((p + 1 : Nat) : Int) (rg8 r0 r1 r2 r3 r4 r5 r6 r7) v1.length v1.length)) := by
 refine Eq.trans (show _ = Zck L 0 a2 p (rg8 r0 r1 r2 r3 r4 r5 r6 r7) L5 100000 v1 from rfl) ?_;unfold Zck;have t : ZaU (rg8 r0 r1 r2 r3 r4 r5 r6 r7) 19 7 0 0 100000 = some (.r0 r7.a0 r7.a1 true) := rfl;have d : ZD (rg8 r0 r1 r2 r3 r4 r5 r6 r7) p 19 7 0 0 2 1048577 100000 = some (.r0 (rg8 r0 r1 r2 r3 r4 r5 r6 r7) ((p + 1 : Nat) : Int)) := by have i : ZaN 19 7 0 0 100000 = some (.r0 true) := rfl;unfold ZD;refine Zs i (Z8 (fun c => c rfl) (Zq (by decide) (Z8 (by decide) (Zq rfl (Z8 (by omega) (Z8 (by omega) ?_))))));rw [show ((p + 1 : Nat) : Int) = (p : Int) + 1 by omega]
 rw [if_pos rfl, if_neg (by omega), if_pos (by omega), Int.toNat_natCast, e, if_neg (by decide), if_pos (by decide), if_neg (by decide), if_pos (by decide)];dsimp only;rw [t, Option.bind_some];dsimp only;rw [if_pos rfl, if_pos (by omega), d];rfl
end
section
variable {L : List RI} {p : Nat} {n m : Int} (hn : 0 ≤ n ∧ n ≤ 255) (hm : 0 ≤ m ∧ m ≤ 255) (r0 r1 r2 r3 r4 r5 r6 r7 : RG) {E : List RG}
theorem ZxA (a2 p : Int) (R E : List RG) (hE : E.length ≤ 1000) : ZhQ L 0 a2 p R E 100000 = some (.inl (.h1m0 E)) := by
 unfold ZhQ;cases E with
 | nil => rfl
 | cons e E => rw [if_neg (by rw [List.length_cons]; omega), if_pos (by omega)]
theorem dK0 (p : Nat) (h5 : p < 500) : ZD (rg8 r0 r1 r2 r3 r4 r5 r6 r7) p 10 0 0 0 2 1048577 100000 = some (.r0 (rg8 ⟨2, 1048577⟩ r1 r2 r3 r4 r5 r6 r7) ((p + 1 : Nat) : Int)) :=
 Ziv h5 (by decide) rfl (k := 2) (v := 1048577) rfl rfl
include hn in
theorem dK1 (p : Nat) (h5 : p < 500) : ZD (rg8 r0 r1 r2 r3 r4 r5 r6 r7) p 1 1 n 0 2 1048577 100000 = some (.r0 (rg8 r0 ⟨1, n⟩ r2 r3 r4 r5 r6 r7) ((p + 1 : Nat) : Int)) :=
 Ziv h5 (by decide) (isK 1 n (by simp) hn.1 hn.2) (k := 1) (v := n) rfl rfl
include hm in
theorem dK2 (p : Nat) (h5 : p < 500) : ZD (rg8 r0 r1 r2 r3 r4 r5 r6 r7) p 1 2 m 0 2 1048577 100000 = some (.r0 (rg8 r0 r1 ⟨1, m⟩ r3 r4 r5 r6 r7) ((p + 1 : Nat) : Int)) :=
 Ziv h5 (by decide) (isK 2 m (by simp) hm.1 hm.2) (k := 1) (v := m) rfl rfl
theorem dK3 (p : Nat) (h5 : p < 500) : ZD (rg8 r0 r1 r2 r3 r4 r5 r6 r7) p 1 3 1 0 2 1048577 100000 = some (.r0 (rg8 r0 r1 r2 ⟨1, 1⟩ r4 r5 r6 r7) ((p + 1 : Nat) : Int)) :=
 Ziv h5 (by decide) rfl (k := 1) (v := 1) rfl rfl
include hn hm
theorem Z1S {a2 a3 : Int} {L4 L5 v1 : List RG} {k f : Nat} (hk : k < 900) (hw : ∀ j, j < 5 → L.getD (p + j) RI.z = (hdP n m).getD j RI.z) (hl : p + 5 ≤ L.length) (h5 : p < 490) : ZW (Zb6 L 0 a2 a3 L4 L5 100000) (f + 4) (.h1m2 v1 k ((p + 1 : Nat) : Int) (rg8 ⟨2, 1048577⟩ r1 r2 r3 r4 r5 r6 r7)) = some (.r0 0 ((p + 4 : Nat) : Int) (q8 ⟨1, n⟩ ⟨1, m⟩ r4 r5 r6 r7) v1) := by refine (Zo (n := f + 3) (o2 (by omega) (by omega) (hw 1 (by decide)) op1 (dK1 hn _ _ _ _ _ _ _ _ _ (by omega)))).trans ?_;refine (Zo (n := f + 2) (o2 (by omega) (by omega) (hw 2 (by decide)) op1 (dK2 hm _ _ _ _ _ _ _ _ _ (by omega)))).trans ?_;refine (Zo (n := f + 1) (o2 (by omega) (by omega) (hw 3 (by decide)) op1 (dK3 _ _ _ _ _ _ _ _ _ (by omega)))).trans ?_;exact ZE (n := f) (oe (by omega) (by omega) (hw 4 (by decide)))
theorem Z5a (a2 : Int) (hw : ∀ j, j < 5 → L.getD (p + j) RI.z = (hdP n m).getD j RI.z) (hl : p + 5 ≤ L.length) (h5 : p < 490) (hE : E.length ≤ 1000) : Zcs L 0 a2 p (rg8 r0 r1 r2 r3 r4 r5 r6 r7) E 100000 = some (.r0 0 ((p + 4 : Nat) : Int) (q8 ⟨1, n⟩ ⟨1, m⟩ r4 r5 r6 r7) E) := by unfold Zcs;refine (ZaB (ZxA a2 p _ E hE)).trans ((Zo (n := 99999) (o0 (by omega) (hw 0 (by decide)) op10 (dK0 _ _ _ _ _ _ _ _ p (by omega)))).trans ?_);exact Z1S hn hm r1 r2 r3 r4 r5 r6 r7 (f := 99995) (by decide) hw hl h5
theorem Z5Q (a2 : Int) (e : L.getD p RI.z = ⟨19, 7, 0, 0⟩) (hw : ∀ j, j < 5 → L.getD (p + 1 + j) RI.z = (hdP n m).getD j RI.z) (hl : p + 6 ≤ L.length) (h5 : p < 480) (hE : E.length ≤ 1000) : Zcs L 0 a2 p (rg8 r0 r1 r2 r3 r4 r5 r6 r7) E 100000 = some (.r0 0 ((p + 5 : Nat) : Int) (q8 ⟨1, n⟩ ⟨1, m⟩ r4 r5 r6 r7) (E ++ [r7])) := by unfold Zcs;refine (ZaB (ZxA a2 p _ E hE)).trans ((Zo (n := 99999) (ot (by omega) (by omega) e hE _ _ _ _ _ _ _ _)).trans ((Zo (n := 99998) (o1 (by omega) (by decide) (hw 0 (by decide)) op10 (dK0 _ _ _ _ _ _ _ _ _ (by omega)))).trans ?_));exact Z1S hn hm r1 r2 r3 r4 r5 r6 r7 (p := p + 1) (f := 99994) (by decide) hw hl (by omega)
omit hn hm
theorem Z5R (a2 : Int) (e : L.getD p RI.z = ⟨19, 7, 0, 0⟩) (e2 : L.getD (p + 1) RI.z = ⟨20, 0, 0, 0⟩) (hl : p + 2 ≤ L.length) (h5 : p < 480) (hE : E.length ≤ 1000) : Zcs L 0 a2 p (rg8 r0 r1 r2 r3 r4 r5 r6 r7) E 100000 = some (.r0 2 ((p + 1 : Nat) : Int) (rg8 r0 r1 r2 r3 r4 r5 r6 r7) (E ++ [r7])) := by unfold Zcs;refine (ZaB (ZxA a2 p _ E hE)).trans ((Zo (n := 99999) (ot (by omega) (by omega) e hE _ _ _ _ _ _ _ _)).trans ?_);exact ZE (n := 99998) (of1 (by omega) (by decide) e2)
theorem Z5S (a2 : Int) (R : List RG) (e : L.getD p RI.z = ⟨20, 0, 0, 0⟩) (hl : p < L.length) (hE : E.length ≤ 1000) : Zcs L 0 a2 p R E 100000 = some (.r0 2 p R E) := by unfold Zcs;exact (ZaB (ZxA a2 p _ E hE)).trans (ZE (n := 99999) (of0 hl e))
end
theorem Z0h {O : List RJ} {n : Int} (hl : O.length ≤ 1000) (h : ∀ j, j < O.length → ¬ (ob O j).a1 = n) : ZfK O 2 n 100000 = some .r0 := by
 have go : ∀ d j : Nat, j + d = O.length → ZW (ZfQ O 2 n 100000) (d + 1) (.h1m0 j) = some .r0 := by
  intro d
  induction d with
  | zero =>
   intro j hj;refine ZE ?_;refine Eq.trans (show _ = Zcu O 2 n 100000 j from rfl) ?_;unfold Zcu;rw [if_neg (by omega)]
  | succ d ih =>
   intro j hj;refine (Zo ?_).trans (ih (j + 1) (by omega));refine Eq.trans (show _ = Zcu O 2 n 100000 j from rfl) ?_;unfold Zcu;rw [if_pos (by omega), if_neg (fun c => h j (by omega) c.2), if_pos (by omega)]
 unfold ZfK;exact (ZaB (x := (.h1m0 0 : Zbo)) rfl).trans (Zej (n := O.length + 1) (by omega) (go O.length 0 (by omega)))
theorem Z5b {W : List RG} {n : Int} {k m : Nat} (hk : k ≤ W.length) (hl : W.length ≤ 1000) (h : ∀ j, j < k → ¬ (W.getD j RG.z).a1 = n) : ZfJ W k m 2 n 100000 = some .r0 := by
 have go : ∀ d j : Nat, j + d = k → ZW (ZfP W k m 2 n 100000) (d + 1) (.h1m0 j) = some .r0 := by
  intro d
  induction d with
  | zero =>
   intro j hj;refine ZE ?_;refine Eq.trans (show _ = Zct W k m 2 n 100000 j from rfl) ?_;unfold Zct;rw [if_neg (by omega)]
  | succ d ih =>
   intro j hj;refine (Zo ?_).trans (ih (j + 1) (by omega));refine Eq.trans (show _ = Zct W k m 2 n 100000 j from rfl) ?_;unfold Zct;rw [if_pos (by omega), if_pos (by omega), if_neg (fun c => h j (by omega) c.2), if_pos (by omega)]
 unfold ZfJ;exact (ZaB (x := (.h1m0 0 : Zbn)) rfl).trans (Zej (n := k + 1) (by omega) (go k 0 (by omega)))
structure Nw (O : List RJ) (W : List RG) (c : Int) : Prop where
 w : ∀ i, i < W.length → W.getD i RG.z = ⟨2, c + i⟩
 l : W.length ≤ 4
 c0 : 1048577 ≤ c
 c1 : c ≤ 1050000
 o : ∀ j, j < O.length → (ob O j).a1 < c
 ol : O.length ≤ 1000
theorem Nw.vd {O : List RJ} {W : List RG} {c : Int} (h : Nw O W c) (i : Nat) (hi : i < 5) : Vd (c + i) := by have := h.c0;have := h.c1;unfold Vd;omega
theorem Zl4 {O : List RJ} {W : List RG} {c : Int} (h : Nw O W c) (L0 : List (List RI)) (L1 : List RL) : Zec L0 L1 O W 100000 = some .r0 := by
 have hl := h.l;have go : ∀ d j : Nat, j + d = W.length → ZW (ZfR L0 L1 O W 100000) (d + 1) (.h1m0 j) = some .r0 := by
  intro d
  induction d with
  | zero =>
   intro j hj;refine ZE ?_;refine Eq.trans (show _ = Zcv L0 L1 O W 100000 j from rfl) ?_;unfold Zcv;rw [if_neg (by omega)]
  | succ d ih =>
   intro j hj;refine (Zo ?_).trans (ih (j + 1) (by omega));refine Eq.trans (show _ = Zcv L0 L1 O W 100000 j from rfl) ?_;have v := h.vd j (by omega);unfold Zcv;rw [if_pos (by omega), h.w j (by omega), if_neg (fun c => c rfl)];dsimp only;refine Zs (ZnC v) (Z8 (fun c => c rfl) (Z8 v.ne ?_));refine Zs (Z5b (by omega) (by omega) fun i hi => ?_) ?_
   ·rw [h.w i (by omega)]
    show ¬ c + (i : Int) = c + (j : Int)
    omega
   ·refine Zs (Z0h h.ol fun i hi => ?_) (Zq (by omega) rfl)
    have := h.o i hi;omega
 unfold Zec;exact (ZaB (x := (.h1m0 0 : Zbp)) rfl).trans (Zej (n := W.length + 1) (by omega) (go W.length 0 (by omega)))
theorem Z3O {O : List RJ} {R E : List RG} {p : Int} (hl : O.length ≤ 1000) (h : ∀ j, j < O.length → ¬ (ob O j).a1 = 1125899907891199) : ZcJ O R p E 0 0 [] 100000 = some (.r0 2 1125899907891199 1) := by
 unfold ZcJ;refine (ZaB (x := (.h1m0 : ZbZ)) rfl).trans (ZE (n := 99999) ?_);refine Eq.trans (show _ = ZeF O R p E 0 0 [] 100000 from rfl) ?_;unfold ZeF;have a : ZfA [] 2 1125899907891199 100000 = some .r0 := (ZaB (x := (.h1m0 0 : ZaE)) rfl).trans (ZE (n := 99999) rfl);have w : IntKind.i64.wrap ((1125899907891199 : Int) - 0) = 1125899907891199 := by decide
 rw [w, if_pos (by decide)];exact Zs (a := .r0) a (Zs (a := .r0) (Z0h hl h) rfl)
theorem Nx.none {O : List RJ} (hl : O.length ≤ 1000) (h : ∀ j, j < O.length → (ob O j).a1 < 1050000) : Nx O [] 1125899907891199 1 :=
 ⟨fun O1 R p E l n => Z3O (by omega) fun j hj => by rw [n]; have := h j (by omega); omega, by unfold Vd; omega, fun j hj => by have := h j hj; omega⟩
theorem Nx.one {O : List RJ} {W : List RG} {c : Int} (h : Nw O W c) (hW : 0 < W.length) : Nx O W c 0 := by
 cases W with
 | nil => cases hW
 | cons x W =>
  have e : x = ⟨2, c⟩ := by have := h.w 0 hW;rw [show c + ((0 : Nat) : Int) = c by omega] at this;exact this
  subst e;have v := h.vd 0 (by omega);rw [show c + ((0 : Nat) : Int) = c by omega] at v;exact ⟨fun O1 R p E _ _ => Z5M _ W, v, fun j hj => by have := h.o j hj; omega⟩
abbrev Row := RL
def Z2V (pc : Int) (r0 r1 r2 r3 r4 r5 r6 r7 : RG) (E : List RG) : Row := ⟨0, 0, pc, r0.a0, r0.a1, r1.a0, r1.a1, r2.a0, r2.a1, r3.a0, r3.a1, r4.a0, r4.a1, r5.a0, r5.a1, r6.a0, r6.a1, r7.a0, r7.a1, E⟩
abbrev regs (r : Row) : List RG := [⟨r.a3, r.a4⟩, ⟨r.a5, r.a6⟩, ⟨r.a7, r.a8⟩, ⟨r.a9, r.a10⟩, ⟨r.a11, r.a12⟩, ⟨r.a13, r.a14⟩, ⟨r.a15, r.a16⟩, ⟨r.a17, r.a18⟩]
inductive Th (l : List Pc) : Nat → List RG → Row → Prop where
 | new (r0 r1 r2 r3 r4 r5 r6 r7 : RG) : Th l 0 [] (Z2V 0 r0 r1 r2 r3 r4 r5 r6 r7 [])
 | on (a : Nat) (r0 r1 r2 r3 r4 r5 r6 r7 : RG) (E : List RG) (ha : a < l.length) (hE : E.length = a) : Th l (a + 1) (E ++ [r7]) (Z2V ((off l a + (l.getD a pz).d.len : Nat) : Int) r0 r1 r2 r3 r4 r5 r6 r7 E)
structure Pg (l : List Pc) : Prop where
 l4 : l.length ≤ 4
 x : ∀ x ∈ l, PcOk x
theorem Pg.at' {l : List Pc} (h : Pg l) {a : Nat} (ha : a < l.length) : PcOk (l.getD a pz) := by rw [List.getD_eq_getElem?_getD, List.getElem?_eq_getElem ha];exact h.x _ (List.getElem_mem ha)
theorem PcOk.h1 {x : Pc} (h : PcOk x) : 0 ≤ x.h1 ∧ x.h1 ≤ 255 := by have := h.n0;have := h.n1;unfold Pc.h1;cases x.d <;> (dsimp only; omega)
theorem PcOk.h2 {x : Pc} (h : PcOk x) : 0 ≤ x.h2 ∧ x.h2 ≤ 255 := by have := h.m;unfold Pc.h2;cases x.d <;> (dsimp only; omega)
theorem hd_of (x : Pc) (s : Int) : ∃ r, pcs x s = hdP x.h1 x.h2 ++ r := by obtain ⟨d, q, to, n, m⟩ := x;cases d <;> exact ⟨_, rfl⟩
section
variable {l : List Pc} (H : Pg l) {a : Nat} {T : List RG} {row : Row} (K : Th l a T row)
include K
theorem Th.a0 : row.a0 = 0 := by cases K <;> rfl
theorem Th.a1 : row.a1 = 0 := by cases K <;> rfl
theorem Th.le : a ≤ l.length := by cases K <;> omega
theorem Th.len : T.length = a := by
 cases K with
 | new => rfl
 | on a _ _ _ _ _ _ _ _ E ha hE => rw [List.length_append, hE]; rfl
include H
theorem Z5r (ha : a < l.length) : ∃ r4 r5 r6 r7, Zcs (prg 0 l) row.a0 row.a1 row.a2 (regs row) row.a19 100000 = some (.r0 0 ((off l a + 4 : Nat) : Int) (q8 ⟨1, (l.getD a pz).h1⟩ ⟨1, (l.getD a pz).h2⟩ r4 r5 r6 r7) T) := by
 obtain ⟨c, M, W⟩ := ZpY H.l4 H.x;have P := H.at' ha;have w := W a ha;have hw : ∀ j, j < 5 → (prg 0 l).getD (off l a + j) RI.z = (hdP (l.getD a pz).h1 (l.getD a pz).h2).getD j RI.z := fun j hj => by
  have l5 : 5 ≤ (l.getD a pz).d.len := by cases (l.getD a pz).d <;> decide
  rw [w.w j (by omega)];obtain ⟨r, e⟩ := hd_of (l.getD a pz) (off l a);rw [e];exact Zdc (by exact hj)
 have hl := w.l;have h4 := w.s4;have l5 : 20 ≤ (l.getD a pz).d.len := by cases (l.getD a pz).d <;> decide
 cases K with
 | new r0 r1 r2 r3 r4 r5 r6 r7 =>
  rw [Zs8] at hw hl h4 ⊢;exact ⟨r4, r5, r6, r7, Z5a P.h1 P.h2 r0 r1 r2 r3 r4 r5 r6 r7 (p := 0) (E := []) 0 hw (by omega) (by decide) (by decide)⟩
 | on a r0 r1 r2 r3 r4 r5 r6 r7 E ha' hE =>
  have e := (Zql l 0 a ha').2;have o := ZiT l a ha';have hl4 := H.l4;rw [show off l (a + 1) + 4 = off l a + (l.getD a pz).d.len + 5 by omega];exact ⟨r4, r5, r6, r7, Z5Q P.h1 P.h2 r0 r1 r2 r3 r4 r5 r6 r7 (p := off l a + (l.getD a pz).d.len) (E := E) 0 e (fun j hj => by rw [← o]; exact hw j hj) (by omega) (by omega) (by omega)⟩
theorem Z3P (ha : a = l.length) : ∃ pc R, Zcs (prg 0 l) row.a0 row.a1 row.a2 (regs row) row.a19 100000 = some (.r0 2 pc R T) := by
 have e2 := Zqm l 0;cases K with
 | new r0 r1 r2 r3 r4 r5 r6 r7 =>
  rw [← ha, Zs8] at e2;exact ⟨_, _, Z5S (p := 0) (E := []) 0 _ e2.1 (by omega) (by decide)⟩
 | on a r0 r1 r2 r3 r4 r5 r6 r7 E ha' hE =>
  have e := (Zql l 0 a ha').2;have o := ZiT l a ha';have hl4 := H.l4;have := Zua l a (by omega);have l5 : (l.getD a pz).d.len ≤ 35 := by cases (l.getD a pz).d <;> decide
  rw [← ha, o] at e2;exact ⟨_, _, Z5R r0 r1 r2 r3 r4 r5 r6 r7 (p := off l a + (l.getD a pz).d.len) (E := E) 0 e e2.1 (by omega) (by omega) (by omega)⟩
end
structure Sy (O : List RJ) (I : Int → List Nat) (S : Int → List Int) (made : Nat) : Prop where
 q : Qs O I S
 nm : ∀ j, 1 ≤ j → j < O.length → (ob O j).a1 = 1048593 + j
 len : O.length = made + 1
 s : ∀ q, (S q).length ≤ made
 m : made ≤ 800
abbrev idn (made k : Nat) : RG := ⟨2, (1048594 + made : Int) + (k : Int)⟩
theorem Sy.lt {O : List RJ} {I : Int → List Nat} {S : Int → List Int} {made : Nat} (h : Sy O I S made) (j : Nat) (hj : j < O.length) : (ob O j).a1 < 1048594 + made := by
 cases j with
 | zero => rw [h.q.r1]; omega
 | succ j =>
  rw [h.nm (j + 1) (by omega) hj];have := h.len;omega
theorem Sy.nw {O : List RJ} {I : Int → List Nat} {S : Int → List Int} {made : Nat} (h : Sy O I S made) {W : List RG} (hW : W = [] ∨ W = [idn made 0] ∨ W = [idn made 0, idn made 1] ∨ W = [idn made 0, idn made 1, idn made 2]) : Nw O W (1048594 + made) := by
 have hl : W.length ≤ 3 := by rcases hW with rfl | rfl | rfl | rfl <;> simp
 have hm := h.m;refine ⟨fun i hi => ?_, by omega, by omega, by omega, h.lt, h.q.m.len⟩;have : i = 0 ∨ i = 1 ∨ i = 2 := by omega
 rcases hW with rfl | rfl | rfl | rfl <;> rcases this with rfl | rfl | rfl <;> first | rfl | exact absurd hi (by simp)
theorem Sy.nx {O : List RJ} {I : Int → List Nat} {S : Int → List Int} {made : Nat} (h : Sy O I S made) {W : List RG} (hW : W = [] ∨ W = [idn made 0] ∨ W = [idn made 0, idn made 1] ∨ W = [idn made 0, idn made 1, idn made 2]) : ∃ id tr, Nx O W id tr ∧ (¬ W = [] → id = 1048594 + made) := by
 have hm := h.m;by_cases c : W = []
 ·subst c
  exact ⟨_, _, Nx.none h.q.m.len fun j hj => by have := h.lt j hj; omega, fun c => absurd rfl c⟩
 ·exact ⟨_, _, Nx.one (h.nw hW) (by cases W with | nil => exact absurd rfl c | cons => exact Nat.succ_pos _), fun _ => rfl⟩
section
variable {P : List (List RI)} {rows : List Row} {t : Nat} (hP : t < P.length) (hr : t < rows.length) (hr9 : rows.length ≤ 100) {l : List Pc} (eP : P.getD t [] = prg 0 l) (H : Pg l) {a : Nat} {T : List RG} {row : Row} (er : rows.getD t RL.z = row) (K : Th l a T row) {O : List RJ}
include hP hr eP H er K
theorem Zv1 (ha : a < l.length) : ∃ r4 r5 r6 r7, ZcG P rows O t 100000 = some (.r1 0 ((off l a + 4 : Nat) : Int) (q8 ⟨1, (l.getD a pz).h1⟩ ⟨1, (l.getD a pz).h2⟩ r4 r5 r6 r7) T) := by
 obtain ⟨r4, r5, r6, r7, e⟩ := Z5r H K ha;obtain ⟨c, M, W⟩ := ZpY H.l4 H.x;have w := W a ha;have hl := w.l;have l5 : 20 ≤ (l.getD a pz).d.len := by cases (l.getD a pz).d <;> decide
 refine ⟨r4, r5, r6, r7, ?_⟩;unfold ZcG;rw [if_neg (by omega), if_neg (by omega), Int.toNat_natCast, er, if_neg (by rw [K.a0]; decide), if_pos hP, eP];refine Zs e ?_;dsimp only;rw [if_neg (by decide), if_pos (by omega), Int.toNat_natCast, if_pos (by omega), w.at4, if_pos rfl]
theorem Z5c (ha : a = l.length) : ZcG P rows O t 100000 = some .r0 := by obtain ⟨pc, R, e⟩ := Z3P H K ha;unfold ZcG;rw [if_neg (by omega), if_neg (by omega), Int.toNat_natCast, er, if_neg (by rw [K.a0]; decide), if_pos hP, eP];exact Zs e (Zq (by decide) rfl)
theorem Z5d (made : Int) (ha : a = l.length) : Za9 P rows O t made 100000 = some (.r0 rows O made false) := by unfold Za9;refine ZmN ?_;unfold Zfg;rw [Z5c hP hr eP H er K ha];rfl
omit hr K er in
theorem Z0i (ha : a < l.length) {R E W : List RG} {O' : List RJ} {R' : List RG} {p u tr : Int} {o : Bool} (h : ZaQ (prg 0 l) t O R ((off l a + 4 : Nat) : Int) E 0 0 W 100000 = some (.r0 O' R' p u tr o)) (a4 a5 : Int) : ZeL P rows O t a4 a5 ((off l a + 4 : Nat) : Int) R E W 100000 = some (.r0 O' R' p u tr o) := by
 obtain ⟨c, M, w⟩ := ZpY H.l4 H.x;have w := w a ha;have hl := w.l;have l5 : 20 ≤ (l.getD a pz).d.len := by cases (l.getD a pz).d <;> decide
 unfold ZeL;rw [if_pos (by omega), Int.toNat_natCast, if_pos hP, if_pos (by omega), eP, Int.toNat_natCast, if_pos (by omega), w.at4, if_pos rfl, h];rfl
theorem Z1T (ha : a < l.length) {W : List RG} (hf : Zec P rows O W 100000 = some .r0) (hb : ∀ r4 r5 r6 r7, ∃ O' R' p u tr o, ZaQ (prg 0 l) t O (q8 ⟨1, (l.getD a pz).h1⟩ ⟨1, (l.getD a pz).h2⟩ r4 r5 r6 r7) ((off l a + 4 : Nat) : Int) T 0 0 W 100000 = some (.r0 O' R' p u tr o) ∧ (o = true → ¬ u = (W.length : Int))) : ZcO P rows O 2 t ((off l a + 4 : Nat) : Int) 0 0 0 W 0 100000 = some (.r0 rows O 200) := by
 obtain ⟨r4, r5, r6, r7, e⟩ := Zv1 (O := O) hP hr eP H er K ha;obtain ⟨O', R', p, u, tr, o, hb, ho⟩ := hb r4 r5 r6 r7;unfold ZcO;rw [e, Option.bind_some];dsimp only;rw [if_neg (fun c => c rfl), if_neg (by decide), if_neg (by decide), hf, Option.bind_some, Z0i (rows := rows) hP eP H ha hb, Option.bind_some];dsimp only;cases o with
 | false => rw [if_pos (by decide)]
 | true => rw [if_neg (by decide), if_pos (ho rfl)]
include hr9
theorem Z1U (ha : a < l.length) {W : List RG} (hf : Zec P rows O W 100000 = some .r0) {v : Int} {Y : List RJ → Prop} (hb : ∀ r4 r5 r6 r7, ∃ O' r1 r2 r4' r5' r6' tr, ZaQ (prg 0 l) t O (q8 ⟨1, (l.getD a pz).h1⟩ ⟨1, (l.getD a pz).h2⟩ r4 r5 r6 r7) ((off l a + 4 : Nat) : Int) T 0 0 W 100000 = some (.r0 O' (q8 r1 r2 r4' r5' r6' ⟨1, v⟩) ((off l a + (l.getD a pz).d.len : Nat) : Int) (W.length : Int) tr true) ∧ Y O') : ∃ O' row', ZcO P rows O 2 t ((off l a + 4 : Nat) : Int) 0 0 0 W 0 100000 = some (.r0 (rows.set t row') O' 0) ∧ Y O' ∧ Th l (a + 1) (T ++ [⟨1, v⟩]) row' := by
 obtain ⟨r4, r5, r6, r7, e⟩ := Zv1 (O := O) hP hr eP H er K ha;obtain ⟨O', r1, r2, r4', r5', r6', tr, hb, hY⟩ := hb r4 r5 r6 r7;refine ⟨O', Z2V ((off l a + (l.getD a pz).d.len : Nat) : Int) ⟨2, 1048577⟩ r1 r2 ⟨1, 1⟩ r4' r5' r6' ⟨1, v⟩ T, ?_, hY, .on a _ _ _ _ _ _ _ _ T ha K.len⟩;unfold ZcO;rw [e, Option.bind_some];dsimp only;rw [if_neg (fun c => c rfl), if_neg (by decide), if_neg (by decide), hf, Option.bind_some, Z0i (rows := rows) hP eP H ha hb, Option.bind_some];dsimp only;rw [if_neg (by decide), if_neg (fun c => c rfl)];have w : ∀ a4 a5 a6 L7 L8, ZcN P rows O' t a4 a5 a6 L7 L8 100000 = some .r0 := fun a4 a5 a6 L7 L8 => by unfold ZcN;rw [if_neg (by omega), if_pos (by omega), if_pos (by omega), Int.toNat_natCast, if_pos (by omega)]
 rw [w, Option.bind_some, Int.toNat_natCast, er, K.a1];rfl
end
theorem ZmR {S : Int → List Int} {n : Nat} (h : ∀ q, (S q).length ≤ n) {q : Int} {w : List Int} {m : Nat} (hw : w.length ≤ m) (hm : n ≤ m) (k : Int) : (ud S q w k).length ≤ m := by
 unfold ud;by_cases c : k = q
 ·rw [if_pos c]; exact hw
 ·rw [if_neg c]; have := h k; omega
theorem Z3Q {S S' : Int → List Int} {x : Pc} {v : Int} {b : Bool} {n : Nat} (e : Zf6 S x = some (S', v, b)) (h : ∀ q, (S q).length ≤ n) (k : Int) : (S' k).length ≤ n + (if b then 1 else 0) := by
 obtain ⟨d, q, to, y, m⟩ := x;have hq := h q;unfold Zf6 at e;cases d with
 | put =>
  dsimp only at e;by_cases c : ((S q).length : Int) < m
  ·rw [if_pos c] at e
   cases e;exact ZmR h (by rw [List.length_append, List.length_cons, List.length_nil]; show _ ≤ n + 1; omega) (by omega) k
  ·rw [if_neg c] at e; cases e
 | take =>
  dsimp only at e;cases c : S q with
  | nil => rw [c] at e; cases e
  | cons v w =>
   rw [c] at e hq;cases e;exact ZmR h (by rw [List.length_cons] at hq; omega) (by omega) k
 | try' =>
  dsimp only at e;cases c : S q with
  | nil => rw [c] at e; cases e; exact h k
  | cons v w =>
   rw [c] at e hq;cases e;exact ZmR h (by rw [List.length_cons] at hq; omega) (by omega) k
 | pass =>
  dsimp only at e;cases c : S q with
  | nil => rw [c] at e; cases e
  | cons v w =>
   rw [c] at e hq;dsimp only at e;have h1 : ∀ k, (ud S q w k).length ≤ n := fun k => ZmR h (by rw [List.length_cons] at hq; omega) (Nat.le_refl _) k;by_cases f : ((ud S q w to).length : Int) < m
   ·rw [if_pos f] at e
    cases e;have := h1 to;exact ZmR h1 (by rw [List.length_append, List.length_cons, List.length_nil]; show _ ≤ n + 1; omega) (by omega) k
   ·rw [if_neg f] at e; cases e
section
variable {P : List (List RI)} {rows : List Row} {t : Nat} (hP : t < P.length) (hr : t < rows.length) (hr9 : rows.length ≤ 100) {l : List Pc} (eP : P.getD t [] = prg 0 l) (H : Pg l) {a : Nat} {T : List RG} {row : Row} (er : rows.getD t RL.z = row) (K : Th l a T row) {O : List RJ} {made : Nat} {pc : Int}
theorem ZkZ {k : Nat} (hk : k < 4) (hm : made ≤ 800) {W : List RG} (hW : W.length < 10) (hd : ZcO P rows O 2 t pc 0 0 0 W 0 100000 = some (.r0 rows O 200)) : Zff P rows O t made 100000 (.h1m0 k pc W) = some (.inl (.h1m0 (k + 1) pc (W ++ [idn made k]))) := by refine Eq.trans (show _ = ZcP P rows O t made 100000 k pc W from rfl) ?_;unfold ZcP;rw [if_pos (by omega), hd, Option.bind_some];dsimp only;have w1 : IntKind.i64.wrap (1048594 + (made : Int)) = 1048594 + (made : Int) := w64 (by omega) (by omega);rw [if_neg (by decide), if_pos (by omega), w1, w64 (by omega) (by omega)]
theorem Zwb {k : Nat} (hk : k < 4) (hm : made ≤ 800) {W : List RG} {rows' : List Row} {O' : List RJ} (hd : ZcO P rows O 2 t pc 0 0 0 W 0 100000 = some (.r0 rows' O' 0)) : Zff P rows O t made 100000 (.h1m0 k pc W) = some (.inr (.r0 rows' O' ((made + k : Nat) : Int) true)) := by refine Eq.trans (show _ = ZcP P rows O t made 100000 k pc W from rfl) ?_;unfold ZcP;rw [if_pos (by omega), hd, Option.bind_some];dsimp only;rw [if_pos rfl, w64 (by omega) (by omega)];rw [show ((made + k : Nat) : Int) = (made : Int) + (k : Int) by omega]
include hP hr eP H er K
theorem Zv2 (ha : a < l.length) : Zfg P rows O t made 100000 = some (.inl (.h1m0 0 ((off l a + 4 : Nat) : Int) [])) := by obtain ⟨r4, r5, r6, r7, e⟩ := Zv1 (O := O) hP hr eP H er K ha;unfold Zfg;rw [e];rfl
variable {I : Int → List Nat} {S : Int → List Int} (Y : Sy O I S made) (hm9 : made < 799)
include Y hm9
omit hP hr eP er K in
theorem Zub (ha : a < l.length) {W : List RG} {id tr : Int} (X : Nx O W id tr) (r4 r5 r6 r7 : RG) : ZfX (prg 0 l) t O (q8 ⟨1, (l.getD a pz).h1⟩ ⟨1, (l.getD a pz).h2⟩ r4 r5 r6 r7) S T W id tr (l.getD a pz) (off l a) := by obtain ⟨c, M, w⟩ := ZpY H.l4 H.x;have hl := Y.len;exact Z62 (w a ha) (H.at' ha) Y.q (fun q => by have := Y.s q; omega) (by omega) X T r4 r5 r6 r7
theorem Z3R (ha : a < l.length) (e : Zf6 S (l.getD a pz) = none) : Za9 P rows O t made 100000 = some (.r0 rows O made false) := by
 have no : ∀ W, (W = [] ∨ W = [idn made 0] ∨ W = [idn made 0, idn made 1] ∨ W = [idn made 0, idn made 1, idn made 2]) → ZcO P rows O 2 t ((off l a + 4 : Nat) : Int) 0 0 0 W 0 100000 = some (.r0 rows O 200) := fun W hW => by obtain ⟨id, tr, X, _⟩ := Y.nx hW;refine Z1T hP hr eP H er K ha (Zl4 (Y.nw hW) _ _) fun r4 r5 r6 r7 => ?_;have b := Zub (T := T) (t := t) H Y hm9 ha X r4 r5 r6 r7;unfold ZfX at b;rw [e] at b;obtain ⟨O', R', p, u, tr', b⟩ := b;exact ⟨O', R', p, u, tr', false, b, fun c => by cases c⟩
 have hm : made ≤ 800 := by omega
 unfold Za9;refine (ZaB (Zv2 hP hr eP H er K ha)).trans ?_;refine (Zo (n := 99999) (ZkZ (by decide) hm (by decide) (no [] (by simp)))).trans ?_;refine (Zo (n := 99998) (ZkZ (by decide) hm (by show 1 < 10; decide) (no [idn made 0] (by simp)))).trans ?_;refine (Zo (n := 99997) (ZkZ (by decide) hm (by show 2 < 10; decide) (no [idn made 0, idn made 1] (by simp)))).trans ?_;refine (Zo (n := 99996) (ZkZ (by decide) hm (by show 3 < 10; decide) (no [idn made 0, idn made 1, idn made 2] (by simp)))).trans ?_;exact ZE (n := 99995) rfl
include hr9
theorem Z5T (ha : a < l.length) {S' : Int → List Int} {v : Int} {b : Bool} (e : Zf6 S (l.getD a pz) = some (S', v, b)) : ∃ O' I' row', Za9 P rows O t made 100000 = some (.r0 (rows.set t row') O' ((made + (if b then 1 else 0) : Nat) : Int) true) ∧ Sy O' I' S' (made + (if b then 1 else 0)) ∧ Th l (a + 1) (T ++ [⟨1, v⟩]) row' := by
 have sl := Z3Q e Y.s;have hm : made ≤ 800 := by omega
 have hl := Y.len;cases b with
 | false =>
  obtain ⟨id, tr, X, _⟩ := Y.nx (W := []) (by simp);obtain ⟨O', row', d, ⟨I', y⟩, k⟩ := Z1U (O := O) (Y := fun O' => ∃ I', Sy O' I' S' made) (v := v) hP hr hr9 eP H er K ha (Zl4 (Y.nw (W := []) (by simp)) _ _) (fun r4 r5 r6 r7 => by
   have bk := Zub (T := T) (t := t) H Y hm9 ha X r4 r5 r6 r7;unfold ZfX at bk;rw [e] at bk;obtain ⟨O', I', r1, r2, r4', r5', r6', bk, Q', l', n', _⟩ := bk;exact ⟨O', r1, r2, r4', r5', r6', _, bk, I', Q', fun j h1 h2 => by have l' : O'.length = O.length := l';rw [n' j (by omega)];exact Y.nm j h1 (by omega), by have l' : O'.length = O.length := l'; omega, sl, hm⟩)
  refine ⟨O', I', row', ?_, y, k⟩;unfold Za9;exact (ZaB (Zv2 hP hr eP H er K ha)).trans (ZE (n := 99999) (Zwb (k := 0) (by decide) hm d))
 | true =>
  have no : ZcO P rows O 2 t ((off l a + 4 : Nat) : Int) 0 0 0 [] 0 100000 = some (.r0 rows O 200) := by obtain ⟨id, tr, X, _⟩ := Y.nx (W := []) (by simp);refine Z1T hP hr eP H er K ha (Zl4 (Y.nw (W := []) (by simp)) _ _) fun r4 r5 r6 r7 => ?_;have b := Zub (T := T) (t := t) H Y hm9 ha X r4 r5 r6 r7;unfold ZfX at b;rw [e] at b;obtain ⟨O', I', r1, r2, r4', r5', r6', bk, Q', l', n', _⟩ := b;exact ⟨_, _, _, _, _, _, bk, fun _ => by show ¬ (1 : Int) = 0; decide⟩
  obtain ⟨id, tr, X, hid⟩ := Y.nx (W := [idn made 0]) (by simp);have hid := hid (by simp);obtain ⟨O', row', d, ⟨I', y⟩, k⟩ := Z1U (O := O) (Y := fun O' => ∃ I', Sy O' I' S' (made + 1)) (v := v) hP hr hr9 eP H er K ha (Zl4 (Y.nw (W := [idn made 0]) (by simp)) _ _) (fun r4 r5 r6 r7 => by
   have bk := Zub (T := T) (t := t) H Y hm9 ha X r4 r5 r6 r7;unfold ZfX at bk;rw [e] at bk;obtain ⟨O', I', r1, r2, r4', r5', r6', bk, Q', l', n', i'⟩ := bk;have l' : O'.length = O.length + 1 := l';exact ⟨O', r1, r2, r4', r5', r6', _, bk, I', Q', fun j h1 h2 => by
    by_cases c : j < O.length
    ·rw [n' j c]
     exact Y.nm j h1 c
    ·have : j = O.length := by omega
     subst this;rw [i' rfl, hid, hl];omega, by omega, sl, by omega⟩)
  refine ⟨O', I', row', ?_, y, k⟩;unfold Za9;refine (ZaB (Zv2 hP hr eP H er K ha)).trans ?_;refine (Zo (n := 99999) (ZkZ (by decide) hm (by decide) no)).trans ?_;exact ZE (n := 99998) (Zwb (k := 1) (by decide) hm d)
end
structure Qf (S : Int → List Int) (L0 L1 L2 L3 : List Int) : Prop where
 e0 : S 0 = L0
 e1 : S 1 = L1
 e2 : S 2 = L2
 e3 : S 3 = L3
section
variable {S : Int → List Int} {L0 L1 L2 L3 : List Int} (h : Qf S L0 L1 L2 L3) {a : Int} (ha : a = 0 ∨ a = 1 ∨ a = 2 ∨ a = 3)
include h ha
theorem Zs9 (e : S a = []) : Zd8 L0 L1 L2 L3 a 100000 = some (.r0 L0 L1 L2 L3 0 false) := by
 obtain ⟨rfl, rfl, rfl, rfl⟩ := h;unfold Zd8;rcases ha with rfl | rfl | rfl | rfl
 ·rw [if_pos rfl, e]; rfl
 ·rw [if_neg (by decide), if_pos rfl, e]; rfl
 ·rw [if_neg (by decide), if_neg (by decide), if_pos rfl, e]; rfl
 ·rw [if_neg (by decide), if_neg (by decide), if_neg (by decide), if_pos rfl, e]; rfl
theorem ZsA {v : Int} {w : List Int} (e : S a = v :: w) : Zd8 L0 L1 L2 L3 a 100000 = some (.r0 (ud S a w 0) (ud S a w 1) (ud S a w 2) (ud S a w 3) v true) := by
 obtain ⟨rfl, rfl, rfl, rfl⟩ := h;have n : ¬ ((((v :: w).length : Nat) : Int) = 0) := by rw [List.length_cons]; omega
 have d : ((v :: w).drop 1).take ((v :: w).length - 1) = w := by show w.take (w.length + 1 - 1) = w;rw [Nat.add_sub_cancel, List.take_length]
 unfold Zd8;rcases ha with rfl | rfl | rfl | rfl
 ·rw [if_pos rfl, e, if_neg n, d]; rfl
 ·rw [if_neg (by decide), if_pos rfl, e, if_neg n, d]; rfl
 ·rw [if_neg (by decide), if_neg (by decide), if_pos rfl, e, if_neg n, d]; rfl
 ·rw [if_neg (by decide), if_neg (by decide), if_neg (by decide), if_pos rfl, e, if_neg n, d]; rfl
def plP : ZY → Option (List Int × List Int × List Int × List Int)
 | .r0 _ _ _ _ => none
 | .r1 a b c d => some (a, b, c, d)
 | .r2 a b c d => some (a, b, c, d)
 | .r3 a b c d => some (a, b, c, d)
 | .r4 a b c d => some (a, b, c, d)
theorem Zwc {x m : Int} (f : ¬ ((S a).length : Int) < m) : ZcU L0 L1 L2 L3 a x m 100000 = some (.r0 L0 L1 L2 L3) := by
 obtain ⟨rfl, rfl, rfl, rfl⟩ := h;unfold ZcU;rcases ha with rfl | rfl | rfl | rfl
 ·rw [if_pos rfl, if_pos (by omega)]
 ·rw [if_neg (by decide), if_pos rfl, if_pos (by omega)]
 ·rw [if_neg (by decide), if_neg (by decide), if_pos rfl, if_pos (by omega)]
 ·rw [if_neg (by decide), if_neg (by decide), if_neg (by decide), if_pos rfl, if_pos (by omega)]
theorem Zwd {x m : Int} (hl : ∀ q, (S q).length ≤ 1000) (f : ((S a).length : Int) < m) : ∃ r, ZcU L0 L1 L2 L3 a x m 100000 = some r ∧ plP r = some (ud S a (S a ++ [x]) 0, ud S a (S a ++ [x]) 1, ud S a (S a ++ [x]) 2, ud S a (S a ++ [x]) 3) := by
 obtain ⟨rfl, rfl, rfl, rfl⟩ := h;have hb := hl a;unfold ZcU;rcases ha with rfl | rfl | rfl | rfl
 ·rw [if_pos rfl, if_neg (by omega)]
  by_cases c : (S 0).length = 0
  ·rw [if_pos c, List.eq_nil_of_length_eq_zero c]
   exact ⟨_, rfl, rfl⟩
  ·rw [if_neg c, if_pos (by omega)]
   exact ⟨_, rfl, rfl⟩
 ·rw [if_neg (by decide), if_pos rfl, if_neg (by omega)]
  by_cases c : (S 1).length = 0
  ·rw [if_pos c, List.eq_nil_of_length_eq_zero c]
   exact ⟨_, rfl, rfl⟩
  ·rw [if_neg c, if_pos (by omega)]
   exact ⟨_, rfl, rfl⟩
 ·rw [if_neg (by decide), if_neg (by decide), if_pos rfl, if_neg (by omega)]
  by_cases c : (S 2).length = 0
  ·rw [if_pos c, List.eq_nil_of_length_eq_zero c]
   exact ⟨_, rfl, rfl⟩
  ·rw [if_neg c, if_pos (by omega)]
   exact ⟨_, rfl, rfl⟩
 ·rw [if_neg (by decide), if_neg (by decide), if_neg (by decide), if_pos rfl, if_neg (by omega)]
  by_cases c : (S 3).length = 0
  ·rw [if_pos c, List.eq_nil_of_length_eq_zero c]
   exact ⟨_, rfl, rfl⟩
  ·rw [if_neg c, if_pos (by omega)]
   exact ⟨_, rfl, rfl⟩
end
section
variable {S : Int → List Int} {L0 L1 L2 L3 : List Int} (h : Qf S L0 L1 L2 L3) {x : RM} (B : By x) (hl : ∀ q, (S q).length ≤ 900)
include h B hl
theorem Zqn : (Zf6 S (Zes x) = none → ∃ y0 y1 y2 y3 y4, Zdm L0 L1 L2 L3 x.a0 x.a1 x.a2 x.a3 x.a4 100000 = some (.r0 y0 y1 y2 y3 y4 false)) ∧ (∀ S' v b, Zf6 S (Zes x) = some (S', v, b) → Zdm L0 L1 L2 L3 x.a0 x.a1 x.a2 x.a3 x.a4 100000 = some (.r0 (S' 0) (S' 1) (S' 2) (S' 3) v true)) := by
 have O := B.ok;obtain ⟨h0, h1, h2, h3, h4⟩ := B;have Oq : x.a1 % 4 = 0 ∨ x.a1 % 4 = 1 ∨ x.a1 % 4 = 2 ∨ x.a1 % 4 = 3 := O.q;have Ot : x.a2 % 4 = 0 ∨ x.a2 % 4 = 1 ∨ x.a2 % 4 = 2 ∨ x.a2 % 4 = 3 := O.to;have ek : Zes x = ⟨Z0e x.a0, x.a1 % 4, x.a2 % 4, x.a3, 1 + x.a4 % 3⟩ := rfl;rw [ek];unfold Zdm;rw [if_pos h0.1, if_pos h0.2, if_pos h1.1, if_pos h1.2, if_pos h2.1, if_pos h2.2, if_pos h3.1, if_pos h3.2, if_pos h4.1, if_pos h4.2];unfold Zf6 Z0e;by_cases c1 : x.a0 % 4 = 1
 ·rw [if_pos c1, if_pos c1]
  dsimp only;cases e : S (x.a1 % 4) with
  | nil =>
   rw [Zs9 h Oq e];exact ⟨fun _ => ⟨_, _, _, _, _, rfl⟩, fun _ _ _ c => by cases c⟩
  | cons v w =>
   rw [ZsA h Oq e];exact ⟨fun c => (by cases c), fun _ _ _ c => by cases c; rfl⟩
 ·rw [if_neg c1, if_neg c1]
  by_cases c2 : x.a0 % 4 = 2
  ·rw [if_pos c2, if_pos c2]
   dsimp only;cases e : S (x.a1 % 4) with
   | nil =>
    rw [Zs9 h Oq e];refine ⟨fun c => (by cases c), fun _ _ _ c => ?_⟩;cases c;rw [h.e0, h.e1, h.e2, h.e3];rfl
   | cons v w =>
    rw [ZsA h Oq e];exact ⟨fun c => (by cases c), fun _ _ _ c => by cases c; rfl⟩
  ·rw [if_neg c2, if_neg c2]
   by_cases c3 : x.a0 % 4 = 3
   ·rw [if_pos c3, if_pos c3]
    dsimp only;cases e : S (x.a1 % 4) with
    | nil =>
     rw [Zs9 h Oq e];exact ⟨fun _ => ⟨_, _, _, _, _, rfl⟩, fun _ _ _ c => by cases c⟩
    | cons v w =>
     rw [ZsA h Oq e, Option.bind_some];dsimp only;rw [if_neg (c := ¬ true = true) (fun h => h rfl)];have h' : Qf (ud S (x.a1 % 4) w) (ud S (x.a1 % 4) w 0) (ud S (x.a1 % 4) w 1) (ud S (x.a1 % 4) w 2) (ud S (x.a1 % 4) w 3) := ⟨rfl, rfl, rfl, rfl⟩
     by_cases f : ((ud S (x.a1 % 4) w (x.a2 % 4)).length : Int) < 1 + x.a4 % 3
     ·rw [if_pos f]
      have l' : ∀ q, (ud S (x.a1 % 4) w q).length ≤ 1000 := fun q => by have hq := hl (x.a1 % 4);rw [e, List.length_cons] at hq;exact ZmR hl (m := 1000) (by omega) (by omega) q
      obtain ⟨r, er, ep⟩ := Zwd h' Ot l' (x := v) f;rw [er, Option.bind_some];refine ⟨fun c => (by cases c), fun _ _ _ c => ?_⟩;cases c;cases r with
      | r0 => cases ep
      | r1 => cases ep; rfl
      | r2 => cases ep; rfl
      | r3 => cases ep; rfl
      | r4 => cases ep; rfl
     ·rw [if_neg f, Zwc h' Ot f]
      exact ⟨fun _ => ⟨_, _, _, _, _, rfl⟩, fun _ _ _ c => by cases c⟩
   ·rw [if_neg c3, if_neg c3]
    dsimp only;by_cases f : ((S (x.a1 % 4)).length : Int) < 1 + x.a4 % 3
    ·rw [if_pos f]
     obtain ⟨r, er, ep⟩ := Zwd h Oq (fun q => by have := hl q; omega) (x := x.a3) f;rw [er, Option.bind_some];refine ⟨fun c => (by cases c), fun _ _ _ c => ?_⟩;cases c;cases r with
     | r0 => cases ep
     | r1 => cases ep; rfl
     | r2 => cases ep; rfl
     | r3 => cases ep; rfl
     | r4 => cases ep; rfl
    ·rw [if_neg f, Zwc h Oq f]
     exact ⟨fun _ => ⟨_, _, _, _, _, rfl⟩, fun _ _ _ c => by cases c⟩
end
abbrev Zf7 (r : List RM) : List Pc := r.map Zes
structure Lv (k : List (List RM)) (at' : List Int) (made : Nat) (P : List (List RI)) (rows : List Row) (O : List RJ) (S : Int → List Int) (ts : List (List RG)) : Prop where
 n : k.length ≤ 3
 kb : ∀ r ∈ k, r.length ≤ 4 ∧ ∀ x ∈ r, By x
 P : P = k.map fun r => prg 0 (Zf7 r)
 rl : rows.length = k.length
 al : at'.length = k.length
 tl : ts.length = k.length
 th : ∀ t, t < k.length → ∃ a : Nat, at'.getD t 0 = (a : Int) ∧ Th (Zf7 (k.getD t [])) a (ts.getD t []) (rows.getD t RL.z)
 sy : ∃ I, Sy O I S made
theorem ZsB {α β : Type} (f : α → β) {l : List α} {i : Nat} (h : i < l.length) (d : α) (e : β) : (l.map f).getD i e = f (l.getD i d) := by rw [List.getD_eq_getElem?_getD, List.getD_eq_getElem?_getD, List.getElem?_map, List.getElem?_eq_getElem h];rfl
theorem Zjt {α : Type} {l : List α} {i j : Nat} {x d : α} (h : i < l.length) : (l.set i x).getD j d = if j = i then x else l.getD j d := Zs4 h
section
variable {k : List (List RM)} {at' : List Int} {made : Nat} {P : List (List RI)} {rows : List Row} {O : List RJ} {S : Int → List Int} {ts : List (List RG)} (V : Lv k at' made P rows O S ts)
include V
theorem Lv.pg {t : Nat} (ht : t < k.length) : Pg (Zf7 (k.getD t [])) := by obtain ⟨h1, h2⟩ := V.kb _ (ZbT ht);refine ⟨by rw [List.length_map]; exact h1, fun x hx => ?_⟩;obtain ⟨y, hy, rfl⟩ := List.mem_map.1 hx;exact (h2 y hy).ok
theorem Lv.eP {t : Nat} (ht : t < k.length) : P.getD t [] = prg 0 (Zf7 (k.getD t [])) := by rw [V.P];exact ZsB _ ht _ _
theorem Lv.pl : P.length = k.length := by rw [V.P, List.length_map]
theorem Lv.round {t : Nat} (ht : t < k.length) (hm : made < 799) {a : Nat} (ea : at'.getD t 0 = (a : Int)) : (a = (k.getD t []).length ∧ Za9 P rows O t made 100000 = some (.r0 rows O made false)) ∨ (a < (k.getD t []).length ∧ Zf6 S (Zes ((k.getD t []).getD a RM.z)) = none ∧ Za9 P rows O t made 100000 = some (.r0 rows O made false)) ∨ (a < (k.getD t []).length ∧ ∃ S' v b rows' O', Zf6 S (Zes ((k.getD t []).getD a RM.z)) = some (S', v, b) ∧ Za9 P rows O t made 100000 = some (.r0 rows' O' ((made + (if b then 1 else 0) : Nat) : Int) true) ∧ Lv k (at'.set t ((a : Int) + 1)) (made + (if b then 1 else 0)) P rows' O' S' (ts.set t (ts.getD t [] ++ [⟨1, v⟩]))) := by
 obtain ⟨a', ea', K⟩ := V.th t ht;obtain rfl : a = a' := by rw [ea] at ea'; omega
 obtain ⟨I, Y⟩ := V.sy;have H := V.pg ht;have eP := V.eP ht;have rl := V.rl;have pl := V.pl;have n3 := V.n;have ll : (Zf7 (k.getD t [])).length = (k.getD t []).length := List.length_map ..;have hle := K.le;by_cases c : a = (k.getD t []).length
 ·exact .inl ⟨c, Z5d (by omega) (by omega) eP H rfl K _ (by rw [ll]; exact c)⟩
 ·have ha : a < (Zf7 (k.getD t [])).length := by omega
  have ep : (Zf7 (k.getD t [])).getD a pz = Zes ((k.getD t []).getD a RM.z) := ZsB _ (by omega) _ _;cases e : Zf6 S (Zes ((k.getD t []).getD a RM.z)) with
  | none =>
   exact .inr (.inl ⟨by omega, rfl, Z3R (by omega) (by omega) eP H rfl K Y hm ha (by rw [ep]; exact e)⟩)
  | some r =>
   obtain ⟨S', v, b⟩ := r;obtain ⟨O', I', row', u, Y', K'⟩ := Z5T (by omega) (by omega) (by omega) eP H rfl K Y hm ha (by rw [ep]; exact e);refine .inr (.inr ⟨by omega, S', v, b, _, O', rfl, u, V.n, V.kb, V.P, by rw [List.length_set]; exact V.rl, by rw [List.length_set]; exact V.al, by rw [List.length_set]; exact V.tl, fun s hs => ?_, I', Y'⟩);have al := V.al;have tl := V.tl;rw [Zjt (by omega), Zjt (by omega), Zjt (by omega)];by_cases d : s = t
   ·subst d
    rw [if_pos rfl, if_pos rfl, if_pos rfl];exact ⟨a + 1, by omega, K'⟩
   ·rw [if_neg d, if_neg d, if_neg d]
    exact V.th s hs
end
theorem pick {x : Int} {n : Nat} (h0 : 0 ≤ x) (hn : 1 ≤ n) : ∃ t : Nat, t < n ∧ Int.tmod x (n : Int) = (t : Int) := by rw [Int.tmod_eq_emod_of_nonneg h0];have h1 := Int.emod_nonneg x (b := (n : Int)) (by omega);have h2 := Int.emod_lt_of_pos x (b := (n : Int)) (by omega);exact ⟨(x % (n : Int)).toNat, by omega, by omega⟩
section
variable {A : List (List RM)} {B : List Int} {k : List (List RM)} {at' : List Int} {made v4 v5 : Nat} {P : List (List RI)} {rows : List Row} {O : List RJ} {S : Int → List Int} {L0 L1 L2 L3 : List Int}
theorem h3_0 {T0 : List RG} (V : Lv k at' made P rows O S [T0]) (F : Qf S L0 L1 L2 L3) (hk : k.length = 1) {t : Nat} (ht : t < k.length) (hm : made ≤ 400) (h4 : v4 ≤ 500) (h5 : v5 ≤ 500) : ∃ (at2 : List Int) (made2 : Nat) (rows2 : List Row) (O2 : List RJ) (S2 : Int → List Int) (M0 M1 M2 M3 : List Int) (U0 : List RG) (w4 : Nat), Zj A B 100000 (.h3m0 k at' made v4 v5 t P rows O L0 L1 L2 L3 T0) = some (.inl (.h2m0 k at2 made2 w4 (v5 + 1) P rows2 O2 M0 M1 M2 M3 U0)) ∧ Lv k at2 made2 P rows2 O2 S2 [U0] ∧ Qf S2 M0 M1 M2 M3 ∧ made2 ≤ made + 1 ∧ w4 ≤ v4 + 1 := by
 obtain ⟨a, ea, K⟩ := V.th t ht;obtain ⟨I, Y⟩ := V.sy;have s9 : ∀ q, (S q).length ≤ 900 := fun q => by have := Y.s q; omega
 have al := V.al;have kl := (V.kb _ (ZbT (d := []) ht)).1;have hB : ∀ i, i < (k.getD t []).length → By ((k.getD t []).getD i RM.z) := fun i hi => (V.kb _ (ZbT (d := []) ht)).2 _ (ZbT hi);have tle := K.len;have ale := K.le;have ll : (Zf7 (k.getD t [])).length = (k.getD t []).length := List.length_map ..;rcases V.round ht (by omega) ea with ⟨c, u⟩ | ⟨c, e, u⟩ | ⟨c, S', v, b, rows', O', e, u, V'⟩
 ·refine ⟨at', made, rows, O, S, L0, L1, L2, L3, T0, v4 + 1, ?_, V, F, by omega, by omega⟩
  refine Eq.trans (show _ = Za0 A B 100000 k at' made v4 v5 t P rows O L0 L1 L2 L3 T0 from rfl) ?_;unfold Za0;rw [u, Option.bind_some];dsimp only;rw [if_neg (by decide), if_pos (by omega), if_pos (by omega), Int.toNat_natCast, if_pos (by omega), if_pos ht, ea, if_pos (by rw [c]), if_pos (by omega)]
 ·obtain ⟨y0, y1, y2, y3, y4, d⟩ := (Zqn F (hB a c) s9).1 e
  refine ⟨at', made, rows, O, S, L0, L1, L2, L3, T0, v4 + 1, ?_, V, F, by omega, by omega⟩;refine Eq.trans (show _ = Za0 A B 100000 k at' made v4 v5 t P rows O L0 L1 L2 L3 T0 from rfl) ?_;unfold Za0;rw [u, Option.bind_some];dsimp only;rw [if_neg (by decide), if_pos (by omega), if_pos (by omega), Int.toNat_natCast, if_pos (by omega), if_pos ht, ea, if_neg (by omega), if_pos (by omega), Int.toNat_natCast, if_pos c, d, Option.bind_some];dsimp only;rw [if_neg (by decide), if_pos (by omega)]
 ·have d := (Zqn F (hB a c) s9).2 S' v b e
  have m' : made + (if b then 1 else 0) ≤ made + 1 := by cases b <;> simp
  have w : IntKind.i64.wrap ((a : Int) + 1) = (a : Int) + 1 := w64 (by omega) (by omega);generalize made + (if b then 1 else 0) = made2 at u V' m';have tt : t = 0 := by omega
  rcases tt with rfl
  ·have tl : T0.length ≤ 4 := by have e2 : T0.length = a := tle;omega
   refine ⟨at'.set 0 ((a : Int) + 1), made2, rows', O', S', S' 0, S' 1, S' 2, S' 3, T0 ++ [(⟨1, v⟩ : RG)], 0, ?_, V', ⟨rfl, rfl, rfl, rfl⟩, m', by omega⟩;refine Eq.trans (show _ = Za0 A B 100000 k at' made v4 v5 ((0 : Nat) : Int) P rows O L0 L1 L2 L3 T0 from rfl) ?_;unfold Za0;rw [u, Option.bind_some];dsimp only;rw [if_pos rfl, if_pos (by omega), if_pos (by omega), Int.toNat_natCast, if_pos (by omega), if_pos ht, ea, if_neg (by omega), if_pos (by omega), Int.toNat_natCast, if_pos c, d, Option.bind_some];dsimp only;rw [if_pos rfl, if_pos (by decide), if_pos (by omega), if_pos (by omega), w]
theorem h2_0 {T0 : List RG} (V : Lv k at' made P rows O S [T0]) (F : Qf S L0 L1 L2 L3) (hk : k.length = 1) (hB : ∀ x ∈ B, 0 ≤ x ∧ x ≤ 255) (hm : made ≤ v5) (h4 : v4 ≤ v5) (h5 : v5 < 200) (c4 : v4 < k.length) : ∃ (at2 : List Int) (made2 : Nat) (rows2 : List Row) (O2 : List RJ) (S2 : Int → List Int) (M0 M1 M2 M3 : List Int) (U0 : List RG) (w4 : Nat), (∀ f, ZW (Zj A B 100000) (f + 2) (.h2m0 k at' made v4 v5 P rows O L0 L1 L2 L3 T0) = ZW (Zj A B 100000) f (.h2m0 k at2 made2 w4 (v5 + 1) P rows2 O2 M0 M1 M2 M3 U0)) ∧ Lv k at2 made2 P rows2 O2 S2 [U0] ∧ Qf S2 M0 M1 M2 M3 ∧ made2 ≤ v5 + 1 ∧ w4 ≤ v5 + 1 := by
 have st : ∃ (t z4 : Nat), t < k.length ∧ z4 ≤ v5 ∧ Zj A B 100000 (.h2m0 k at' made v4 v5 P rows O L0 L1 L2 L3 T0) = some (.inl (.h3m0 k at' made z4 v5 t P rows O L0 L1 L2 L3 T0)) := by
  obtain ⟨t2, ht2, e2⟩ := pick (x := (v5 : Int)) (n := k.length) (by omega) (by omega);by_cases c : v5 < B.length ∧ v5 < 60
  ·have hb := hB _ (ZbT (d := 0) c.1)
   obtain ⟨t1, ht1, e1⟩ := pick (x := B.getD v5 0) (n := k.length) hb.1 (by omega);refine ⟨t1, 0, ht1, by omega, ?_⟩;refine Eq.trans (show _ = Zax A B 100000 k at' made v4 v5 P rows O L0 L1 L2 L3 T0 from rfl) ?_;unfold Zax;rw [if_pos (by omega), if_pos (by omega), if_pos (by omega), if_pos (by omega), if_pos (by omega), if_pos (by omega), e1]
  ·refine ⟨t2, v4, ht2, by omega, ?_⟩
   refine Eq.trans (show _ = Zax A B 100000 k at' made v4 v5 P rows O L0 L1 L2 L3 T0 from rfl) ?_;unfold Zax;rw [if_pos (by omega), if_pos (by omega)];by_cases d : v5 < B.length
   ·rw [if_pos (by omega), if_neg (by omega), e2]
   ·rw [if_neg (by omega), e2]
 obtain ⟨t, z4, ht, hz, e⟩ := st;obtain ⟨at2, made2, rows2, O2, S2, M0, M1, M2, M3, U0, w4, s, V2, F2, m2, w2⟩ := h3_0 (A := A) (B := B) (v4 := z4) (v5 := v5) V F hk ht (by omega) (by omega) (by omega);exact ⟨at2, made2, rows2, O2, S2, M0, M1, M2, M3, U0, w4, fun f => (Zo (n := f + 1) e).trans (Zo s), V2, F2, by omega, by omega⟩
theorem h3_1 {T0 T1 : List RG} (V : Lv k at' made P rows O S [T0, T1]) (F : Qf S L0 L1 L2 L3) (hk : k.length = 2) {t : Nat} (ht : t < k.length) (hm : made ≤ 400) (h4 : v4 ≤ 500) (h5 : v5 ≤ 500) : ∃ (at2 : List Int) (made2 : Nat) (rows2 : List Row) (O2 : List RJ) (S2 : Int → List Int) (M0 M1 M2 M3 : List Int) (U0 U1 : List RG) (w4 : Nat), Zj A B 100000 (.h3m1 k at' made v4 v5 t P rows O L0 L1 L2 L3 T0 T1) = some (.inl (.h2m1 k at2 made2 w4 (v5 + 1) P rows2 O2 M0 M1 M2 M3 U0 U1)) ∧ Lv k at2 made2 P rows2 O2 S2 [U0, U1] ∧ Qf S2 M0 M1 M2 M3 ∧ made2 ≤ made + 1 ∧ w4 ≤ v4 + 1 := by
 obtain ⟨a, ea, K⟩ := V.th t ht;obtain ⟨I, Y⟩ := V.sy;have s9 : ∀ q, (S q).length ≤ 900 := fun q => by have := Y.s q; omega
 have al := V.al;have kl := (V.kb _ (ZbT (d := []) ht)).1;have hB : ∀ i, i < (k.getD t []).length → By ((k.getD t []).getD i RM.z) := fun i hi => (V.kb _ (ZbT (d := []) ht)).2 _ (ZbT hi);have tle := K.len;have ale := K.le;have ll : (Zf7 (k.getD t [])).length = (k.getD t []).length := List.length_map ..;rcases V.round ht (by omega) ea with ⟨c, u⟩ | ⟨c, e, u⟩ | ⟨c, S', v, b, rows', O', e, u, V'⟩
 ·refine ⟨at', made, rows, O, S, L0, L1, L2, L3, T0, T1, v4 + 1, ?_, V, F, by omega, by omega⟩
  refine Eq.trans (show _ = Zab A B 100000 k at' made v4 v5 t P rows O L0 L1 L2 L3 T0 T1 from rfl) ?_;unfold Zab;rw [u, Option.bind_some];dsimp only;rw [if_neg (by decide), if_pos (by omega), if_pos (by omega), Int.toNat_natCast, if_pos (by omega), if_pos ht, ea, if_pos (by rw [c]), if_pos (by omega)]
 ·obtain ⟨y0, y1, y2, y3, y4, d⟩ := (Zqn F (hB a c) s9).1 e
  refine ⟨at', made, rows, O, S, L0, L1, L2, L3, T0, T1, v4 + 1, ?_, V, F, by omega, by omega⟩;refine Eq.trans (show _ = Zab A B 100000 k at' made v4 v5 t P rows O L0 L1 L2 L3 T0 T1 from rfl) ?_;unfold Zab;rw [u, Option.bind_some];dsimp only;rw [if_neg (by decide), if_pos (by omega), if_pos (by omega), Int.toNat_natCast, if_pos (by omega), if_pos ht, ea, if_neg (by omega), if_pos (by omega), Int.toNat_natCast, if_pos c, d, Option.bind_some];dsimp only;rw [if_neg (by decide), if_pos (by omega)]
 ·have d := (Zqn F (hB a c) s9).2 S' v b e
  have m' : made + (if b then 1 else 0) ≤ made + 1 := by cases b <;> simp
  have w : IntKind.i64.wrap ((a : Int) + 1) = (a : Int) + 1 := w64 (by omega) (by omega);generalize made + (if b then 1 else 0) = made2 at u V' m';have tt : t = 0 ∨ t = 1 := by omega
  rcases tt with rfl | rfl
  ·have tl : T0.length ≤ 4 := by have e2 : T0.length = a := tle;omega
   refine ⟨at'.set 0 ((a : Int) + 1), made2, rows', O', S', S' 0, S' 1, S' 2, S' 3, T0 ++ [(⟨1, v⟩ : RG)], T1, 0, ?_, V', ⟨rfl, rfl, rfl, rfl⟩, m', by omega⟩;refine Eq.trans (show _ = Zab A B 100000 k at' made v4 v5 ((0 : Nat) : Int) P rows O L0 L1 L2 L3 T0 T1 from rfl) ?_;unfold Zab;rw [u, Option.bind_some];dsimp only;rw [if_pos rfl, if_pos (by omega), if_pos (by omega), Int.toNat_natCast, if_pos (by omega), if_pos ht, ea, if_neg (by omega), if_pos (by omega), Int.toNat_natCast, if_pos c, d, Option.bind_some];dsimp only;rw [if_pos rfl, if_pos (by decide), if_pos (by omega), if_pos (by omega), w]
  ·have tl : T1.length ≤ 4 := by have e2 : T1.length = a := tle;omega
   refine ⟨at'.set 1 ((a : Int) + 1), made2, rows', O', S', S' 0, S' 1, S' 2, S' 3, T0, T1 ++ [(⟨1, v⟩ : RG)], 0, ?_, V', ⟨rfl, rfl, rfl, rfl⟩, m', by omega⟩;refine Eq.trans (show _ = Zab A B 100000 k at' made v4 v5 ((1 : Nat) : Int) P rows O L0 L1 L2 L3 T0 T1 from rfl) ?_;unfold Zab;rw [u, Option.bind_some];dsimp only;rw [if_pos rfl, if_pos (by omega), if_pos (by omega), Int.toNat_natCast, if_pos (by omega), if_pos ht, ea, if_neg (by omega), if_pos (by omega), Int.toNat_natCast, if_pos c, d, Option.bind_some];dsimp only;rw [if_pos rfl, if_neg (by decide), if_pos (by decide), if_pos (by omega), if_pos (by omega), w]
theorem h2_1 {T0 T1 : List RG} (V : Lv k at' made P rows O S [T0, T1]) (F : Qf S L0 L1 L2 L3) (hk : k.length = 2) (hB : ∀ x ∈ B, 0 ≤ x ∧ x ≤ 255) (hm : made ≤ v5) (h4 : v4 ≤ v5) (h5 : v5 < 200) (c4 : v4 < k.length) : ∃ (at2 : List Int) (made2 : Nat) (rows2 : List Row) (O2 : List RJ) (S2 : Int → List Int) (M0 M1 M2 M3 : List Int) (U0 U1 : List RG) (w4 : Nat), (∀ f, ZW (Zj A B 100000) (f + 2) (.h2m1 k at' made v4 v5 P rows O L0 L1 L2 L3 T0 T1) = ZW (Zj A B 100000) f (.h2m1 k at2 made2 w4 (v5 + 1) P rows2 O2 M0 M1 M2 M3 U0 U1)) ∧ Lv k at2 made2 P rows2 O2 S2 [U0, U1] ∧ Qf S2 M0 M1 M2 M3 ∧ made2 ≤ v5 + 1 ∧ w4 ≤ v5 + 1 := by
 have st : ∃ (t z4 : Nat), t < k.length ∧ z4 ≤ v5 ∧ Zj A B 100000 (.h2m1 k at' made v4 v5 P rows O L0 L1 L2 L3 T0 T1) = some (.inl (.h3m1 k at' made z4 v5 t P rows O L0 L1 L2 L3 T0 T1)) := by
  obtain ⟨t2, ht2, e2⟩ := pick (x := (v5 : Int)) (n := k.length) (by omega) (by omega);by_cases c : v5 < B.length ∧ v5 < 60
  ·have hb := hB _ (ZbT (d := 0) c.1)
   obtain ⟨t1, ht1, e1⟩ := pick (x := B.getD v5 0) (n := k.length) hb.1 (by omega);refine ⟨t1, 0, ht1, by omega, ?_⟩;refine Eq.trans (show _ = Zay A B 100000 k at' made v4 v5 P rows O L0 L1 L2 L3 T0 T1 from rfl) ?_;unfold Zay;rw [if_pos (by omega), if_pos (by omega), if_pos (by omega), if_pos (by omega), if_pos (by omega), if_pos (by omega), e1]
  ·refine ⟨t2, v4, ht2, by omega, ?_⟩
   refine Eq.trans (show _ = Zay A B 100000 k at' made v4 v5 P rows O L0 L1 L2 L3 T0 T1 from rfl) ?_;unfold Zay;rw [if_pos (by omega), if_pos (by omega)];by_cases d : v5 < B.length
   ·rw [if_pos (by omega), if_neg (by omega), e2]
   ·rw [if_neg (by omega), e2]
 obtain ⟨t, z4, ht, hz, e⟩ := st;obtain ⟨at2, made2, rows2, O2, S2, M0, M1, M2, M3, U0, U1, w4, s, V2, F2, m2, w2⟩ := h3_1 (A := A) (B := B) (v4 := z4) (v5 := v5) V F hk ht (by omega) (by omega) (by omega);exact ⟨at2, made2, rows2, O2, S2, M0, M1, M2, M3, U0, U1, w4, fun f => (Zo (n := f + 1) e).trans (Zo s), V2, F2, by omega, by omega⟩
theorem h3_2 {T0 T1 T2 : List RG} (V : Lv k at' made P rows O S [T0, T1, T2]) (F : Qf S L0 L1 L2 L3) (hk : k.length = 3) {t : Nat} (ht : t < k.length) (hm : made ≤ 400) (h4 : v4 ≤ 500) (h5 : v5 ≤ 500) : ∃ (at2 : List Int) (made2 : Nat) (rows2 : List Row) (O2 : List RJ) (S2 : Int → List Int) (M0 M1 M2 M3 : List Int) (U0 U1 U2 : List RG) (w4 : Nat), Zj A B 100000 (.h3m2 k at' made v4 v5 t P rows O L0 L1 L2 L3 T0 T1 T2) = some (.inl (.h2m2 k at2 made2 w4 (v5 + 1) P rows2 O2 M0 M1 M2 M3 U0 U1 U2)) ∧ Lv k at2 made2 P rows2 O2 S2 [U0, U1, U2] ∧ Qf S2 M0 M1 M2 M3 ∧ made2 ≤ made + 1 ∧ w4 ≤ v4 + 1 := by
 obtain ⟨a, ea, K⟩ := V.th t ht;obtain ⟨I, Y⟩ := V.sy;have s9 : ∀ q, (S q).length ≤ 900 := fun q => by have := Y.s q; omega
 have al := V.al;have kl := (V.kb _ (ZbT (d := []) ht)).1;have hB : ∀ i, i < (k.getD t []).length → By ((k.getD t []).getD i RM.z) := fun i hi => (V.kb _ (ZbT (d := []) ht)).2 _ (ZbT hi);have tle := K.len;have ale := K.le;have ll : (Zf7 (k.getD t [])).length = (k.getD t []).length := List.length_map ..;rcases V.round ht (by omega) ea with ⟨c, u⟩ | ⟨c, e, u⟩ | ⟨c, S', v, b, rows', O', e, u, V'⟩
 ·refine ⟨at', made, rows, O, S, L0, L1, L2, L3, T0, T1, T2, v4 + 1, ?_, V, F, by omega, by omega⟩
  refine Eq.trans (show _ = ZK A B 100000 k at' made v4 v5 t P rows O L0 L1 L2 L3 T0 T1 T2 from rfl) ?_;unfold ZK;rw [u, Option.bind_some];dsimp only;rw [if_neg (by decide), if_pos (by omega), if_pos (by omega), Int.toNat_natCast, if_pos (by omega), if_pos ht, ea, if_pos (by rw [c]), if_pos (by omega)]
 ·obtain ⟨y0, y1, y2, y3, y4, d⟩ := (Zqn F (hB a c) s9).1 e
  refine ⟨at', made, rows, O, S, L0, L1, L2, L3, T0, T1, T2, v4 + 1, ?_, V, F, by omega, by omega⟩;refine Eq.trans (show _ = ZK A B 100000 k at' made v4 v5 t P rows O L0 L1 L2 L3 T0 T1 T2 from rfl) ?_;unfold ZK;rw [u, Option.bind_some];dsimp only;rw [if_neg (by decide), if_pos (by omega), if_pos (by omega), Int.toNat_natCast, if_pos (by omega), if_pos ht, ea, if_neg (by omega), if_pos (by omega), Int.toNat_natCast, if_pos c, d, Option.bind_some];dsimp only;rw [if_neg (by decide), if_pos (by omega)]
 ·have d := (Zqn F (hB a c) s9).2 S' v b e
  have m' : made + (if b then 1 else 0) ≤ made + 1 := by cases b <;> simp
  have w : IntKind.i64.wrap ((a : Int) + 1) = (a : Int) + 1 := w64 (by omega) (by omega);generalize made + (if b then 1 else 0) = made2 at u V' m';have tt : t = 0 ∨ t = 1 ∨ t = 2 := by omega
  rcases tt with rfl | rfl | rfl
  ·have tl : T0.length ≤ 4 := by have e2 : T0.length = a := tle;omega
   refine ⟨at'.set 0 ((a : Int) + 1), made2, rows', O', S', S' 0, S' 1, S' 2, S' 3, T0 ++ [(⟨1, v⟩ : RG)], T1, T2, 0, ?_, V', ⟨rfl, rfl, rfl, rfl⟩, m', by omega⟩;refine Eq.trans (show _ = ZK A B 100000 k at' made v4 v5 ((0 : Nat) : Int) P rows O L0 L1 L2 L3 T0 T1 T2 from rfl) ?_;unfold ZK;rw [u, Option.bind_some];dsimp only;rw [if_pos rfl, if_pos (by omega), if_pos (by omega), Int.toNat_natCast, if_pos (by omega), if_pos ht, ea, if_neg (by omega), if_pos (by omega), Int.toNat_natCast, if_pos c, d, Option.bind_some];dsimp only;rw [if_pos rfl, if_pos (by decide), if_pos (by omega), if_pos (by omega), w]
  ·have tl : T1.length ≤ 4 := by have e2 : T1.length = a := tle;omega
   refine ⟨at'.set 1 ((a : Int) + 1), made2, rows', O', S', S' 0, S' 1, S' 2, S' 3, T0, T1 ++ [(⟨1, v⟩ : RG)], T2, 0, ?_, V', ⟨rfl, rfl, rfl, rfl⟩, m', by omega⟩;refine Eq.trans (show _ = ZK A B 100000 k at' made v4 v5 ((1 : Nat) : Int) P rows O L0 L1 L2 L3 T0 T1 T2 from rfl) ?_;unfold ZK;rw [u, Option.bind_some];dsimp only;rw [if_pos rfl, if_pos (by omega), if_pos (by omega), Int.toNat_natCast, if_pos (by omega), if_pos ht, ea, if_neg (by omega), if_pos (by omega), Int.toNat_natCast, if_pos c, d, Option.bind_some];dsimp only;rw [if_pos rfl, if_neg (by decide), if_pos (by decide), if_pos (by omega), if_pos (by omega), w]
  ·have tl : T2.length ≤ 4 := by have e2 : T2.length = a := tle;omega
   refine ⟨at'.set 2 ((a : Int) + 1), made2, rows', O', S', S' 0, S' 1, S' 2, S' 3, T0, T1, T2 ++ [(⟨1, v⟩ : RG)], 0, ?_, V', ⟨rfl, rfl, rfl, rfl⟩, m', by omega⟩;refine Eq.trans (show _ = ZK A B 100000 k at' made v4 v5 ((2 : Nat) : Int) P rows O L0 L1 L2 L3 T0 T1 T2 from rfl) ?_;unfold ZK;rw [u, Option.bind_some];dsimp only;rw [if_pos rfl, if_pos (by omega), if_pos (by omega), Int.toNat_natCast, if_pos (by omega), if_pos ht, ea, if_neg (by omega), if_pos (by omega), Int.toNat_natCast, if_pos c, d, Option.bind_some];dsimp only;rw [if_pos rfl, if_neg (by decide), if_neg (by decide), if_pos (by decide), if_pos (by omega), if_pos (by omega), w]
theorem h2_2 {T0 T1 T2 : List RG} (V : Lv k at' made P rows O S [T0, T1, T2]) (F : Qf S L0 L1 L2 L3) (hk : k.length = 3) (hB : ∀ x ∈ B, 0 ≤ x ∧ x ≤ 255) (hm : made ≤ v5) (h4 : v4 ≤ v5) (h5 : v5 < 200) (c4 : v4 < k.length) : ∃ (at2 : List Int) (made2 : Nat) (rows2 : List Row) (O2 : List RJ) (S2 : Int → List Int) (M0 M1 M2 M3 : List Int) (U0 U1 U2 : List RG) (w4 : Nat), (∀ f, ZW (Zj A B 100000) (f + 2) (.h2m2 k at' made v4 v5 P rows O L0 L1 L2 L3 T0 T1 T2) = ZW (Zj A B 100000) f (.h2m2 k at2 made2 w4 (v5 + 1) P rows2 O2 M0 M1 M2 M3 U0 U1 U2)) ∧ Lv k at2 made2 P rows2 O2 S2 [U0, U1, U2] ∧ Qf S2 M0 M1 M2 M3 ∧ made2 ≤ v5 + 1 ∧ w4 ≤ v5 + 1 := by
 have st : ∃ (t z4 : Nat), t < k.length ∧ z4 ≤ v5 ∧ Zj A B 100000 (.h2m2 k at' made v4 v5 P rows O L0 L1 L2 L3 T0 T1 T2) = some (.inl (.h3m2 k at' made z4 v5 t P rows O L0 L1 L2 L3 T0 T1 T2)) := by
  obtain ⟨t2, ht2, e2⟩ := pick (x := (v5 : Int)) (n := k.length) (by omega) (by omega);by_cases c : v5 < B.length ∧ v5 < 60
  ·have hb := hB _ (ZbT (d := 0) c.1)
   obtain ⟨t1, ht1, e1⟩ := pick (x := B.getD v5 0) (n := k.length) hb.1 (by omega);refine ⟨t1, 0, ht1, by omega, ?_⟩;refine Eq.trans (show _ = Zaz A B 100000 k at' made v4 v5 P rows O L0 L1 L2 L3 T0 T1 T2 from rfl) ?_;unfold Zaz;rw [if_pos (by omega), if_pos (by omega), if_pos (by omega), if_pos (by omega), if_pos (by omega), if_pos (by omega), e1]
  ·refine ⟨t2, v4, ht2, by omega, ?_⟩
   refine Eq.trans (show _ = Zaz A B 100000 k at' made v4 v5 P rows O L0 L1 L2 L3 T0 T1 T2 from rfl) ?_;unfold Zaz;rw [if_pos (by omega), if_pos (by omega)];by_cases d : v5 < B.length
   ·rw [if_pos (by omega), if_neg (by omega), e2]
   ·rw [if_neg (by omega), e2]
 obtain ⟨t, z4, ht, hz, e⟩ := st;obtain ⟨at2, made2, rows2, O2, S2, M0, M1, M2, M3, U0, U1, U2, w4, s, V2, F2, m2, w2⟩ := h3_2 (A := A) (B := B) (v4 := z4) (v5 := v5) V F hk ht (by omega) (by omega) (by omega);exact ⟨at2, made2, rows2, O2, S2, M0, M1, M2, M3, U0, U1, U2, w4, fun f => (Zo (n := f + 1) e).trans (Zo s), V2, F2, by omega, by omega⟩
end
theorem Z5U {n m : Int} (hn : 1048577 ≤ n) (hm : m < 1060000) (h : n < m) : Zf2 2 n 2 m 100000 = some (.r0 true) := by
 have vn : Vd n := by unfold Vd; omega
 have vm : Vd m := by unfold Vd; omega
 have tn : Int.tmod n 1048576 = n - 1048576 := by rw [Int.tmod_eq_emod_of_nonneg (by omega)]; omega
 have tm : Int.tmod m 1048576 = m - 1048576 := by rw [Int.tmod_eq_emod_of_nonneg (by omega)]; omega
 unfold Zf2;rw [if_pos rfl, ZnC vn, Option.bind_some];dsimp only;rw [if_neg (by decide), if_pos rfl, ZnC vm, Option.bind_some];dsimp only;rw [if_neg (by decide), tn, tm, if_pos (by omega)]
def lvF (x : RJ) : Bool := decide (¬ x.a5 = 3)
theorem Z3S {l : List RJ} {i : Nat} (h : i < l.length) : l.getD i RJ.z ∈ l := by rw [List.getD_eq_getElem?_getD, List.getElem?_eq_getElem h];exact List.getElem_mem h
def lv (O : List RJ) (j : Nat) : List RJ := (O.take j).filter lvF
theorem Zqo {O : List RJ} {j : Nat} (h : j < O.length) : lv O (j + 1) = if (ob O j).a5 = 3 then lv O j else lv O j ++ [ob O j] := by
 have e : O.take (j + 1) = O.take j ++ [ob O j] := by rw [List.take_add_one, List.getElem?_eq_getElem h, ob, List.getD_eq_getElem?_getD, List.getElem?_eq_getElem h];rfl
 unfold lv;rw [e, List.filter_append];by_cases c : (ob O j).a5 = 3
 ·rw [if_pos c]
  have : [ob O j].filter lvF = [] := by
   rw [List.filter_cons_of_neg]
   ·rfl
   ·show ¬ decide (¬ (ob O j).a5 = 3) = true
    rw [decide_eq_true_iff];exact fun h => h c
  rw [this, List.append_nil]
 ·rw [if_neg c]
  have : [ob O j].filter lvF = [ob O j] := by
   rw [List.filter_cons_of_pos]
   ·rfl
   ·exact decide_eq_true c
  rw [this]
theorem ZmS {O : List RJ} {j : Nat} (hj : j ≤ O.length) {x : RJ} : x ∈ lv O j ↔ ∃ i, i < j ∧ ob O i = x ∧ ¬ x.a5 = 3 := by
 induction j with
 | zero => exact ⟨fun h => by unfold lv at h; simp at h, fun ⟨i, h, _⟩ => by omega⟩
 | succ j ih =>
  have ih := ih (by omega);rw [Zqo (by omega)];by_cases c : (ob O j).a5 = 3
  ·rw [if_pos c, ih]
   refine ⟨fun ⟨i, h1, h2⟩ => ⟨i, by omega, h2⟩, fun ⟨i, h1, h2, h3⟩ => ⟨i, ?_, h2, h3⟩⟩;rcases Nat.lt_or_ge i j with h | h
   ·exact h
   ·obtain rfl : i = j := by omega
    rw [h2] at c;exact absurd c h3
  ·rw [if_neg c, List.mem_append, ih, List.mem_singleton]
   refine ⟨fun h => ?_, fun ⟨i, h1, h2, h3⟩ => ?_⟩
   ·rcases h with ⟨i, h1, h2⟩ | rfl
    ·exact ⟨i, by omega, h2⟩
    ·exact ⟨j, by omega, rfl, c⟩
   ·rcases Nat.lt_or_ge i j with h | h
    ·exact .inl ⟨i, h, h2, h3⟩
    ·obtain rfl : i = j := by omega
     exact .inr h2.symm
theorem ZpZ (O : List RJ) (j : Nat) : (lv O j).length ≤ j := by unfold lv;have := List.length_filter_le lvF (O.take j);rw [List.length_take] at this;omega
section
variable {O : List RJ} {I : Int → List Nat} {S : Int → List Int} {made : Nat} (Y : Sy O I S made) (hm : made ≤ 250) (P : List (List RI)) (rows : List Row)
include Y hm
theorem Sy.mono (i j : Nat) (h : i < j) (hj : j < O.length) : 1048577 ≤ (ob O i).a1 ∧ (ob O i).a1 < (ob O j).a1 ∧ (ob O j).a1 < 1060000 := by
 have l := Y.len;have ej := Y.nm j (by omega) hj;cases i with
 | zero => rw [Y.q.r1, ej]; omega
 | succ i => rw [Y.nm (i + 1) (by omega) (by omega), ej]; omega
theorem Z5V {j : Nat} (h1 : 1 ≤ j) (hj : j < O.length) (hc : ¬ (ob O j).a5 = 3) : ∀ d i f : Nat, i + d = (lv O j).length → ZW (ZcX P rows O 100000) (f + d) (.h2m1 (lv O j) j i) = ZW (ZcX P rows O 100000) f (.h2m1 (lv O j) j (lv O j).length) := by
 intro d
 induction d with
 | zero => intro i f hi; rw [show i = (lv O j).length by omega]; rfl
 | succ d ih =>
  intro i f hi;have l := Y.len;have le := ZpZ O j;refine (Zo (n := f + d) ?_).trans (ih (i + 1) f (by omega));refine Eq.trans (show _ = Zb8 P rows O 100000 (lv O j) j i from rfl) ?_;unfold Zb8;have mem : (lv O j).getD i RJ.z ∈ lv O j := Z3S (by omega);obtain ⟨p, p1, p2, p3⟩ := (ZmS (by omega)).1 mem;obtain ⟨m1, m2, m3⟩ := Sy.mono Y hm p j p1 hj;rw [if_pos (by omega), if_pos hj, ← p2, Y.q.m.k p (by omega)];have k : (O.getD j RJ.z).a0 = 2 := Y.q.m.k j hj;rw [k, Z5U m1 m3 m2, Option.bind_some];dsimp only;rw [if_pos rfl, if_pos (by omega)]
theorem Z65 : ∀ d j : Nat, j + d = O.length → 1 ≤ j → ∀ f : Nat, 300 * d + 1 ≤ f → ZW (ZcX P rows O 100000) f (.h1m1 (lv O j) j) = some (.r1 (lv O O.length)) := by
 intro d
 induction d with
 | zero =>
  intro j hj h1 f hf;obtain ⟨f, rfl⟩ : ∃ g, f = g + 1 := ⟨f - 1, by omega⟩
  refine ZE ?_;refine Eq.trans (show _ = ZaL P rows O 100000 (lv O j) j from rfl) ?_;unfold ZaL;rw [if_neg (by omega), show j = O.length by omega]
 | succ d ih =>
  intro j hj h1 f hf;have l := Y.len;have le := ZpZ O j;have hl : j < O.length := by omega
  by_cases c : (ob O j).a5 = 3
  ·obtain ⟨f, rfl⟩ : ∃ g, f = g + 1 := ⟨f - 1, by omega⟩
   have e := Zqo hl;rw [if_pos c] at e;refine (Zo (y := .h1m1 (lv O j) (j + 1)) ?_).trans (by rw [← e]; exact ih (j + 1) (by omega) (by omega) f (by omega));refine Eq.trans (show _ = ZaL P rows O 100000 (lv O j) j from rfl) ?_;unfold ZaL;rw [if_pos (by omega), if_pos c, if_pos (by omega)]
  ·obtain ⟨f, rfl⟩ : ∃ g, f = g + 2 + (lv O j).length + 1 := ⟨f - 3 - (lv O j).length, by omega⟩
   have e := Zqo hl;rw [if_neg c] at e;refine (Zo (y := .h2m1 (lv O j) j 0) ?_).trans ((Z5V Y hm P rows h1 hl c (lv O j).length 0 (f + 2) (by omega)).trans ((Zo (n := f + 1) (y := .h3m1 (lv O j) j (lv O j).length) ?_).trans ((Zo (n := f) (y := .h1m1 (lv O (j + 1)) (j + 1)) ?_).trans (ih (j + 1) (by omega) (by omega) f (by omega)))))
   ·refine Eq.trans (show _ = ZaL P rows O 100000 (lv O j) j from rfl) ?_
    unfold ZaL;rw [if_pos (by omega), if_neg c]
   ·refine Eq.trans (show _ = Zb8 P rows O 100000 (lv O j) j (lv O j).length from rfl) ?_
    unfold Zb8;rw [if_neg (by omega)]
   ·refine Eq.trans (show _ = Zd7 P rows O 100000 (lv O j) j (lv O j).length from rfl) ?_
    have z : ob O 0 ∈ lv O j := (ZmS (by omega)).2 ⟨0, by omega, rfl, by rw [Y.q.r5]; decide⟩;have zl : 0 < (lv O j).length := List.length_pos_of_mem z;unfold Zd7;rw [if_pos (by omega), if_neg (by omega), if_pos (by omega), if_pos hl, if_pos (by omega), if_pos (by omega), Nat.sub_zero, List.take_length, e]
theorem Z66 : Zdb P rows O 100000 = some (.r1 (lv O O.length)) := by
 have l := Y.len;have z5 : ¬ (O.getD 0 RJ.z).a5 = 3 := by have : (ob O 0).a5 = 2 := Y.q.r5; rw [this]; decide
 unfold Zdb;refine (ZaB (x := (.h1m0 0 : Zt)) rfl).trans ((Zo (n := 99999) (y := .h2m0 0) ?_).trans ((Zo (n := 99998) (y := .h3m0 0) rfl).trans ((Zo (n := 99997) (y := .h1m1 (lv O 1) 1) ?_).trans (Z65 Y hm P rows (O.length - 1) 1 (by omega) (by omega) _ (by omega)))))
 ·refine Eq.trans (show _ = Zd5 P rows O 100000 0 from rfl) ?_
  unfold Zd5;rw [if_pos (by omega), if_neg z5]
 ·refine Eq.trans (show _ = Zd6 P rows O 100000 0 from rfl) ?_
  have e := Zqo (O := O) (j := 0) (by omega);rw [if_neg z5] at e;unfold Zd6;rw [if_pos (by omega), if_pos (by decide), e];rfl
end
end Ev
end Go.Proofs.YthfohmhipifiaaaGreat
