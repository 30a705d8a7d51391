/- The law ListForms, for every input. -/
import Derived.Test.YtnfmhpnogfppiaaGreatZaf
import Derived.Test.YtnfmhpnogfppiaaGreatZac
import Derived.StillTail
import Derived.OrdersHeld
import Derived.WideBlind
/- The pieces: plain. -/
namespace Go.Proofs.YtnfmhpnogfppiaaGreat
open Go.RowKit
namespace Ev
namespace Pc
set_option linter.unusedVariables false
set_option linter.unusedSimpArgs false
set_option maxRecDepth 100000
theorem ZB {op A B C t0 t1 t2 : Int} {N : Nat} (hH : Zfd op N = some (.r0 t0 t1 t2 true)) (h0 : ZaH t0 A 0 N = some (.r0 true)) (h1 : ZaH t1 B 0 N = some (.r0 true)) (h2 : ZaH t2 C B N = some (.r0 true)) : ZaS op A B C N = some (.r0 true) := by
 unfold ZaS
 exact ZT hH (Zy rfl (ZT h0 (Zy rfl (ZT h1 (Zy rfl (ZT h2 (Zy rfl rfl)))))))
section
variable {a c : Int} {N : Nat}
theorem f0 (h : a = 0) : ZaH 0 a c N = some (.r0 true) := by subst h; rfl
theorem f1 (h : 0 ≤ a) (h' : a < 8) : ZaH 1 a c N = some (.r0 true) := Zy rfl (Zy h (Zy h' rfl))
theorem f2 (h : -1099511627776 ≤ a) (h' : a ≤ 1099511627776) : ZaH 2 a c N = some (.r0 true) := Z8 (by decide) (Zy rfl (Zy h (Zy h' rfl)))
theorem f3 (h : 0 ≤ a) (h' : a ≤ 512) : ZaH 3 a c N = some (.r0 true) := Z8 (by decide) (Z8 (by decide) (Zy rfl (Zy h (Zy h' rfl))))
theorem f4 (h : 0 ≤ a) (h' : a < 16) : ZaH 4 a c N = some (.r0 true) := Z8 (by decide) (Z8 (by decide) (Z8 (by decide) (Zy rfl (Zy h (Zy h' rfl)))))
theorem f5 (h : 1 ≤ a) (h' : a ≤ 16) : ZaH 5 a c N = some (.r0 true) := Z8 (by decide) (Z8 (by decide) (Z8 (by decide) (Z8 (by decide) (Zy rfl (Zy h (Zy h' rfl))))))
end
theorem all_cons {α : Type} {q : α → Prop} {x : α} {l : List α} (h : q x) (t : ∀ y ∈ l, q y) : ∀ y ∈ x :: l, q y := fun y hy => by
 rcases List.mem_cons.1 hy with rfl | hy
 ·exact h
 ·exact t y hy
theorem Zi1 {α : Type} {q : α → Prop} : ∀ y ∈ ([] : List α), q y := fun y hy => by cases hy
def ZfL (b : Int) : List RA → List Nat → Prop
 | [], _ => True
 | _ :: _, [] => False
 | x :: l, t :: ts => ((x.a0 = 8 ∨ x.a0 = 9) → tgt x = b + (t : Int)) ∧ ZfL b l ts
theorem ZM {b : Int} {x : RA} {l : List RA} {t : Nat} {ts : List Nat} (h8 : x.a0 ≠ 8) (h9 : x.a0 ≠ 9) (h : ZfL b l ts) : ZfL b (x :: l) (t :: ts) := ⟨fun q => by rcases q with q | q <;> contradiction, h⟩
theorem Zhf {b A B C : Int} {l : List RA} {t : Nat} {ts : List Nat} (e : A = b + (t : Int)) (h : ZfL b l ts) : ZfL b (⟨8, A, B, C⟩ :: l) (t :: ts) := ⟨fun _ => e, h⟩
theorem ZeW {b A B C : Int} {l : List RA} {t : Nat} {ts : List Nat} (e : B = b + (t : Int)) (h : ZfL b l ts) : ZfL b (⟨9, A, B, C⟩ :: l) (t :: ts) := ⟨fun _ => e, h⟩
theorem Zi2 {b : Int} : ∀ {l : List RA} {ts : List Nat}, ZfL b l ts → ∀ k, k < l.length → ((l.getD k RA.z).a0 = 8 ∨ (l.getD k RA.z).a0 = 9) → tgt (l.getD k RA.z) = b + (ts.getD k 0 : Nat)
 | [], _, _, k, hk => by simp at hk
 | _ :: _, [], h, _, _ => h.elim
 | x :: l, t :: ts, h, 0, _ => h.1
 | x :: l, t :: ts, h, k + 1, hk => Zi2 h.2 k (by simpa using hk)
def Zja (ops : List Int) : Bool :=
 (List.range ops.length).all fun k => !(ops.getD k 0 == 20) && (!(ops.getD k 0 == 11 || ops.getD k 0 == 12 || ops.getD k 0 == 13 || ops.getD k 0 == 14 || ops.getD k 0 == 18) || (!Nat.beq (Zdy ops k).length 0 && decide (0 ≤ (ZdL (Zdy ops k)).a0)))
theorem ZrF {p : List RA} (h : Zja (p.map (·.a0)) = true) {k : Nat} (hk : k < p.length) : (p.getD k RA.z).a0 ≠ 20 ∧ (((p.getD k RA.z).a0 = 11 ∨ (p.getD k RA.z).a0 = 12 ∨ (p.getD k RA.z).a0 = 13 ∨ (p.getD k RA.z).a0 = 14 ∨ (p.getD k RA.z).a0 = 18) → (Zdy (p.map (·.a0)) k).length ≠ 0 ∧ 0 ≤ (ZdL (Zdy (p.map (·.a0)) k)).a0) := by
 have h := List.all_eq_true.1 h k (by simp [hk])
 have e : (p.map (·.a0)).getD k 0 = (p.getD k RA.z).a0 := by simp [hk]
 rw [e] at h
 generalize (p.getD k RA.z).a0 = op at h ⊢
 simp only [Bool.and_eq_true, Bool.or_eq_true, Bool.not_eq_true', Bool.or_eq_false_iff, beq_eq_false_iff_ne, decide_eq_true_eq] at h
 refine ⟨h.1, fun hm => ?_⟩
 rcases h.2 with h2 | h2
 ·obtain ⟨⟨⟨⟨q1, q2⟩, q3⟩, q4⟩, q5⟩ := h2
  rcases hm with h | h | h | h | h <;> contradiction
 ·exact ⟨fun q => (by have := h2.1; rw [q] at this; cases this), h2.2⟩
theorem ZrG {p : List RA} {b N : Nat} (G : Good (List.replicate b ZaV ++ p) N) (hN : 2000 ≤ N) (hm : Zja (p.map (·.a0)) = true) {k : Nat} (hk : k < p.length) (ho : (p.getD k RA.z).a0 = 11 ∨ (p.getD k RA.z).a0 = 12 ∨ (p.getD k RA.z).a0 = 13 ∨ (p.getD k RA.z).a0 = 14 ∨ (p.getD k RA.z).a0 = 18) : ∃ x y, ZaX (List.replicate b ZaV ++ p) ((b + k : Nat) : Int) N = some (.r0 x y) ∧ ¬ x < 0 := by
 refine ⟨_, _, ZrE G hN (b + k) (by simp; omega), ?_⟩
 obtain ⟨h1, h2⟩ := (ZrF hm hk).2 ho
 rw [Zel]
 unfold brP
 rw [ZmA, if_neg h1, Zng h1]
 show ¬ _ + _ < _
 omega
section
variable {p : List RA} {b N : Nat}
theorem Zpm (G : Good (List.replicate b ZaV ++ p) N) (hN : 2000 ≤ N) (hm : Zja (p.map (·.a0)) = true) (hb : b ≤ 512) (hp : p.length ≤ 512) : ∀ d k f, k + d = p.length → d < f → Zc7 (Zbp p (b : Int) N) f (.h2m0 (List.replicate b ZaV ++ p) ((b + k : Nat) : Int)) = some (.r0 true) := by
 have hl : (List.replicate b ZaV ++ p).length = b + p.length := by simp
 intro d
 induction d with
 | zero =>
  intro k f hk hf
  obtain ⟨f, rfl⟩ : ∃ j, f = j + 1 := ⟨f - 1, by omega⟩
  refine Zds ?_
  show Zb2 p (b : Int) N _ _ = _
  unfold Zb2
  exact Z8 (by omega) rfl
 | succ d ih =>
  intro k f hk hf
  obtain ⟨f, rfl⟩ : ∃ j, f = j + 1 := ⟨f - 1, by omega⟩
  refine (Zaa ?_).trans (ih (k + 1) f (by omega) (by omega))
  show Zb2 p (b : Int) N _ _ = _
  unfold Zb2
  have hk' : k < p.length := by omega
  have e : (((b + k : Nat) : Int)).toNat = b + k := rfl
  have ew : IntKind.i64.wrap (((b + k : Nat) : Int) + 1) = ((b + (k + 1) : Nat) : Int) := (w64 (by omega) (by omega)).trans (by omega)
  refine Zy (by omega) (Zy (by omega) ?_)
  rw [e, Zfe, ew]
  have h20 := (ZrF hm hk').1
  have br := ZrG G hN hm hk'
  generalize (p.getD k RA.z).a0 = op at h20 br ⊢
  by_cases h11 : op = 11
  ·subst h11
   obtain ⟨x, y, q1, q2⟩ := br (.inl rfl)
   exact Zy rfl (ZT q1 (Z8 q2 rfl))
  by_cases h12 : op = 12
  ·subst h12
   obtain ⟨x, y, q1, q2⟩ := br (.inr (.inl rfl))
   exact Z8 (by decide) (Zy rfl (ZT q1 (Z8 q2 rfl)))
  by_cases h13 : op = 13
  ·subst h13
   obtain ⟨x, y, q1, q2⟩ := br (.inr (.inr (.inl rfl)))
   exact Z8 (by decide) (Z8 (by decide) (Zy rfl (ZT q1 (Z8 q2 rfl))))
  by_cases h14 : op = 14
  ·subst h14
   obtain ⟨x, y, q1, q2⟩ := br (.inr (.inr (.inr (.inl rfl))))
   exact Z8 (by decide) (Z8 (by decide) (Z8 (by decide) (Zy rfl (ZT q1 (Z8 q2 rfl)))))
  by_cases h18 : op = 18
  ·subst h18
   obtain ⟨x, y, q1, q2⟩ := br (.inr (.inr (.inr (.inr rfl))))
   exact Z8 (by decide) (Z8 (by decide) (Z8 (by decide) (Z8 (by decide) (Zy rfl (ZT q1 (Z8 q2 rfl))))))
  refine Z8 h11 ?_
  refine Z8 h12 ?_
  refine Z8 h13 ?_
  refine Z8 h14 ?_
  refine Z8 h18 ?_
  exact Z8 h20 rfl
theorem Zpn (G : Good (List.replicate b ZaV ++ p) N) (hN : 2000 ≤ N) (hbl : nBl (p.map (·.a0)) p.length = 1) : ∃ r, Zag (List.replicate b ZaV ++ p) N = some (.r0 0) ∧ ZaW (List.replicate b ZaV ++ p) N = some r ∧ (ZqV r).length = 1 := by
 obtain ⟨r, h1, h2⟩ := Zn2 G hN
 refine ⟨r, ZiY G hN, h1, ?_⟩
 rw [h2, show (List.replicate b ZaV ++ p).length = b + p.length by simp, ZiZ _ (Nat.le_refl _), hbl]
theorem Zs1 (G : Good (List.replicate b ZaV ++ p) N) (hN : 2000 ≤ N) (hm : Zja (p.map (·.a0)) = true) (hbl : nBl (p.map (·.a0)) p.length = 1) (hb : b ≤ 512) (hp : p.length ≤ 512) (h1 : 1 ≤ p.length) : ∀ d k f, k + d = b → d + p.length + 2 < f → 1 ≤ k → Zc7 (Zbp p (b : Int) N) f (.h1m1 (List.replicate k ZaV) k) = some (.r0 true) := by
 intro d
 induction d with
 | zero =>
  intro k f hk hf h1k
  obtain ⟨f, rfl⟩ : ∃ j, f = j + 1 := ⟨f - 1, by omega⟩
  obtain rfl : k = b := by omega
  refine (Zaa (y := law24_standsX.h2m0 (List.replicate k ZaV ++ p) ((k + 0 : Nat) : Int)) ?_).trans (Zpm G hN hm hb hp p.length 0 f (by omega) (by omega))
  show Zb1 p (k : Int) N _ _ = _
  unfold Zb1
  obtain ⟨r, q1, q2, q3⟩ := Zpn G hN hbl
  refine Z8 (by omega) (Z8 (by omega) (Zy (by omega) (Zy (by simp; omega) (ZT q1 (Z8 (by simp) (ZT q2 ?_))))))
  cases r with
  | r0 => exact absurd q3 (by decide)
  | r1 l =>
   have q3 : l.length = 1 := q3
   exact Z8 (by omega) rfl
 | succ d ih =>
  intro k f hk hf h1k
  obtain ⟨f, rfl⟩ : ∃ j, f = j + 1 := ⟨f - 1, by omega⟩
  refine (Zaa ?_).trans (ih (k + 1) f (by omega) (by omega) (by omega))
  show Zb1 p (b : Int) N _ _ = _
  unfold Zb1
  refine Zy (by omega) (Zy (by simp; omega) (Zy (by omega) ?_))
  rw [List.replicate_succ']
theorem Zhw (G : Good (List.replicate b ZaV ++ p) N) (hN : 2000 ≤ N) (hm : Zja (p.map (·.a0)) = true) (hbl : nBl (p.map (·.a0)) p.length = 1) (hb : b ≤ 512) (hp : p.length ≤ 512) (h1 : 1 ≤ p.length) : ZU p (b : Int) N = some (.r0 true) := by
 refine (ZdN (x := law24_standsX.h1m0) rfl).trans ?_
 obtain ⟨f, rfl⟩ : ∃ j, N = j + 1 := ⟨N - 1, by omega⟩
 by_cases h0 : b = 0
 ·subst h0
  refine (Zaa (y := law24_standsX.h2m0 (List.replicate 0 ZaV ++ p) ((0 + 0 : Nat) : Int)) ?_).trans (Zpm G hN hm hb hp p.length 0 f (by omega) (by omega))
  show Zb0 p _ _ = _
  unfold Zb0
  obtain ⟨r, q1, q2, q3⟩ := Zpn G hN hbl
  refine Z8 (by simp) (Z8 (by omega) (Zy (by omega) (ZT q1 (Z8 (by simp) (ZT q2 ?_)))))
  cases r with
  | r0 => exact absurd q3 (by decide)
  | r1 l =>
   have q3 : l.length = 1 := q3
   exact Z8 (by omega) rfl
 ·refine (Zaa (y := law24_standsX.h1m1 (List.replicate 1 ZaV) 1) ?_).trans (Zs1 G hN hm hbl hb hp h1 (b - 1) 1 f (by omega) (by omega) (by omega))
  show Zb0 p _ _ = _
  unfold Zb0
  exact Zy (by omega) rfl
end
section
variable {p : List RA} {b N : Nat}
theorem Zn3 (G : Good (List.replicate b ZaV ++ p) N) (hN : 2000 ≤ N) (hbl : nBl (p.map (·.a0)) p.length = 0) : ∃ r, Zag (List.replicate b ZaV ++ p) N = some (.r0 0) ∧ ZaW (List.replicate b ZaV ++ p) N = some r ∧ (ZqV r).length = 0 := by
 obtain ⟨r, h1, h2⟩ := Zn2 G hN
 refine ⟨r, ZiY G hN, h1, ?_⟩
 rw [h2, show (List.replicate b ZaV ++ p).length = b + p.length by simp, ZiZ _ (Nat.le_refl _), hbl]
theorem ZrH (G : Good (List.replicate b ZaV ++ p) N) (hN : 2000 ≤ N) (hbl : nBl (p.map (·.a0)) p.length = 0) (hb : b ≤ 512) (hp : p.length ≤ 512) (h1 : 1 ≤ p.length) : ∀ d k f, k + d = b → d < f → 1 ≤ k → Zc7 (ZbG p (b : Int) N) f (.h1m1 (List.replicate k ZaV) k) = some (.r0 true) := by
 intro d
 induction d with
 | zero =>
  intro k f hk hf h1k
  obtain ⟨f, rfl⟩ : ∃ j, f = j + 1 := ⟨f - 1, by omega⟩
  obtain rfl : k = b := by omega
  refine Zds ?_
  show Zbh p (k : Int) N _ _ = _
  unfold Zbh
  obtain ⟨r, q1, q2, q3⟩ := Zn3 G hN hbl
  refine Z8 (by omega) (Z8 (by omega) (Zy (by omega) (Zy (by simp; omega) (ZT q1 (Z8 (by simp) (ZT q2 ?_))))))
  cases r with
  | r0 => rfl
  | r1 l =>
   have q3 : l.length = 0 := q3
   exact Zy (by omega) rfl
 | succ d ih =>
  intro k f hk hf h1k
  obtain ⟨f, rfl⟩ : ∃ j, f = j + 1 := ⟨f - 1, by omega⟩
  refine (Zaa ?_).trans (ih (k + 1) f (by omega) (by omega) (by omega))
  show Zbh p (b : Int) N _ _ = _
  unfold Zbh
  refine Zy (by omega) (Zy (by simp; omega) (Zy (by omega) ?_))
  rw [List.replicate_succ']
theorem ZqW (G : Good (List.replicate b ZaV ++ p) N) (hN : 2000 ≤ N) (hbl : nBl (p.map (·.a0)) p.length = 0) (hb : b ≤ 512) (hp : p.length ≤ 512) (h1 : 1 ≤ p.length) : Zas p (b : Int) N = some (.r0 true) := by
 refine (ZdN (x := law24_stands_2X.h1m0) rfl).trans ?_
 obtain ⟨f, rfl⟩ : ∃ j, N = j + 1 := ⟨N - 1, by omega⟩
 by_cases h0 : b = 0
 ·subst h0
  refine Zds ?_
  show Zbg p _ _ = _
  unfold Zbg
  obtain ⟨r, q1, q2, q3⟩ := Zn3 G hN hbl
  refine Z8 (by simp) (Z8 (by omega) (Zy (by omega) (ZT q1 (Z8 (by simp) (ZT q2 ?_)))))
  cases r with
  | r0 => rfl
  | r1 l =>
   have q3 : l.length = 0 := q3
   exact Zy (by omega) rfl
 ·refine (Zaa (y := law24_stands_2X.h1m1 (List.replicate 1 ZaV) 1) ?_).trans (ZrH G hN hbl hb hp h1 (b - 1) 1 f (by omega) (by omega) (by omega))
  show Zbg p _ _ = _
  unfold Zbg
  exact Zy (by omega) rfl
end
def Zcq (a0 a1 a2 : Int) : List RA := [(⟨(1 : Int), (1 : Int), a2, (0 : Int)⟩ : RA), (⟨(10 : Int), (0 : Int), (0 : Int), (0 : Int)⟩ : RA), (⟨(15 : Int), (0 : Int), (0 : Int), (0 : Int)⟩ : RA), (⟨(13 : Int), (2 : Int), (0 : Int), a1⟩ : RA), (⟨(9 : Int), (2 : Int), (a0 + (27 : Int)), (0 : Int)⟩ : RA), (⟨(13 : Int), (3 : Int), (2 : Int), (1 : Int)⟩ : RA), (⟨(6 : Int), (4 : Int), (3 : Int), (1 : Int)⟩ : RA), (⟨(9 : Int), (4 : Int), (a0 + (24 : Int)), (0 : Int)⟩ : RA), (⟨(13 : Int), (5 : Int), (2 : Int), (0 : Int)⟩ : RA), (⟨(9 : Int), (5 : Int), (a0 + (18 : Int)), (0 : Int)⟩ : RA), (⟨(13 : Int), (3 : Int), (5 : Int), (1 : Int)⟩ : RA), (⟨(6 : Int), (4 : Int), (3 : Int), (1 : Int)⟩ : RA), (⟨(9 : Int), (4 : Int), (a0 + (15 : Int)), (0 : Int)⟩ : RA), (⟨(3 : Int), (2 : Int), (5 : Int), (0 : Int)⟩ : RA), (⟨(8 : Int), (a0 + (8 : Int)), (0 : Int), (0 : Int)⟩ : RA), (⟨(7 : Int), (4 : Int), (3 : Int), (1 : Int)⟩ : RA), (⟨(9 : Int), (4 : Int), (a0 + (18 : Int)), (0 : Int)⟩ : RA), (⟨(8 : Int), (a0 + (33 : Int)), (0 : Int), (0 : Int)⟩ : RA), (⟨(11 : Int), (6 : Int), (2 : Int), (1 : Int)⟩ : RA), (⟨(14 : Int), (6 : Int), (1 : Int), (1 : Int)⟩ : RA), (⟨(14 : Int), (6 : Int), (0 : Int), (5 : Int)⟩ : RA), (⟨(14 : Int), (2 : Int), (0 : Int), (6 : Int)⟩ : RA), (⟨(1 : Int), (7 : Int), (1 : Int), (0 : Int)⟩ : RA), (⟨(8 : Int), (a0 + (34 : Int)), (0 : Int), (0 : Int)⟩ : RA), (⟨(7 : Int), (4 : Int), (3 : Int), (1 : Int)⟩ : RA), (⟨(9 : Int), (4 : Int), (a0 + (27 : Int)), (0 : Int)⟩ : RA), (⟨(8 : Int), (a0 + (33 : Int)), (0 : Int), (0 : Int)⟩ : RA), (⟨(11 : Int), (6 : Int), (2 : Int), (1 : Int)⟩ : RA), (⟨(14 : Int), (6 : Int), (1 : Int), (1 : Int)⟩ : RA), (⟨(14 : Int), (6 : Int), (0 : Int), (2 : Int)⟩ : RA), (⟨(14 : Int), (0 : Int), a1, (6 : Int)⟩ : RA), (⟨(1 : Int), (7 : Int), (1 : Int), (0 : Int)⟩ : RA), (⟨(8 : Int), (a0 + (34 : Int)), (0 : Int), (0 : Int)⟩ : RA), (⟨(1 : Int), (7 : Int), (0 : Int), (0 : Int)⟩ : RA), (⟨(17 : Int), (0 : Int), (0 : Int), (0 : Int)⟩ : RA)]
theorem ZdU (a0 a1 a2 : Int) : (Zcq a0 a1 a2).length = 35 := rfl
theorem Zt0 {a0 a1 a2 : Int} (N : Nat) (h0 : 0 ≤ a0) (h1 : a0 ≤ 400) (h2 : 0 ≤ a1) (h3 : a1 ≤ 7) (h4 : -1099511627776 ≤ a2) (h5 : a2 ≤ 1099511627776) : ∀ x ∈ Zcq a0 a1 a2, ZaS x.a0 x.a1 x.a2 x.a3 N = some (.r0 true) :=
  all_cons (ZB (op := 1) (A := 1) (B := a2) (C := 0) rfl (f1 (by omega) (by omega)) (f2 (by omega) (by omega)) (f0 (by omega))) <|
  all_cons (ZB (op := 10) (A := 0) (B := 0) (C := 0) rfl (f1 (by omega) (by omega)) (f0 (by omega)) (f0 (by omega))) <|
  all_cons (ZB (op := 15) (A := 0) (B := 0) (C := 0) rfl (f0 (by omega)) (f0 (by omega)) (f0 (by omega))) <|
  all_cons (ZB (op := 13) (A := 2) (B := 0) (C := a1) rfl (f1 (by omega) (by omega)) (f1 (by omega) (by omega)) (f4 (by omega) (by omega))) <|
  all_cons (ZB (op := 9) (A := 2) (B := a0 + (27 : Int)) (C := 0) rfl (f1 (by omega) (by omega)) (f3 (by omega) (by omega)) (f0 (by omega))) <|
  all_cons (ZB (op := 13) (A := 3) (B := 2) (C := 1) rfl (f1 (by omega) (by omega)) (f1 (by omega) (by omega)) (f4 (by omega) (by omega))) <|
  all_cons (ZB (op := 6) (A := 4) (B := 3) (C := 1) rfl (f1 (by omega) (by omega)) (f1 (by omega) (by omega)) (f1 (by omega) (by omega))) <|
  all_cons (ZB (op := 9) (A := 4) (B := a0 + (24 : Int)) (C := 0) rfl (f1 (by omega) (by omega)) (f3 (by omega) (by omega)) (f0 (by omega))) <|
  all_cons (ZB (op := 13) (A := 5) (B := 2) (C := 0) rfl (f1 (by omega) (by omega)) (f1 (by omega) (by omega)) (f4 (by omega) (by omega))) <|
  all_cons (ZB (op := 9) (A := 5) (B := a0 + (18 : Int)) (C := 0) rfl (f1 (by omega) (by omega)) (f3 (by omega) (by omega)) (f0 (by omega))) <|
  all_cons (ZB (op := 13) (A := 3) (B := 5) (C := 1) rfl (f1 (by omega) (by omega)) (f1 (by omega) (by omega)) (f4 (by omega) (by omega))) <|
  all_cons (ZB (op := 6) (A := 4) (B := 3) (C := 1) rfl (f1 (by omega) (by omega)) (f1 (by omega) (by omega)) (f1 (by omega) (by omega))) <|
  all_cons (ZB (op := 9) (A := 4) (B := a0 + (15 : Int)) (C := 0) rfl (f1 (by omega) (by omega)) (f3 (by omega) (by omega)) (f0 (by omega))) <|
  all_cons (ZB (op := 3) (A := 2) (B := 5) (C := 0) rfl (f1 (by omega) (by omega)) (f1 (by omega) (by omega)) (f0 (by omega))) <|
  all_cons (ZB (op := 8) (A := a0 + (8 : Int)) (B := 0) (C := 0) rfl (f3 (by omega) (by omega)) (f0 (by omega)) (f0 (by omega))) <|
  all_cons (ZB (op := 7) (A := 4) (B := 3) (C := 1) rfl (f1 (by omega) (by omega)) (f1 (by omega) (by omega)) (f1 (by omega) (by omega))) <|
  all_cons (ZB (op := 9) (A := 4) (B := a0 + (18 : Int)) (C := 0) rfl (f1 (by omega) (by omega)) (f3 (by omega) (by omega)) (f0 (by omega))) <|
  all_cons (ZB (op := 8) (A := a0 + (33 : Int)) (B := 0) (C := 0) rfl (f3 (by omega) (by omega)) (f0 (by omega)) (f0 (by omega))) <|
  all_cons (ZB (op := 11) (A := 6) (B := 2) (C := 1) rfl (f1 (by omega) (by omega)) (f5 (by omega) (by omega)) ((by rfl))) <|
  all_cons (ZB (op := 14) (A := 6) (B := 1) (C := 1) rfl (f1 (by omega) (by omega)) (f4 (by omega) (by omega)) (f1 (by omega) (by omega))) <|
  all_cons (ZB (op := 14) (A := 6) (B := 0) (C := 5) rfl (f1 (by omega) (by omega)) (f4 (by omega) (by omega)) (f1 (by omega) (by omega))) <|
  all_cons (ZB (op := 14) (A := 2) (B := 0) (C := 6) rfl (f1 (by omega) (by omega)) (f4 (by omega) (by omega)) (f1 (by omega) (by omega))) <|
  all_cons (ZB (op := 1) (A := 7) (B := 1) (C := 0) rfl (f1 (by omega) (by omega)) (f2 (by omega) (by omega)) (f0 (by omega))) <|
  all_cons (ZB (op := 8) (A := a0 + (34 : Int)) (B := 0) (C := 0) rfl (f3 (by omega) (by omega)) (f0 (by omega)) (f0 (by omega))) <|
  all_cons (ZB (op := 7) (A := 4) (B := 3) (C := 1) rfl (f1 (by omega) (by omega)) (f1 (by omega) (by omega)) (f1 (by omega) (by omega))) <|
  all_cons (ZB (op := 9) (A := 4) (B := a0 + (27 : Int)) (C := 0) rfl (f1 (by omega) (by omega)) (f3 (by omega) (by omega)) (f0 (by omega))) <|
  all_cons (ZB (op := 8) (A := a0 + (33 : Int)) (B := 0) (C := 0) rfl (f3 (by omega) (by omega)) (f0 (by omega)) (f0 (by omega))) <|
  all_cons (ZB (op := 11) (A := 6) (B := 2) (C := 1) rfl (f1 (by omega) (by omega)) (f5 (by omega) (by omega)) ((by rfl))) <|
  all_cons (ZB (op := 14) (A := 6) (B := 1) (C := 1) rfl (f1 (by omega) (by omega)) (f4 (by omega) (by omega)) (f1 (by omega) (by omega))) <|
  all_cons (ZB (op := 14) (A := 6) (B := 0) (C := 2) rfl (f1 (by omega) (by omega)) (f4 (by omega) (by omega)) (f1 (by omega) (by omega))) <|
  all_cons (ZB (op := 14) (A := 0) (B := a1) (C := 6) rfl (f1 (by omega) (by omega)) (f4 (by omega) (by omega)) (f1 (by omega) (by omega))) <|
  all_cons (ZB (op := 1) (A := 7) (B := 1) (C := 0) rfl (f1 (by omega) (by omega)) (f2 (by omega) (by omega)) (f0 (by omega))) <|
  all_cons (ZB (op := 8) (A := a0 + (34 : Int)) (B := 0) (C := 0) rfl (f3 (by omega) (by omega)) (f0 (by omega)) (f0 (by omega))) <|
  all_cons (ZB (op := 1) (A := 7) (B := 0) (C := 0) rfl (f1 (by omega) (by omega)) (f2 (by omega) (by omega)) (f0 (by omega))) <|
  all_cons (ZB (op := 17) (A := 0) (B := 0) (C := 0) rfl (f0 (by omega)) (f0 (by omega)) (f0 (by omega))) <|
  Zi1
def ZqX : List Int := [1, 10, 15, 13, 9, 13, 6, 9, 13, 9, 13, 6, 9, 3, 8, 7, 9, 8, 11, 14, 14, 14, 1, 8, 7, 9, 8, 11, 14, 14, 14, 1, 8, 1, 17]
def Zs2 : List Nat := [0, 0, 0, 0, 27, 0, 0, 24, 0, 18, 0, 0, 15, 0, 8, 0, 18, 33, 0, 0, 0, 0, 0, 34, 0, 27, 33, 0, 0, 0, 0, 0, 34, 0, 0]
theorem Zt1 {a0 a1 a2 : Int} (b : Nat) (hb : a0 = (b : Int)) : ZfL (b : Int) (Zcq a0 a1 a2) Zs2 :=
  ZM (show (1 : Int) ≠ 8 from by decide) (show (1 : Int) ≠ 9 from by decide) <| ZM (show (10 : Int) ≠ 8 from by decide) (show (10 : Int) ≠ 9 from by decide) <| ZM (show (15 : Int) ≠ 8 from by decide) (show (15 : Int) ≠ 9 from by decide) <| ZM (show (13 : Int) ≠ 8 from by decide) (show (13 : Int) ≠ 9 from by decide) <| ZeW (by omega) <| ZM (show (13 : Int) ≠ 8 from by decide) (show (13 : Int) ≠ 9 from by decide) <| ZM (show (6 : Int) ≠ 8 from by decide) (show (6 : Int) ≠ 9 from by decide) <| ZeW (by omega) <| ZM (show (13 : Int) ≠ 8 from by decide) (show (13 : Int) ≠ 9 from by decide) <| ZeW (by omega) <| ZM (show (13 : Int) ≠ 8 from by decide) (show (13 : Int) ≠ 9 from by decide) <| ZM (show (6 : Int) ≠ 8 from by decide) (show (6 : Int) ≠ 9 from by decide) <| ZeW (by omega) <| ZM (show (3 : Int) ≠ 8 from by decide) (show (3 : Int) ≠ 9 from by decide) <| Zhf (by omega) <| ZM (show (7 : Int) ≠ 8 from by decide) (show (7 : Int) ≠ 9 from by decide) <| ZeW (by omega) <| Zhf (by omega) <| ZM (show (11 : Int) ≠ 8 from by decide) (show (11 : Int) ≠ 9 from by decide) <| ZM (show (14 : Int) ≠ 8 from by decide) (show (14 : Int) ≠ 9 from by decide) <| ZM (show (14 : Int) ≠ 8 from by decide) (show (14 : Int) ≠ 9 from by decide) <| ZM (show (14 : Int) ≠ 8 from by decide) (show (14 : Int) ≠ 9 from by decide) <| ZM (show (1 : Int) ≠ 8 from by decide) (show (1 : Int) ≠ 9 from by decide) <| Zhf (by omega) <| ZM (show (7 : Int) ≠ 8 from by decide) (show (7 : Int) ≠ 9 from by decide) <| ZeW (by omega) <| Zhf (by omega) <| ZM (show (11 : Int) ≠ 8 from by decide) (show (11 : Int) ≠ 9 from by decide) <| ZM (show (14 : Int) ≠ 8 from by decide) (show (14 : Int) ≠ 9 from by decide) <| ZM (show (14 : Int) ≠ 8 from by decide) (show (14 : Int) ≠ 9 from by decide) <| ZM (show (14 : Int) ≠ 8 from by decide) (show (14 : Int) ≠ 9 from by decide) <| ZM (show (1 : Int) ≠ 8 from by decide) (show (1 : Int) ≠ 9 from by decide) <| Zhf (by omega) <| ZM (show (1 : Int) ≠ 8 from by decide) (show (1 : Int) ≠ 9 from by decide) <| ZM (show (17 : Int) ≠ 8 from by decide) (show (17 : Int) ≠ 9 from by decide) <| trivial
theorem ZrI : Zi0 ZqX Zs2 = true := by kernel_rfl
theorem Zte : Zdy ZqX 35 = [] := ZeV (by kernel_rfl)
theorem Zs3 {a0 a1 a2 : Int} (N : Nat) (h0 : 0 ≤ a0) (h1 : a0 ≤ 400) (h2 : 0 ≤ a1) (h3 : a1 ≤ 7) (h4 : -1099511627776 ≤ a2) (h5 : a2 ≤ 1099511627776) (b : Nat) (hb : a0 = (b : Int)) : Good (List.replicate b ZaV ++ Zcq a0 a1 a2) N :=
 Zf6 (tg := Zs2) (by rw [ZdU]; decide) (by rw [ZdU]; omega) (Zt0 N h0 h1 h2 h3 h4 h5) ZrI Zte (Zi2 (Zt1 b hb))
theorem Ztf : Zja ZqX = true := by kernel_rfl
theorem Zt2 : nBl ZqX 35 = 1 := by kernel_rfl
theorem Zt3 {a0 a1 a2 : Int} {N : Nat} (hN : 2000 ≤ N) (h0 : 0 ≤ a0) (h1 : a0 ≤ 400) (h2 : 0 ≤ a1) (h3 : a1 ≤ 7) (h4 : -1099511627776 ≤ a2) (h5 : a2 ≤ 1099511627776) : ZU (Zcq a0 a1 a2) a0 N = some (.r0 true) := by
 obtain ⟨b, rfl⟩ : ∃ b : Nat, a0 = (b : Int) := ⟨a0.toNat, by omega⟩
 exact Zhw (Zs3 N h0 h1 h2 h3 h4 h5 b rfl) hN Ztf Zt2 (by omega) (by rw [ZdU]; decide) (by rw [ZdU]; decide)
def Zcr (a0 a1 a2 : Int) : List RA := [(⟨(1 : Int), (1 : Int), a2, (0 : Int)⟩ : RA), (⟨(10 : Int), (0 : Int), (0 : Int), (0 : Int)⟩ : RA), (⟨(15 : Int), (0 : Int), (0 : Int), (0 : Int)⟩ : RA), (⟨(13 : Int), (2 : Int), (0 : Int), a1⟩ : RA), (⟨(9 : Int), (2 : Int), (a0 + (27 : Int)), (0 : Int)⟩ : RA), (⟨(13 : Int), (3 : Int), (2 : Int), (1 : Int)⟩ : RA), (⟨(7 : Int), (4 : Int), (3 : Int), (1 : Int)⟩ : RA), (⟨(9 : Int), (4 : Int), (a0 + (13 : Int)), (0 : Int)⟩ : RA), (⟨(13 : Int), (5 : Int), (2 : Int), (0 : Int)⟩ : RA), (⟨(14 : Int), (0 : Int), a1, (5 : Int)⟩ : RA), (⟨(12 : Int), (2 : Int), (0 : Int), (0 : Int)⟩ : RA), (⟨(1 : Int), (7 : Int), (1 : Int), (0 : Int)⟩ : RA), (⟨(8 : Int), (a0 + (28 : Int)), (0 : Int), (0 : Int)⟩ : RA), (⟨(6 : Int), (4 : Int), (3 : Int), (1 : Int)⟩ : RA), (⟨(9 : Int), (4 : Int), (a0 + (27 : Int)), (0 : Int)⟩ : RA), (⟨(13 : Int), (5 : Int), (2 : Int), (0 : Int)⟩ : RA), (⟨(9 : Int), (5 : Int), (a0 + (27 : Int)), (0 : Int)⟩ : RA), (⟨(13 : Int), (3 : Int), (5 : Int), (1 : Int)⟩ : RA), (⟨(7 : Int), (4 : Int), (3 : Int), (1 : Int)⟩ : RA), (⟨(9 : Int), (4 : Int), (a0 + (25 : Int)), (0 : Int)⟩ : RA), (⟨(13 : Int), (6 : Int), (5 : Int), (0 : Int)⟩ : RA), (⟨(14 : Int), (2 : Int), (0 : Int), (6 : Int)⟩ : RA), (⟨(12 : Int), (5 : Int), (0 : Int), (0 : Int)⟩ : RA), (⟨(1 : Int), (7 : Int), (1 : Int), (0 : Int)⟩ : RA), (⟨(8 : Int), (a0 + (28 : Int)), (0 : Int), (0 : Int)⟩ : RA), (⟨(3 : Int), (2 : Int), (5 : Int), (0 : Int)⟩ : RA), (⟨(8 : Int), (a0 + (13 : Int)), (0 : Int), (0 : Int)⟩ : RA), (⟨(1 : Int), (7 : Int), (0 : Int), (0 : Int)⟩ : RA), (⟨(17 : Int), (0 : Int), (0 : Int), (0 : Int)⟩ : RA)]
theorem ZdV (a0 a1 a2 : Int) : (Zcr a0 a1 a2).length = 29 := rfl
theorem Zt4 {a0 a1 a2 : Int} (N : Nat) (h0 : 0 ≤ a0) (h1 : a0 ≤ 400) (h2 : 0 ≤ a1) (h3 : a1 ≤ 7) (h4 : -1099511627776 ≤ a2) (h5 : a2 ≤ 1099511627776) : ∀ x ∈ Zcr a0 a1 a2, ZaS x.a0 x.a1 x.a2 x.a3 N = some (.r0 true) :=
  all_cons (ZB (op := 1) (A := 1) (B := a2) (C := 0) rfl (f1 (by omega) (by omega)) (f2 (by omega) (by omega)) (f0 (by omega))) <|
  all_cons (ZB (op := 10) (A := 0) (B := 0) (C := 0) rfl (f1 (by omega) (by omega)) (f0 (by omega)) (f0 (by omega))) <|
  all_cons (ZB (op := 15) (A := 0) (B := 0) (C := 0) rfl (f0 (by omega)) (f0 (by omega)) (f0 (by omega))) <|
  all_cons (ZB (op := 13) (A := 2) (B := 0) (C := a1) rfl (f1 (by omega) (by omega)) (f1 (by omega) (by omega)) (f4 (by omega) (by omega))) <|
  all_cons (ZB (op := 9) (A := 2) (B := a0 + (27 : Int)) (C := 0) rfl (f1 (by omega) (by omega)) (f3 (by omega) (by omega)) (f0 (by omega))) <|
  all_cons (ZB (op := 13) (A := 3) (B := 2) (C := 1) rfl (f1 (by omega) (by omega)) (f1 (by omega) (by omega)) (f4 (by omega) (by omega))) <|
  all_cons (ZB (op := 7) (A := 4) (B := 3) (C := 1) rfl (f1 (by omega) (by omega)) (f1 (by omega) (by omega)) (f1 (by omega) (by omega))) <|
  all_cons (ZB (op := 9) (A := 4) (B := a0 + (13 : Int)) (C := 0) rfl (f1 (by omega) (by omega)) (f3 (by omega) (by omega)) (f0 (by omega))) <|
  all_cons (ZB (op := 13) (A := 5) (B := 2) (C := 0) rfl (f1 (by omega) (by omega)) (f1 (by omega) (by omega)) (f4 (by omega) (by omega))) <|
  all_cons (ZB (op := 14) (A := 0) (B := a1) (C := 5) rfl (f1 (by omega) (by omega)) (f4 (by omega) (by omega)) (f1 (by omega) (by omega))) <|
  all_cons (ZB (op := 12) (A := 2) (B := 0) (C := 0) rfl (f1 (by omega) (by omega)) (f0 (by omega)) (f0 (by omega))) <|
  all_cons (ZB (op := 1) (A := 7) (B := 1) (C := 0) rfl (f1 (by omega) (by omega)) (f2 (by omega) (by omega)) (f0 (by omega))) <|
  all_cons (ZB (op := 8) (A := a0 + (28 : Int)) (B := 0) (C := 0) rfl (f3 (by omega) (by omega)) (f0 (by omega)) (f0 (by omega))) <|
  all_cons (ZB (op := 6) (A := 4) (B := 3) (C := 1) rfl (f1 (by omega) (by omega)) (f1 (by omega) (by omega)) (f1 (by omega) (by omega))) <|
  all_cons (ZB (op := 9) (A := 4) (B := a0 + (27 : Int)) (C := 0) rfl (f1 (by omega) (by omega)) (f3 (by omega) (by omega)) (f0 (by omega))) <|
  all_cons (ZB (op := 13) (A := 5) (B := 2) (C := 0) rfl (f1 (by omega) (by omega)) (f1 (by omega) (by omega)) (f4 (by omega) (by omega))) <|
  all_cons (ZB (op := 9) (A := 5) (B := a0 + (27 : Int)) (C := 0) rfl (f1 (by omega) (by omega)) (f3 (by omega) (by omega)) (f0 (by omega))) <|
  all_cons (ZB (op := 13) (A := 3) (B := 5) (C := 1) rfl (f1 (by omega) (by omega)) (f1 (by omega) (by omega)) (f4 (by omega) (by omega))) <|
  all_cons (ZB (op := 7) (A := 4) (B := 3) (C := 1) rfl (f1 (by omega) (by omega)) (f1 (by omega) (by omega)) (f1 (by omega) (by omega))) <|
  all_cons (ZB (op := 9) (A := 4) (B := a0 + (25 : Int)) (C := 0) rfl (f1 (by omega) (by omega)) (f3 (by omega) (by omega)) (f0 (by omega))) <|
  all_cons (ZB (op := 13) (A := 6) (B := 5) (C := 0) rfl (f1 (by omega) (by omega)) (f1 (by omega) (by omega)) (f4 (by omega) (by omega))) <|
  all_cons (ZB (op := 14) (A := 2) (B := 0) (C := 6) rfl (f1 (by omega) (by omega)) (f4 (by omega) (by omega)) (f1 (by omega) (by omega))) <|
  all_cons (ZB (op := 12) (A := 5) (B := 0) (C := 0) rfl (f1 (by omega) (by omega)) (f0 (by omega)) (f0 (by omega))) <|
  all_cons (ZB (op := 1) (A := 7) (B := 1) (C := 0) rfl (f1 (by omega) (by omega)) (f2 (by omega) (by omega)) (f0 (by omega))) <|
  all_cons (ZB (op := 8) (A := a0 + (28 : Int)) (B := 0) (C := 0) rfl (f3 (by omega) (by omega)) (f0 (by omega)) (f0 (by omega))) <|
  all_cons (ZB (op := 3) (A := 2) (B := 5) (C := 0) rfl (f1 (by omega) (by omega)) (f1 (by omega) (by omega)) (f0 (by omega))) <|
  all_cons (ZB (op := 8) (A := a0 + (13 : Int)) (B := 0) (C := 0) rfl (f3 (by omega) (by omega)) (f0 (by omega)) (f0 (by omega))) <|
  all_cons (ZB (op := 1) (A := 7) (B := 0) (C := 0) rfl (f1 (by omega) (by omega)) (f2 (by omega) (by omega)) (f0 (by omega))) <|
  all_cons (ZB (op := 17) (A := 0) (B := 0) (C := 0) rfl (f0 (by omega)) (f0 (by omega)) (f0 (by omega))) <|
  Zi1
def ZqY : List Int := [1, 10, 15, 13, 9, 13, 7, 9, 13, 14, 12, 1, 8, 6, 9, 13, 9, 13, 7, 9, 13, 14, 12, 1, 8, 3, 8, 1, 17]
def Zs4 : List Nat := [0, 0, 0, 0, 27, 0, 0, 13, 0, 0, 0, 0, 28, 0, 27, 0, 27, 0, 0, 25, 0, 0, 0, 0, 28, 0, 13, 0, 0]
theorem Zt5 {a0 a1 a2 : Int} (b : Nat) (hb : a0 = (b : Int)) : ZfL (b : Int) (Zcr a0 a1 a2) Zs4 :=
  ZM (show (1 : Int) ≠ 8 from by decide) (show (1 : Int) ≠ 9 from by decide) <| ZM (show (10 : Int) ≠ 8 from by decide) (show (10 : Int) ≠ 9 from by decide) <| ZM (show (15 : Int) ≠ 8 from by decide) (show (15 : Int) ≠ 9 from by decide) <| ZM (show (13 : Int) ≠ 8 from by decide) (show (13 : Int) ≠ 9 from by decide) <| ZeW (by omega) <| ZM (show (13 : Int) ≠ 8 from by decide) (show (13 : Int) ≠ 9 from by decide) <| ZM (show (7 : Int) ≠ 8 from by decide) (show (7 : Int) ≠ 9 from by decide) <| ZeW (by omega) <| ZM (show (13 : Int) ≠ 8 from by decide) (show (13 : Int) ≠ 9 from by decide) <| ZM (show (14 : Int) ≠ 8 from by decide) (show (14 : Int) ≠ 9 from by decide) <| ZM (show (12 : Int) ≠ 8 from by decide) (show (12 : Int) ≠ 9 from by decide) <| ZM (show (1 : Int) ≠ 8 from by decide) (show (1 : Int) ≠ 9 from by decide) <| Zhf (by omega) <| ZM (show (6 : Int) ≠ 8 from by decide) (show (6 : Int) ≠ 9 from by decide) <| ZeW (by omega) <| ZM (show (13 : Int) ≠ 8 from by decide) (show (13 : Int) ≠ 9 from by decide) <| ZeW (by omega) <| ZM (show (13 : Int) ≠ 8 from by decide) (show (13 : Int) ≠ 9 from by decide) <| ZM (show (7 : Int) ≠ 8 from by decide) (show (7 : Int) ≠ 9 from by decide) <| ZeW (by omega) <| ZM (show (13 : Int) ≠ 8 from by decide) (show (13 : Int) ≠ 9 from by decide) <| ZM (show (14 : Int) ≠ 8 from by decide) (show (14 : Int) ≠ 9 from by decide) <| ZM (show (12 : Int) ≠ 8 from by decide) (show (12 : Int) ≠ 9 from by decide) <| ZM (show (1 : Int) ≠ 8 from by decide) (show (1 : Int) ≠ 9 from by decide) <| Zhf (by omega) <| ZM (show (3 : Int) ≠ 8 from by decide) (show (3 : Int) ≠ 9 from by decide) <| Zhf (by omega) <| ZM (show (1 : Int) ≠ 8 from by decide) (show (1 : Int) ≠ 9 from by decide) <| ZM (show (17 : Int) ≠ 8 from by decide) (show (17 : Int) ≠ 9 from by decide) <| trivial
theorem ZrJ : Zi0 ZqY Zs4 = true := by kernel_rfl
theorem Ztg : Zdy ZqY 29 = [] := ZeV (by kernel_rfl)
theorem Zs5 {a0 a1 a2 : Int} (N : Nat) (h0 : 0 ≤ a0) (h1 : a0 ≤ 400) (h2 : 0 ≤ a1) (h3 : a1 ≤ 7) (h4 : -1099511627776 ≤ a2) (h5 : a2 ≤ 1099511627776) (b : Nat) (hb : a0 = (b : Int)) : Good (List.replicate b ZaV ++ Zcr a0 a1 a2) N :=
 Zf6 (tg := Zs4) (by rw [ZdV]; decide) (by rw [ZdV]; omega) (Zt4 N h0 h1 h2 h3 h4 h5) ZrJ Ztg (Zi2 (Zt5 b hb))
theorem Zth : Zja ZqY = true := by kernel_rfl
theorem Zt6 : nBl ZqY 29 = 1 := by kernel_rfl
theorem Zt7 {a0 a1 a2 : Int} {N : Nat} (hN : 2000 ≤ N) (h0 : 0 ≤ a0) (h1 : a0 ≤ 400) (h2 : 0 ≤ a1) (h3 : a1 ≤ 7) (h4 : -1099511627776 ≤ a2) (h5 : a2 ≤ 1099511627776) : ZU (Zcr a0 a1 a2) a0 N = some (.r0 true) := by
 obtain ⟨b, rfl⟩ : ∃ b : Nat, a0 = (b : Int) := ⟨a0.toNat, by omega⟩
 exact Zhw (Zs5 N h0 h1 h2 h3 h4 h5 b rfl) hN Zth Zt6 (by omega) (by rw [ZdV]; decide) (by rw [ZdV]; decide)
def Zcs (a0 a1 a2 : Int) : List RA := [(⟨(1 : Int), (1 : Int), a2, (0 : Int)⟩ : RA), (⟨(10 : Int), (0 : Int), (0 : Int), (0 : Int)⟩ : RA), (⟨(15 : Int), (0 : Int), (0 : Int), (0 : Int)⟩ : RA), (⟨(13 : Int), (2 : Int), (0 : Int), a1⟩ : RA), (⟨(9 : Int), (2 : Int), (a0 + (12 : Int)), (0 : Int)⟩ : RA), (⟨(13 : Int), (3 : Int), (2 : Int), (1 : Int)⟩ : RA), (⟨(6 : Int), (4 : Int), (3 : Int), (1 : Int)⟩ : RA), (⟨(9 : Int), (4 : Int), (a0 + (10 : Int)), (0 : Int)⟩ : RA), (⟨(13 : Int), (2 : Int), (2 : Int), (0 : Int)⟩ : RA), (⟨(8 : Int), (a0 + (4 : Int)), (0 : Int), (0 : Int)⟩ : RA), (⟨(7 : Int), (7 : Int), (3 : Int), (1 : Int)⟩ : RA), (⟨(8 : Int), (a0 + (13 : Int)), (0 : Int), (0 : Int)⟩ : RA), (⟨(1 : Int), (7 : Int), (0 : Int), (0 : Int)⟩ : RA), (⟨(17 : Int), (0 : Int), (0 : Int), (0 : Int)⟩ : RA)]
theorem ZdW (a0 a1 a2 : Int) : (Zcs a0 a1 a2).length = 14 := rfl
theorem Zt8 {a0 a1 a2 : Int} (N : Nat) (h0 : 0 ≤ a0) (h1 : a0 ≤ 400) (h2 : 0 ≤ a1) (h3 : a1 ≤ 7) (h4 : -1099511627776 ≤ a2) (h5 : a2 ≤ 1099511627776) : ∀ x ∈ Zcs a0 a1 a2, ZaS x.a0 x.a1 x.a2 x.a3 N = some (.r0 true) :=
  all_cons (ZB (op := 1) (A := 1) (B := a2) (C := 0) rfl (f1 (by omega) (by omega)) (f2 (by omega) (by omega)) (f0 (by omega))) <|
  all_cons (ZB (op := 10) (A := 0) (B := 0) (C := 0) rfl (f1 (by omega) (by omega)) (f0 (by omega)) (f0 (by omega))) <|
  all_cons (ZB (op := 15) (A := 0) (B := 0) (C := 0) rfl (f0 (by omega)) (f0 (by omega)) (f0 (by omega))) <|
  all_cons (ZB (op := 13) (A := 2) (B := 0) (C := a1) rfl (f1 (by omega) (by omega)) (f1 (by omega) (by omega)) (f4 (by omega) (by omega))) <|
  all_cons (ZB (op := 9) (A := 2) (B := a0 + (12 : Int)) (C := 0) rfl (f1 (by omega) (by omega)) (f3 (by omega) (by omega)) (f0 (by omega))) <|
  all_cons (ZB (op := 13) (A := 3) (B := 2) (C := 1) rfl (f1 (by omega) (by omega)) (f1 (by omega) (by omega)) (f4 (by omega) (by omega))) <|
  all_cons (ZB (op := 6) (A := 4) (B := 3) (C := 1) rfl (f1 (by omega) (by omega)) (f1 (by omega) (by omega)) (f1 (by omega) (by omega))) <|
  all_cons (ZB (op := 9) (A := 4) (B := a0 + (10 : Int)) (C := 0) rfl (f1 (by omega) (by omega)) (f3 (by omega) (by omega)) (f0 (by omega))) <|
  all_cons (ZB (op := 13) (A := 2) (B := 2) (C := 0) rfl (f1 (by omega) (by omega)) (f1 (by omega) (by omega)) (f4 (by omega) (by omega))) <|
  all_cons (ZB (op := 8) (A := a0 + (4 : Int)) (B := 0) (C := 0) rfl (f3 (by omega) (by omega)) (f0 (by omega)) (f0 (by omega))) <|
  all_cons (ZB (op := 7) (A := 7) (B := 3) (C := 1) rfl (f1 (by omega) (by omega)) (f1 (by omega) (by omega)) (f1 (by omega) (by omega))) <|
  all_cons (ZB (op := 8) (A := a0 + (13 : Int)) (B := 0) (C := 0) rfl (f3 (by omega) (by omega)) (f0 (by omega)) (f0 (by omega))) <|
  all_cons (ZB (op := 1) (A := 7) (B := 0) (C := 0) rfl (f1 (by omega) (by omega)) (f2 (by omega) (by omega)) (f0 (by omega))) <|
  all_cons (ZB (op := 17) (A := 0) (B := 0) (C := 0) rfl (f0 (by omega)) (f0 (by omega)) (f0 (by omega))) <|
  Zi1
def ZqZ : List Int := [1, 10, 15, 13, 9, 13, 6, 9, 13, 8, 7, 8, 1, 17]
def Zs6 : List Nat := [0, 0, 0, 0, 12, 0, 0, 10, 0, 4, 0, 13, 0, 0]
theorem Zt9 {a0 a1 a2 : Int} (b : Nat) (hb : a0 = (b : Int)) : ZfL (b : Int) (Zcs a0 a1 a2) Zs6 :=
  ZM (show (1 : Int) ≠ 8 from by decide) (show (1 : Int) ≠ 9 from by decide) <| ZM (show (10 : Int) ≠ 8 from by decide) (show (10 : Int) ≠ 9 from by decide) <| ZM (show (15 : Int) ≠ 8 from by decide) (show (15 : Int) ≠ 9 from by decide) <| ZM (show (13 : Int) ≠ 8 from by decide) (show (13 : Int) ≠ 9 from by decide) <| ZeW (by omega) <| ZM (show (13 : Int) ≠ 8 from by decide) (show (13 : Int) ≠ 9 from by decide) <| ZM (show (6 : Int) ≠ 8 from by decide) (show (6 : Int) ≠ 9 from by decide) <| ZeW (by omega) <| ZM (show (13 : Int) ≠ 8 from by decide) (show (13 : Int) ≠ 9 from by decide) <| Zhf (by omega) <| ZM (show (7 : Int) ≠ 8 from by decide) (show (7 : Int) ≠ 9 from by decide) <| Zhf (by omega) <| ZM (show (1 : Int) ≠ 8 from by decide) (show (1 : Int) ≠ 9 from by decide) <| ZM (show (17 : Int) ≠ 8 from by decide) (show (17 : Int) ≠ 9 from by decide) <| trivial
theorem ZrK : Zi0 ZqZ Zs6 = true := by kernel_rfl
theorem Zti : Zdy ZqZ 14 = [] := ZeV (by kernel_rfl)
theorem Zs7 {a0 a1 a2 : Int} (N : Nat) (h0 : 0 ≤ a0) (h1 : a0 ≤ 400) (h2 : 0 ≤ a1) (h3 : a1 ≤ 7) (h4 : -1099511627776 ≤ a2) (h5 : a2 ≤ 1099511627776) (b : Nat) (hb : a0 = (b : Int)) : Good (List.replicate b ZaV ++ Zcs a0 a1 a2) N :=
 Zf6 (tg := Zs6) (by rw [ZdW]; decide) (by rw [ZdW]; omega) (Zt8 N h0 h1 h2 h3 h4 h5) ZrK Zti (Zi2 (Zt9 b hb))
theorem Ztj : Zja ZqZ = true := by kernel_rfl
theorem ZtA : nBl ZqZ 14 = 1 := by kernel_rfl
theorem ZtB {a0 a1 a2 : Int} {N : Nat} (hN : 2000 ≤ N) (h0 : 0 ≤ a0) (h1 : a0 ≤ 400) (h2 : 0 ≤ a1) (h3 : a1 ≤ 7) (h4 : -1099511627776 ≤ a2) (h5 : a2 ≤ 1099511627776) : ZU (Zcs a0 a1 a2) a0 N = some (.r0 true) := by
 obtain ⟨b, rfl⟩ : ∃ b : Nat, a0 = (b : Int) := ⟨a0.toNat, by omega⟩
 exact Zhw (Zs7 N h0 h1 h2 h3 h4 h5 b rfl) hN Ztj ZtA (by omega) (by rw [ZdW]; decide) (by rw [ZdW]; decide)
def Zaq (a0 a1 : Int) : List RA := [(⟨(10 : Int), (0 : Int), (0 : Int), (0 : Int)⟩ : RA), (⟨(2 : Int), (2 : Int), (0 : Int), (0 : Int)⟩ : RA), (⟨(15 : Int), (0 : Int), (0 : Int), (0 : Int)⟩ : RA), (⟨(13 : Int), (7 : Int), (0 : Int), a1⟩ : RA), (⟨(9 : Int), (7 : Int), (a0 + (6 : Int)), (0 : Int)⟩ : RA), (⟨(14 : Int), (0 : Int), a1, (2 : Int)⟩ : RA), (⟨(17 : Int), (0 : Int), (0 : Int), (0 : Int)⟩ : RA)]
theorem Zcv (a0 a1 : Int) : (Zaq a0 a1).length = 7 := rfl
theorem ZtC {a0 a1 : Int} (N : Nat) (h0 : 0 ≤ a0) (h1 : a0 ≤ 400) (h2 : 0 ≤ a1) (h3 : a1 ≤ 7) : ∀ x ∈ Zaq a0 a1, ZaS x.a0 x.a1 x.a2 x.a3 N = some (.r0 true) :=
  all_cons (ZB (op := 10) (A := 0) (B := 0) (C := 0) rfl (f1 (by omega) (by omega)) (f0 (by omega)) (f0 (by omega))) <|
  all_cons (ZB (op := 2) (A := 2) (B := 0) (C := 0) rfl (f1 (by omega) (by omega)) (f0 (by omega)) (f0 (by omega))) <|
  all_cons (ZB (op := 15) (A := 0) (B := 0) (C := 0) rfl (f0 (by omega)) (f0 (by omega)) (f0 (by omega))) <|
  all_cons (ZB (op := 13) (A := 7) (B := 0) (C := a1) rfl (f1 (by omega) (by omega)) (f1 (by omega) (by omega)) (f4 (by omega) (by omega))) <|
  all_cons (ZB (op := 9) (A := 7) (B := a0 + (6 : Int)) (C := 0) rfl (f1 (by omega) (by omega)) (f3 (by omega) (by omega)) (f0 (by omega))) <|
  all_cons (ZB (op := 14) (A := 0) (B := a1) (C := 2) rfl (f1 (by omega) (by omega)) (f4 (by omega) (by omega)) (f1 (by omega) (by omega))) <|
  all_cons (ZB (op := 17) (A := 0) (B := 0) (C := 0) rfl (f0 (by omega)) (f0 (by omega)) (f0 (by omega))) <|
  Zi1
def Zra : List Int := [10, 2, 15, 13, 9, 14, 17]
def Zs8 : List Nat := [0, 0, 0, 0, 6, 0, 0]
theorem ZtD {a0 a1 : Int} (b : Nat) (hb : a0 = (b : Int)) : ZfL (b : Int) (Zaq a0 a1) Zs8 :=
  ZM (show (10 : Int) ≠ 8 from by decide) (show (10 : Int) ≠ 9 from by decide) <| ZM (show (2 : Int) ≠ 8 from by decide) (show (2 : Int) ≠ 9 from by decide) <| ZM (show (15 : Int) ≠ 8 from by decide) (show (15 : Int) ≠ 9 from by decide) <| ZM (show (13 : Int) ≠ 8 from by decide) (show (13 : Int) ≠ 9 from by decide) <| ZeW (by omega) <| ZM (show (14 : Int) ≠ 8 from by decide) (show (14 : Int) ≠ 9 from by decide) <| ZM (show (17 : Int) ≠ 8 from by decide) (show (17 : Int) ≠ 9 from by decide) <| trivial
theorem ZrL : Zi0 Zra Zs8 = true := by kernel_rfl
theorem Ztk : Zdy Zra 7 = [] := ZeV (by kernel_rfl)
theorem Zs9 {a0 a1 : Int} (N : Nat) (h0 : 0 ≤ a0) (h1 : a0 ≤ 400) (h2 : 0 ≤ a1) (h3 : a1 ≤ 7) (b : Nat) (hb : a0 = (b : Int)) : Good (List.replicate b ZaV ++ Zaq a0 a1) N :=
 Zf6 (tg := Zs8) (by rw [Zcv]; decide) (by rw [Zcv]; omega) (ZtC N h0 h1 h2 h3) ZrL Ztk (Zi2 (ZtD b hb))
theorem Ztl : Zja Zra = true := by kernel_rfl
theorem ZtE : nBl Zra 7 = 1 := by kernel_rfl
theorem ZrM {a0 a1 : Int} {N : Nat} (hN : 2000 ≤ N) (h0 : 0 ≤ a0) (h1 : a0 ≤ 400) (h2 : 0 ≤ a1) (h3 : a1 ≤ 7) : ZU (Zaq a0 a1) a0 N = some (.r0 true) := by
 obtain ⟨b, rfl⟩ : ∃ b : Nat, a0 = (b : Int) := ⟨a0.toNat, by omega⟩
 exact Zhw (Zs9 N h0 h1 h2 h3 b rfl) hN Ztl ZtE (by omega) (by rw [Zcv]; decide) (by rw [Zcv]; decide)
def ZK (a0 : Int) : List RA := [(⟨(1 : Int), (1 : Int), (0 : Int), (0 : Int)⟩ : RA), (⟨(9 : Int), (7 : Int), (a0 + (6 : Int)), (0 : Int)⟩ : RA), (⟨(13 : Int), (3 : Int), (7 : Int), (1 : Int)⟩ : RA), (⟨(4 : Int), (1 : Int), (1 : Int), (3 : Int)⟩ : RA), (⟨(13 : Int), (7 : Int), (7 : Int), (0 : Int)⟩ : RA), (⟨(8 : Int), (a0 + (1 : Int)), (0 : Int), (0 : Int)⟩ : RA), (⟨(3 : Int), (7 : Int), (1 : Int), (0 : Int)⟩ : RA)]
theorem ZaQ (a0 : Int) : (ZK a0).length = 7 := rfl
theorem ZtF {a0 : Int} (N : Nat) (h0 : 0 ≤ a0) (h1 : a0 ≤ 400) : ∀ x ∈ ZK a0, ZaS x.a0 x.a1 x.a2 x.a3 N = some (.r0 true) :=
  all_cons (ZB (op := 1) (A := 1) (B := 0) (C := 0) rfl (f1 (by omega) (by omega)) (f2 (by omega) (by omega)) (f0 (by omega))) <|
  all_cons (ZB (op := 9) (A := 7) (B := a0 + (6 : Int)) (C := 0) rfl (f1 (by omega) (by omega)) (f3 (by omega) (by omega)) (f0 (by omega))) <|
  all_cons (ZB (op := 13) (A := 3) (B := 7) (C := 1) rfl (f1 (by omega) (by omega)) (f1 (by omega) (by omega)) (f4 (by omega) (by omega))) <|
  all_cons (ZB (op := 4) (A := 1) (B := 1) (C := 3) rfl (f1 (by omega) (by omega)) (f1 (by omega) (by omega)) (f1 (by omega) (by omega))) <|
  all_cons (ZB (op := 13) (A := 7) (B := 7) (C := 0) rfl (f1 (by omega) (by omega)) (f1 (by omega) (by omega)) (f4 (by omega) (by omega))) <|
  all_cons (ZB (op := 8) (A := a0 + (1 : Int)) (B := 0) (C := 0) rfl (f3 (by omega) (by omega)) (f0 (by omega)) (f0 (by omega))) <|
  all_cons (ZB (op := 3) (A := 7) (B := 1) (C := 0) rfl (f1 (by omega) (by omega)) (f1 (by omega) (by omega)) (f0 (by omega))) <|
  Zi1
def ZsA : List Int := [1, 9, 13, 4, 13, 8, 3]
def ZsB : List Nat := [0, 6, 0, 0, 0, 1, 0]
theorem ZtG {a0 : Int} (b : Nat) (hb : a0 = (b : Int)) : ZfL (b : Int) (ZK a0) ZsB :=
  ZM (show (1 : Int) ≠ 8 from by decide) (show (1 : Int) ≠ 9 from by decide) <| ZeW (by omega) <| ZM (show (13 : Int) ≠ 8 from by decide) (show (13 : Int) ≠ 9 from by decide) <| ZM (show (4 : Int) ≠ 8 from by decide) (show (4 : Int) ≠ 9 from by decide) <| ZM (show (13 : Int) ≠ 8 from by decide) (show (13 : Int) ≠ 9 from by decide) <| Zhf (by omega) <| ZM (show (3 : Int) ≠ 8 from by decide) (show (3 : Int) ≠ 9 from by decide) <| trivial
theorem ZrN : Zi0 ZsA ZsB = true := by kernel_rfl
theorem Ztm : Zdy ZsA 7 = [] := ZeV (by kernel_rfl)
theorem ZsC {a0 : Int} (N : Nat) (h0 : 0 ≤ a0) (h1 : a0 ≤ 400) (b : Nat) (hb : a0 = (b : Int)) : Good (List.replicate b ZaV ++ ZK a0) N :=
 Zf6 (tg := ZsB) (by rw [ZaQ]; decide) (by rw [ZaQ]; omega) (ZtF N h0 h1) ZrN Ztm (Zi2 (ZtG b hb))
theorem ZtH : nBl ZsA 7 = 0 := by kernel_rfl
theorem Zpo {a0 : Int} {N : Nat} (hN : 2000 ≤ N) (h0 : 0 ≤ a0) (h1 : a0 ≤ 400) : Zas (ZK a0) a0 N = some (.r0 true) := by
 obtain ⟨b, rfl⟩ : ∃ b : Nat, a0 = (b : Int) := ⟨a0.toNat, by omega⟩
 exact ZqW (ZsC N h0 h1 b rfl) hN ZtH (by omega) (by rw [ZaQ]; decide) (by rw [ZaQ]; decide)
end Pc
end Ev
end Go.Proofs.YtnfmhpnogfppiaaGreat
/- The law's rounds, and the law: plain. -/
namespace Go.Proofs.YtnfmhpnogfppiaaGreat
open Go.RowKit
namespace Ev
namespace Pc
set_option linter.unusedVariables false
set_option linter.unusedSimpArgs false
set_option maxRecDepth 100000
section
variable {a0 a1 a2 : Int} {N : Nat}
set_option maxHeartbeats 1000000 in
theorem mA0  (h0 : (0 ≤ a0 ∧ a0 ≤ 400)) (h1 : (0 ≤ a1 ∧ a1 ≤ 7)) (h2 : (-1099511627776 ≤ a2 ∧ a2 ≤ 1099511627776)) (s0 : ZU (Zcq a0 a1 a2) a0 N = some (.r0 true)) : Zcd a0 a1 a2 N (Zcq a0 a1 a2) (Zcr a0 a1 a2) (Zcs a0 a1 a2) (Zaq a0 a1) (ZK a0) = some (.inl (.h2m4 (Zcq a0 a1 a2) (Zcr a0 a1 a2) (Zcs a0 a1 a2) (Zaq a0 a1) (ZK a0))) := by
 unfold Zcd
 try simp only [s0, Option.bind_some, Bool.false_eq_true, if_false, if_true, not_true_eq_false, not_false_eq_true, ZdU, ZdV, ZdW, Zcv, ZaQ]
 repeat' split
 all_goals first | rfl | (exfalso; omega) | (exfalso; simp_all; done) | (exfalso; simp_all; omega) | (simp_all; done)
set_option maxHeartbeats 1000000 in
theorem mA1  (h0 : (0 ≤ a0 ∧ a0 ≤ 400)) (h1 : (0 ≤ a1 ∧ a1 ≤ 7)) (h2 : (-1099511627776 ≤ a2 ∧ a2 ≤ 1099511627776)) (s0 : ZU (Zcr a0 a1 a2) a0 N = some (.r0 true)) : Zch a0 a1 a2 N (Zcq a0 a1 a2) (Zcr a0 a1 a2) (Zcs a0 a1 a2) (Zaq a0 a1) (ZK a0) = some (.inl (.h2m8 (Zcq a0 a1 a2) (Zcr a0 a1 a2) (Zcs a0 a1 a2) (Zaq a0 a1) (ZK a0))) := by
 unfold Zch
 try simp only [s0, Option.bind_some, Bool.false_eq_true, if_false, if_true, not_true_eq_false, not_false_eq_true, ZdU, ZdV, ZdW, Zcv, ZaQ]
 repeat' split
 all_goals first | rfl | (exfalso; omega) | (exfalso; simp_all; done) | (exfalso; simp_all; omega) | (simp_all; done)
set_option maxHeartbeats 1000000 in
theorem mA2  (h0 : (0 ≤ a0 ∧ a0 ≤ 400)) (h1 : (0 ≤ a1 ∧ a1 ≤ 7)) (h2 : (-1099511627776 ≤ a2 ∧ a2 ≤ 1099511627776)) (s0 : ZU (Zcs a0 a1 a2) a0 N = some (.r0 true)) : Zcl a0 a1 a2 N (Zcq a0 a1 a2) (Zcr a0 a1 a2) (Zcs a0 a1 a2) (Zaq a0 a1) (ZK a0) = some (.inl (.h2m12 (Zcq a0 a1 a2) (Zcr a0 a1 a2) (Zcs a0 a1 a2) (Zaq a0 a1) (ZK a0))) := by
 unfold Zcl
 try simp only [s0, Option.bind_some, Bool.false_eq_true, if_false, if_true, not_true_eq_false, not_false_eq_true, ZdU, ZdV, ZdW, Zcv, ZaQ]
 repeat' split
 all_goals first | rfl | (exfalso; omega) | (exfalso; simp_all; done) | (exfalso; simp_all; omega) | (simp_all; done)
set_option maxHeartbeats 1000000 in
theorem mA3  (h0 : (0 ≤ a0 ∧ a0 ≤ 400)) (h1 : (0 ≤ a1 ∧ a1 ≤ 7)) (h2 : (-1099511627776 ≤ a2 ∧ a2 ≤ 1099511627776)) (s0 : ZU (Zaq a0 a1) a0 N = some (.r0 true)) : ZbJ a0 a1 a2 N (Zcq a0 a1 a2) (Zcr a0 a1 a2) (Zcs a0 a1 a2) (Zaq a0 a1) (ZK a0) = some (.inl (.h2m16 (Zcq a0 a1 a2) (Zcr a0 a1 a2) (Zcs a0 a1 a2) (Zaq a0 a1) (ZK a0))) := by
 unfold ZbJ
 try simp only [s0, Option.bind_some, Bool.false_eq_true, if_false, if_true, not_true_eq_false, not_false_eq_true, ZdU, ZdV, ZdW, Zcv, ZaQ]
 repeat' split
 all_goals first | rfl | (exfalso; omega) | (exfalso; simp_all; done) | (exfalso; simp_all; omega) | (simp_all; done)
set_option maxHeartbeats 1000000 in
theorem mA4  (h0 : (0 ≤ a0 ∧ a0 ≤ 400)) (h1 : (0 ≤ a1 ∧ a1 ≤ 7)) (h2 : (-1099511627776 ≤ a2 ∧ a2 ≤ 1099511627776)) (s0 : Zas (ZK a0) a0 N = some (.r0 true)) : ZbN a0 a1 a2 N (Zcq a0 a1 a2) (Zcr a0 a1 a2) (Zcs a0 a1 a2) (Zaq a0 a1) (ZK a0) = some (.inl (.h2m20 (Zcq a0 a1 a2) (Zcr a0 a1 a2) (Zcs a0 a1 a2) (Zaq a0 a1) (ZK a0))) := by
 unfold ZbN
 try simp only [s0, Option.bind_some, Bool.false_eq_true, if_false, if_true, not_true_eq_false, not_false_eq_true, ZdU, ZdV, ZdW, Zcv, ZaQ]
 repeat' split
 all_goals first | rfl | (exfalso; omega) | (exfalso; simp_all; done) | (exfalso; simp_all; omega) | (simp_all; done)
set_option maxHeartbeats 1000000 in
theorem mA5  (h0 : (0 ≤ a0 ∧ a0 ≤ 400)) (h1 : (0 ≤ a1 ∧ a1 ≤ 7)) (h2 : (-1099511627776 ≤ a2 ∧ a2 ≤ 1099511627776))  (ha : Zba N = some .r0) : ZbR a0 a1 a2 N (Zcq a0 a1 a2) (Zcr a0 a1 a2) (Zcs a0 a1 a2) (Zaq a0 a1) (ZK a0) = some (.inr (.r0 true)) := by
 unfold ZbR
 try simp only [ha, Option.bind_some, Bool.false_eq_true, if_false, if_true, not_true_eq_false, not_false_eq_true, ZdU, ZdV, ZdW, Zcv, ZaQ]
 repeat' split
 all_goals first | rfl | (exfalso; omega) | (exfalso; simp_all; done) | (exfalso; simp_all; omega) | (simp_all; done)
set_option maxHeartbeats 1000000 in
theorem mB0  (h0 : (0 ≤ a0 ∧ a0 ≤ 400)) (h1 : (0 ≤ a1 ∧ a1 ≤ 7)) (h2 : ¬ (-1099511627776 ≤ a2 ∧ a2 ≤ 1099511627776))  : Zce a0 a1 a2 N false (Zaq a0 a1) (ZK a0) = some (.inl (.h2m5 (Zaq a0 a1) (ZK a0))) := by
 unfold Zce
 try simp only [Option.bind_some, Bool.false_eq_true, if_false, if_true, not_true_eq_false, not_false_eq_true, Zcv, ZaQ]
 repeat' split
 all_goals first | rfl | (exfalso; omega) | (exfalso; simp_all; done) | (exfalso; simp_all; omega) | (simp_all; done)
set_option maxHeartbeats 1000000 in
theorem mB1  (h0 : (0 ≤ a0 ∧ a0 ≤ 400)) (h1 : (0 ≤ a1 ∧ a1 ≤ 7)) (h2 : ¬ (-1099511627776 ≤ a2 ∧ a2 ≤ 1099511627776))  : Zci a0 a1 a2 N (Zaq a0 a1) (ZK a0) = some (.inl (.h2m9 (Zaq a0 a1) (ZK a0))) := by
 unfold Zci
 try simp only [Option.bind_some, Bool.false_eq_true, if_false, if_true, not_true_eq_false, not_false_eq_true, Zcv, ZaQ]
 repeat' split
 all_goals first | rfl | (exfalso; omega) | (exfalso; simp_all; done) | (exfalso; simp_all; omega) | (simp_all; done)
set_option maxHeartbeats 1000000 in
theorem mB2  (h0 : (0 ≤ a0 ∧ a0 ≤ 400)) (h1 : (0 ≤ a1 ∧ a1 ≤ 7)) (h2 : ¬ (-1099511627776 ≤ a2 ∧ a2 ≤ 1099511627776))  : Zcm a0 a1 a2 N (Zaq a0 a1) (ZK a0) = some (.inl (.h2m13 (Zaq a0 a1) (ZK a0))) := by
 unfold Zcm
 try simp only [Option.bind_some, Bool.false_eq_true, if_false, if_true, not_true_eq_false, not_false_eq_true, Zcv, ZaQ]
 repeat' split
 all_goals first | rfl | (exfalso; omega) | (exfalso; simp_all; done) | (exfalso; simp_all; omega) | (simp_all; done)
set_option maxHeartbeats 1000000 in
theorem mB3  (h0 : (0 ≤ a0 ∧ a0 ≤ 400)) (h1 : (0 ≤ a1 ∧ a1 ≤ 7)) (h2 : ¬ (-1099511627776 ≤ a2 ∧ a2 ≤ 1099511627776)) (s0 : ZU (Zaq a0 a1) a0 N = some (.r0 true)) : ZbK a0 a1 a2 N (Zaq a0 a1) (ZK a0) = some (.inl (.h2m17 (Zaq a0 a1) (ZK a0))) := by
 unfold ZbK
 try simp only [s0, Option.bind_some, Bool.false_eq_true, if_false, if_true, not_true_eq_false, not_false_eq_true, Zcv, ZaQ]
 repeat' split
 all_goals first | rfl | (exfalso; omega) | (exfalso; simp_all; done) | (exfalso; simp_all; omega) | (simp_all; done)
set_option maxHeartbeats 1000000 in
theorem mB4  (h0 : (0 ≤ a0 ∧ a0 ≤ 400)) (h1 : (0 ≤ a1 ∧ a1 ≤ 7)) (h2 : ¬ (-1099511627776 ≤ a2 ∧ a2 ≤ 1099511627776)) (s0 : Zas (ZK a0) a0 N = some (.r0 true)) : ZbO a0 a1 a2 N (Zaq a0 a1) (ZK a0) = some (.inl (.h2m21 (Zaq a0 a1) (ZK a0))) := by
 unfold ZbO
 try simp only [s0, Option.bind_some, Bool.false_eq_true, if_false, if_true, not_true_eq_false, not_false_eq_true, Zcv, ZaQ]
 repeat' split
 all_goals first | rfl | (exfalso; omega) | (exfalso; simp_all; done) | (exfalso; simp_all; omega) | (simp_all; done)
set_option maxHeartbeats 1000000 in
theorem mB5  (h0 : (0 ≤ a0 ∧ a0 ≤ 400)) (h1 : (0 ≤ a1 ∧ a1 ≤ 7)) (h2 : ¬ (-1099511627776 ≤ a2 ∧ a2 ≤ 1099511627776))  (ha : Zba N = some .r0) : ZbS a0 a1 a2 N (Zaq a0 a1) (ZK a0) = some (.inr (.r0 true)) := by
 unfold ZbS
 try simp only [ha, Option.bind_some, Bool.false_eq_true, if_false, if_true, not_true_eq_false, not_false_eq_true, Zcv, ZaQ]
 repeat' split
 all_goals first | rfl | (exfalso; omega) | (exfalso; simp_all; done) | (exfalso; simp_all; omega) | (simp_all; done)
set_option maxHeartbeats 1000000 in
theorem mC0 (v3 : Bool) (h0 : (0 ≤ a0 ∧ a0 ≤ 400)) (h1 : ¬ (0 ≤ a1 ∧ a1 ≤ 7))  : Zcf a0 a1 a2 N false v3 (ZK a0) = some (.inl (.h2m6 v3 (ZK a0))) := by
 unfold Zcf
 try simp only [Option.bind_some, Bool.false_eq_true, if_false, if_true, not_true_eq_false, not_false_eq_true, ZaQ]
 repeat' split
 all_goals first | rfl | (exfalso; omega) | (exfalso; simp_all; done) | (exfalso; simp_all; omega) | (simp_all; done)
set_option maxHeartbeats 1000000 in
theorem mC1 (v3 : Bool) (h0 : (0 ≤ a0 ∧ a0 ≤ 400)) (h1 : ¬ (0 ≤ a1 ∧ a1 ≤ 7))  : Zcj a0 a1 a2 N v3 (ZK a0) = some (.inl (.h2m10 v3 (ZK a0))) := by
 unfold Zcj
 try simp only [Option.bind_some, Bool.false_eq_true, if_false, if_true, not_true_eq_false, not_false_eq_true, ZaQ]
 repeat' split
 all_goals first | rfl | (exfalso; omega) | (exfalso; simp_all; done) | (exfalso; simp_all; omega) | (simp_all; done)
set_option maxHeartbeats 1000000 in
theorem mC2 (v3 : Bool) (h0 : (0 ≤ a0 ∧ a0 ≤ 400)) (h1 : ¬ (0 ≤ a1 ∧ a1 ≤ 7))  : ZbH a0 a1 a2 N v3 (ZK a0) = some (.inl (.h2m14 v3 (ZK a0))) := by
 unfold ZbH
 try simp only [Option.bind_some, Bool.false_eq_true, if_false, if_true, not_true_eq_false, not_false_eq_true, ZaQ]
 repeat' split
 all_goals first | rfl | (exfalso; omega) | (exfalso; simp_all; done) | (exfalso; simp_all; omega) | (simp_all; done)
set_option maxHeartbeats 1000000 in
theorem mC3 (v3 : Bool) (h0 : (0 ≤ a0 ∧ a0 ≤ 400)) (h1 : ¬ (0 ≤ a1 ∧ a1 ≤ 7))  : ZbL a0 a1 a2 N v3 (ZK a0) = some (.inl (.h2m18 v3 (ZK a0))) := by
 unfold ZbL
 try simp only [Option.bind_some, Bool.false_eq_true, if_false, if_true, not_true_eq_false, not_false_eq_true, ZaQ]
 repeat' split
 all_goals first | rfl | (exfalso; omega) | (exfalso; simp_all; done) | (exfalso; simp_all; omega) | (simp_all; done)
set_option maxHeartbeats 1000000 in
theorem mC4 (v3 : Bool) (h0 : (0 ≤ a0 ∧ a0 ≤ 400)) (h1 : ¬ (0 ≤ a1 ∧ a1 ≤ 7)) (s0 : Zas (ZK a0) a0 N = some (.r0 true)) : ZbP a0 a1 a2 N v3 (ZK a0) = some (.inl (.h2m22 v3 (ZK a0))) := by
 unfold ZbP
 try simp only [s0, Option.bind_some, Bool.false_eq_true, if_false, if_true, not_true_eq_false, not_false_eq_true, ZaQ]
 repeat' split
 all_goals first | rfl | (exfalso; omega) | (exfalso; simp_all; done) | (exfalso; simp_all; omega) | (simp_all; done)
set_option maxHeartbeats 1000000 in
theorem mC5 (v3 : Bool) (h0 : (0 ≤ a0 ∧ a0 ≤ 400)) (h1 : ¬ (0 ≤ a1 ∧ a1 ≤ 7))  (ha : Zba N = some .r0) : ZbT a0 a1 a2 N v3 (ZK a0) = some (.inr (.r0 true)) := by
 unfold ZbT
 try simp only [ha, Option.bind_some, Bool.false_eq_true, if_false, if_true, not_true_eq_false, not_false_eq_true, ZaQ]
 repeat' split
 all_goals first | rfl | (exfalso; omega) | (exfalso; simp_all; done) | (exfalso; simp_all; omega) | (simp_all; done)
set_option maxHeartbeats 1000000 in
theorem mD0 (v2 : Bool) (v3 : Bool) (h0 : ¬ (0 ≤ a0 ∧ a0 ≤ 400))  : Zcg a0 a1 a2 N false v2 v3 = some (.inl (.h2m7 v2 v3)) := by
 unfold Zcg
 try simp only [Option.bind_some, Bool.false_eq_true, if_false, if_true, not_true_eq_false, not_false_eq_true]
 repeat' split
 all_goals first | rfl | (exfalso; omega) | (exfalso; simp_all; done) | (exfalso; simp_all; omega) | (simp_all; done)
set_option maxHeartbeats 1000000 in
theorem mD1 (v2 : Bool) (v3 : Bool) (h0 : ¬ (0 ≤ a0 ∧ a0 ≤ 400))  : Zck a0 a1 a2 N v2 v3 = some (.inl (.h2m11 v2 v3)) := by
 unfold Zck
 try simp only [Option.bind_some, Bool.false_eq_true, if_false, if_true, not_true_eq_false, not_false_eq_true]
 repeat' split
 all_goals first | rfl | (exfalso; omega) | (exfalso; simp_all; done) | (exfalso; simp_all; omega) | (simp_all; done)
set_option maxHeartbeats 1000000 in
theorem mD2 (v2 : Bool) (v3 : Bool) (h0 : ¬ (0 ≤ a0 ∧ a0 ≤ 400))  : ZbI a0 a1 a2 N v2 v3 = some (.inl (.h2m15 v2 v3)) := by
 unfold ZbI
 try simp only [Option.bind_some, Bool.false_eq_true, if_false, if_true, not_true_eq_false, not_false_eq_true]
 repeat' split
 all_goals first | rfl | (exfalso; omega) | (exfalso; simp_all; done) | (exfalso; simp_all; omega) | (simp_all; done)
set_option maxHeartbeats 1000000 in
theorem mD3 (v2 : Bool) (v3 : Bool) (h0 : ¬ (0 ≤ a0 ∧ a0 ≤ 400))  : ZbM a0 a1 a2 N v2 v3 = some (.inl (.h2m19 v2 v3)) := by
 unfold ZbM
 try simp only [Option.bind_some, Bool.false_eq_true, if_false, if_true, not_true_eq_false, not_false_eq_true]
 repeat' split
 all_goals first | rfl | (exfalso; omega) | (exfalso; simp_all; done) | (exfalso; simp_all; omega) | (simp_all; done)
set_option maxHeartbeats 1000000 in
theorem mD4 (v2 : Bool) (v3 : Bool) (h0 : ¬ (0 ≤ a0 ∧ a0 ≤ 400))  : ZbQ a0 a1 a2 N v2 v3 = some (.inl (.h2m23 v2 v3)) := by
 unfold ZbQ
 try simp only [Option.bind_some, Bool.false_eq_true, if_false, if_true, not_true_eq_false, not_false_eq_true]
 repeat' split
 all_goals first | rfl | (exfalso; omega) | (exfalso; simp_all; done) | (exfalso; simp_all; omega) | (simp_all; done)
set_option maxHeartbeats 1000000 in
theorem mD5 (v2 : Bool) (v3 : Bool) (h0 : ¬ (0 ≤ a0 ∧ a0 ≤ 400))  (ha : Zba N = some .r0) : ZbU a0 a1 a2 N v2 v3 = some (.inr (.r0 true)) := by
 unfold ZbU
 try simp only [ha, Option.bind_some, Bool.false_eq_true, if_false, if_true, not_true_eq_false, not_false_eq_true]
 repeat' split
 all_goals first | rfl | (exfalso; omega) | (exfalso; simp_all; done) | (exfalso; simp_all; omega) | (simp_all; done)
end
theorem Zem : Zba 100000 = some .r0 := by kernel_rfl
theorem ZrO {a0 a1 a2 : Int} {N : Nat} (h0 : 0 ≤ a0) (h1 : a0 ≤ 400) (h2 : 0 ≤ a1) (h3 : a1 ≤ 7) (h4 : -1099511627776 ≤ a2) (h5 : a2 ≤ 1099511627776) : ZaN a0 a1 a2 N = some (.r0 (Zcq a0 a1 a2)) := by
 unfold ZaN
 repeat' split
 all_goals first | rfl | (exfalso; omega)
theorem ZlO {a0 a1 a2 : Int} {N : Nat} (h : ¬ (0 ≤ a0 ∧ a0 ≤ 400 ∧ 0 ≤ a1 ∧ a1 ≤ 7 ∧ -1099511627776 ≤ a2 ∧ a2 ≤ 1099511627776)) : ZaN a0 a1 a2 N = some .r1 := by
 unfold ZaN
 repeat' split
 all_goals first | rfl | (exfalso; omega)
theorem ZrP {a0 a1 a2 : Int} {N : Nat} (h0 : 0 ≤ a0) (h1 : a0 ≤ 400) (h2 : 0 ≤ a1) (h3 : a1 ≤ 7) (h4 : -1099511627776 ≤ a2) (h5 : a2 ≤ 1099511627776) : ZaC a0 a1 a2 N = some (.r0 (Zcr a0 a1 a2)) := by
 unfold ZaC
 repeat' split
 all_goals first | rfl | (exfalso; omega)
theorem ZlP {a0 a1 a2 : Int} {N : Nat} (h : ¬ (0 ≤ a0 ∧ a0 ≤ 400 ∧ 0 ≤ a1 ∧ a1 ≤ 7 ∧ -1099511627776 ≤ a2 ∧ a2 ≤ 1099511627776)) : ZaC a0 a1 a2 N = some .r1 := by
 unfold ZaC
 repeat' split
 all_goals first | rfl | (exfalso; omega)
theorem ZrQ {a0 a1 a2 : Int} {N : Nat} (h0 : 0 ≤ a0) (h1 : a0 ≤ 400) (h2 : 0 ≤ a1) (h3 : a1 ≤ 7) (h4 : -1099511627776 ≤ a2) (h5 : a2 ≤ 1099511627776) : Zb9 a0 a1 a2 N = some (.r0 (Zcs a0 a1 a2)) := by
 unfold Zb9
 repeat' split
 all_goals first | rfl | (exfalso; omega)
theorem ZlQ {a0 a1 a2 : Int} {N : Nat} (h : ¬ (0 ≤ a0 ∧ a0 ≤ 400 ∧ 0 ≤ a1 ∧ a1 ≤ 7 ∧ -1099511627776 ≤ a2 ∧ a2 ≤ 1099511627776)) : Zb9 a0 a1 a2 N = some .r1 := by
 unfold Zb9
 repeat' split
 all_goals first | rfl | (exfalso; omega)
theorem Zn4 {a0 a1 : Int} {N : Nat} (h0 : 0 ≤ a0) (h1 : a0 ≤ 400) (h2 : 0 ≤ a1) (h3 : a1 ≤ 7) : ZaD a0 a1 N = some (.r0 (Zaq a0 a1)) := by
 unfold ZaD
 repeat' split
 all_goals first | rfl | (exfalso; omega)
theorem Zpp {a0 a1 : Int} {N : Nat} (h : ¬ (0 ≤ a0 ∧ a0 ≤ 400 ∧ 0 ≤ a1 ∧ a1 ≤ 7)) : ZaD a0 a1 N = some .r1 := by
 unfold ZaD
 repeat' split
 all_goals first | rfl | (exfalso; omega)
theorem Zk8 {a0 : Int} {N : Nat} (h0 : 0 ≤ a0) (h1 : a0 ≤ 400) : Zby a0 N = some (.r0 (ZK a0)) := by
 unfold Zby
 repeat' split
 all_goals first | rfl | (exfalso; omega)
theorem ZsD {a0 : Int} {N : Nat} (h : ¬ (0 ≤ a0 ∧ a0 ≤ 400)) : Zby a0 N = some .r1 := by
 unfold Zby
 repeat' split
 all_goals first | rfl | (exfalso; omega)
theorem goR {X R : Type} {step : X → Option (X ⊕ R)} {N : Nat} {y0 x0 x1 x2 x3 x4 x5 : X} {r : R} (hN : 10 ≤ N) (hc : step y0 = some (.inl x0)) (h0 : step x0 = some (.inl x1)) (h1 : step x1 = some (.inl x2)) (h2 : step x2 = some (.inl x3)) (h3 : step x3 = some (.inl x4)) (h4 : step x4 = some (.inl x5)) (h5 : step x5 = some (.inr r)) : Zc7 step N y0 = some r := by
 obtain ⟨n, rfl⟩ : ∃ n, N = n + 7 := ⟨N - 7, by omega⟩
 exact (Zaa hc).trans <| (Zaa h0).trans <| (Zaa h1).trans <| (Zaa h2).trans <| (Zaa h3).trans <| (Zaa h4).trans (Zds h5)
section
variable {a0 a1 a2 : Int}
theorem allA (h0 : (0 ≤ a0 ∧ a0 ≤ 400)) (h1 : (0 ≤ a1 ∧ a1 ≤ 7)) (h2 : (-1099511627776 ≤ a2 ∧ a2 ≤ 1099511627776))  : Zc9 a0 a1 a2 100000 = some (.r0 true) := by
 have c_ins : ZaN a0 a1 a2 100000 = some (.r0 (Zcq a0 a1 a2)) := ZrO (by omega) (by omega) (by omega) (by omega) (by omega) (by omega)
 have s_ins : ZU (Zcq a0 a1 a2) a0 100000 = some (.r0 true) := Zt3 (by decide) (by omega) (by omega) (by omega) (by omega) (by omega) (by omega)
 have c_rem : ZaC a0 a1 a2 100000 = some (.r0 (Zcr a0 a1 a2)) := ZrP (by omega) (by omega) (by omega) (by omega) (by omega) (by omega)
 have s_rem : ZU (Zcr a0 a1 a2) a0 100000 = some (.r0 true) := Zt7 (by decide) (by omega) (by omega) (by omega) (by omega) (by omega) (by omega)
 have c_has : Zb9 a0 a1 a2 100000 = some (.r0 (Zcs a0 a1 a2)) := ZrQ (by omega) (by omega) (by omega) (by omega) (by omega) (by omega)
 have s_has : ZU (Zcs a0 a1 a2) a0 100000 = some (.r0 true) := ZtB (by decide) (by omega) (by omega) (by omega) (by omega) (by omega) (by omega)
 have c_det : ZaD a0 a1 100000 = some (.r0 (Zaq a0 a1)) := Zn4 (by omega) (by omega) (by omega) (by omega)
 have s_det : ZU (Zaq a0 a1) a0 100000 = some (.r0 true) := ZrM (by decide) (by omega) (by omega) (by omega) (by omega)
 have c_sum : Zby a0 100000 = some (.r0 (ZK a0)) := Zk8 (by omega) (by omega)
 have s_sum : Zas (ZK a0) a0 100000 = some (.r0 true) := Zpo (by decide) (by omega) (by omega)
 refine (ZdN (x := law24_ListFormsX.h1m0 (Zcq a0 a1 a2) (Zcr a0 a1 a2) (Zcs a0 a1 a2) (Zaq a0 a1) (ZK a0)) ?_).trans (goR (y0 := law24_ListFormsX.h1m0 (Zcq a0 a1 a2) (Zcr a0 a1 a2) (Zcs a0 a1 a2) (Zaq a0 a1) (ZK a0)) (x0 := law24_ListFormsX.h2m0 (Zcq a0 a1 a2) (Zcr a0 a1 a2) (Zcs a0 a1 a2) (Zaq a0 a1) (ZK a0)) (x1 := law24_ListFormsX.h2m4 (Zcq a0 a1 a2) (Zcr a0 a1 a2) (Zcs a0 a1 a2) (Zaq a0 a1) (ZK a0)) (x2 := law24_ListFormsX.h2m8 (Zcq a0 a1 a2) (Zcr a0 a1 a2) (Zcs a0 a1 a2) (Zaq a0 a1) (ZK a0)) (x3 := law24_ListFormsX.h2m12 (Zcq a0 a1 a2) (Zcr a0 a1 a2) (Zcs a0 a1 a2) (Zaq a0 a1) (ZK a0)) (x4 := law24_ListFormsX.h2m16 (Zcq a0 a1 a2) (Zcr a0 a1 a2) (Zcs a0 a1 a2) (Zaq a0 a1) (ZK a0)) (x5 := law24_ListFormsX.h2m20 (Zcq a0 a1 a2) (Zcr a0 a1 a2) (Zcs a0 a1 a2) (Zaq a0 a1) (ZK a0)) (by decide) (show Zcb a0 a1 a2 100000 (Zcq a0 a1 a2) (Zcr a0 a1 a2) (Zcs a0 a1 a2) (Zaq a0 a1) (ZK a0) = _ from by
  unfold Zcb
  repeat' split
  all_goals first | rfl | (exfalso; omega)) (mA0 (a0 := a0) (a1 := a1) (a2 := a2) (N := 100000)  h0 h1 h2 s_ins) (mA1 (a0 := a0) (a1 := a1) (a2 := a2) (N := 100000)  h0 h1 h2 s_rem) (mA2 (a0 := a0) (a1 := a1) (a2 := a2) (N := 100000)  h0 h1 h2 s_has) (mA3 (a0 := a0) (a1 := a1) (a2 := a2) (N := 100000)  h0 h1 h2 s_det) (mA4 (a0 := a0) (a1 := a1) (a2 := a2) (N := 100000)  h0 h1 h2 s_sum) (mA5 (a0 := a0) (a1 := a1) (a2 := a2) (N := 100000)  h0 h1 h2 Zem))
 unfold Zav
 simp only [c_ins, c_rem, c_has, c_det, c_sum, Option.bind_some]
 repeat' split
 all_goals first | rfl | (exfalso; omega)
theorem Zz (h0 : (0 ≤ a0 ∧ a0 ≤ 400)) (h1 : (0 ≤ a1 ∧ a1 ≤ 7)) (h2 : ¬ (-1099511627776 ≤ a2 ∧ a2 ≤ 1099511627776))  : Zc9 a0 a1 a2 100000 = some (.r0 true) := by
 have c_ins : ZaN a0 a1 a2 100000 = some .r1 := ZlO (by omega)
 have c_rem : ZaC a0 a1 a2 100000 = some .r1 := ZlP (by omega)
 have c_has : Zb9 a0 a1 a2 100000 = some .r1 := ZlQ (by omega)
 have c_det : ZaD a0 a1 100000 = some (.r0 (Zaq a0 a1)) := Zn4 (by omega) (by omega) (by omega) (by omega)
 have s_det : ZU (Zaq a0 a1) a0 100000 = some (.r0 true) := ZrM (by decide) (by omega) (by omega) (by omega) (by omega)
 have c_sum : Zby a0 100000 = some (.r0 (ZK a0)) := Zk8 (by omega) (by omega)
 have s_sum : Zas (ZK a0) a0 100000 = some (.r0 true) := Zpo (by decide) (by omega) (by omega)
 refine (ZdN (x := law24_ListFormsX.h1m1 (Zaq a0 a1) (ZK a0)) ?_).trans (goR (y0 := law24_ListFormsX.h1m1 (Zaq a0 a1) (ZK a0)) (x0 := law24_ListFormsX.h2m1 false (Zaq a0 a1) (ZK a0)) (x1 := law24_ListFormsX.h2m5 (Zaq a0 a1) (ZK a0)) (x2 := law24_ListFormsX.h2m9 (Zaq a0 a1) (ZK a0)) (x3 := law24_ListFormsX.h2m13 (Zaq a0 a1) (ZK a0)) (x4 := law24_ListFormsX.h2m17 (Zaq a0 a1) (ZK a0)) (x5 := law24_ListFormsX.h2m21 (Zaq a0 a1) (ZK a0)) (by decide) (show Zcc a0 a1 a2 100000 (Zaq a0 a1) (ZK a0) = _ from by
  unfold Zcc
  repeat' split
  all_goals first | rfl | (exfalso; omega)) (mB0 (a0 := a0) (a1 := a1) (a2 := a2) (N := 100000)  h0 h1 h2 ) (mB1 (a0 := a0) (a1 := a1) (a2 := a2) (N := 100000)  h0 h1 h2 ) (mB2 (a0 := a0) (a1 := a1) (a2 := a2) (N := 100000)  h0 h1 h2 ) (mB3 (a0 := a0) (a1 := a1) (a2 := a2) (N := 100000)  h0 h1 h2 s_det) (mB4 (a0 := a0) (a1 := a1) (a2 := a2) (N := 100000)  h0 h1 h2 s_sum) (mB5 (a0 := a0) (a1 := a1) (a2 := a2) (N := 100000)  h0 h1 h2 Zem))
 unfold Zav
 simp only [c_ins, c_rem, c_has, c_det, c_sum, Option.bind_some]
 repeat' split
 all_goals first | rfl | (exfalso; omega)
theorem allC (h0 : (0 ≤ a0 ∧ a0 ≤ 400)) (h1 : ¬ (0 ≤ a1 ∧ a1 ≤ 7))  : Zc9 a0 a1 a2 100000 = some (.r0 true) := by
 have c_ins : ZaN a0 a1 a2 100000 = some .r1 := ZlO (by omega)
 have c_rem : ZaC a0 a1 a2 100000 = some .r1 := ZlP (by omega)
 have c_has : Zb9 a0 a1 a2 100000 = some .r1 := ZlQ (by omega)
 have c_det : ZaD a0 a1 100000 = some .r1 := Zpp (by omega)
 have c_sum : Zby a0 100000 = some (.r0 (ZK a0)) := Zk8 (by omega) (by omega)
 have s_sum : Zas (ZK a0) a0 100000 = some (.r0 true) := Zpo (by decide) (by omega) (by omega)
 by_cases g_v3 : (-1099511627776 ≤ a2 ∧ a2 ≤ 1099511627776)
 ·
  refine (ZdN (x := law24_ListFormsX.h1m2 (ZK a0)) ?_).trans (goR (y0 := law24_ListFormsX.h1m2 (ZK a0)) (x0 := law24_ListFormsX.h2m2 false true (ZK a0)) (x1 := law24_ListFormsX.h2m6 true (ZK a0)) (x2 := law24_ListFormsX.h2m10 true (ZK a0)) (x3 := law24_ListFormsX.h2m14 true (ZK a0)) (x4 := law24_ListFormsX.h2m18 true (ZK a0)) (x5 := law24_ListFormsX.h2m22 true (ZK a0)) (by decide) (show ZaT a0 a1 a2 100000 (ZK a0) = _ from by
   unfold ZaT
   repeat' split
   all_goals first | rfl | (exfalso; omega)) (mC0 (a0 := a0) (a1 := a1) (a2 := a2) (N := 100000) true h0 h1 ) (mC1 (a0 := a0) (a1 := a1) (a2 := a2) (N := 100000) true h0 h1 ) (mC2 (a0 := a0) (a1 := a1) (a2 := a2) (N := 100000) true h0 h1 ) (mC3 (a0 := a0) (a1 := a1) (a2 := a2) (N := 100000) true h0 h1 ) (mC4 (a0 := a0) (a1 := a1) (a2 := a2) (N := 100000) true h0 h1 s_sum) (mC5 (a0 := a0) (a1 := a1) (a2 := a2) (N := 100000) true h0 h1 Zem))
  unfold Zav
  simp only [c_ins, c_rem, c_has, c_det, c_sum, Option.bind_some]
  repeat' split
  all_goals first | rfl | (exfalso; omega)
 ·
  refine (ZdN (x := law24_ListFormsX.h1m2 (ZK a0)) ?_).trans (goR (y0 := law24_ListFormsX.h1m2 (ZK a0)) (x0 := law24_ListFormsX.h2m2 false false (ZK a0)) (x1 := law24_ListFormsX.h2m6 false (ZK a0)) (x2 := law24_ListFormsX.h2m10 false (ZK a0)) (x3 := law24_ListFormsX.h2m14 false (ZK a0)) (x4 := law24_ListFormsX.h2m18 false (ZK a0)) (x5 := law24_ListFormsX.h2m22 false (ZK a0)) (by decide) (show ZaT a0 a1 a2 100000 (ZK a0) = _ from by
   unfold ZaT
   repeat' split
   all_goals first | rfl | (exfalso; omega)) (mC0 (a0 := a0) (a1 := a1) (a2 := a2) (N := 100000) false h0 h1 ) (mC1 (a0 := a0) (a1 := a1) (a2 := a2) (N := 100000) false h0 h1 ) (mC2 (a0 := a0) (a1 := a1) (a2 := a2) (N := 100000) false h0 h1 ) (mC3 (a0 := a0) (a1 := a1) (a2 := a2) (N := 100000) false h0 h1 ) (mC4 (a0 := a0) (a1 := a1) (a2 := a2) (N := 100000) false h0 h1 s_sum) (mC5 (a0 := a0) (a1 := a1) (a2 := a2) (N := 100000) false h0 h1 Zem))
  unfold Zav
  simp only [c_ins, c_rem, c_has, c_det, c_sum, Option.bind_some]
  repeat' split
  all_goals first | rfl | (exfalso; omega)
theorem allD (h0 : ¬ (0 ≤ a0 ∧ a0 ≤ 400))  : Zc9 a0 a1 a2 100000 = some (.r0 true) := by
 have c_ins : ZaN a0 a1 a2 100000 = some .r1 := ZlO (by omega)
 have c_rem : ZaC a0 a1 a2 100000 = some .r1 := ZlP (by omega)
 have c_has : Zb9 a0 a1 a2 100000 = some .r1 := ZlQ (by omega)
 have c_det : ZaD a0 a1 100000 = some .r1 := Zpp (by omega)
 have c_sum : Zby a0 100000 = some .r1 := ZsD (by omega)
 by_cases g_v2 : (0 ≤ a1 ∧ a1 ≤ 7)
 ·
  by_cases g_v3 : (-1099511627776 ≤ a2 ∧ a2 ≤ 1099511627776)
  ·
   refine (ZdN (x := law24_ListFormsX.h1m3 ) ?_).trans (goR (y0 := law24_ListFormsX.h1m3 ) (x0 := law24_ListFormsX.h2m3 false true true) (x1 := law24_ListFormsX.h2m7 true true) (x2 := law24_ListFormsX.h2m11 true true) (x3 := law24_ListFormsX.h2m15 true true) (x4 := law24_ListFormsX.h2m19 true true) (x5 := law24_ListFormsX.h2m23 true true) (by decide) (show Zad a0 a1 a2 100000  = _ from by
    unfold Zad
    repeat' split
    all_goals first | rfl | (exfalso; omega)) (mD0 (a0 := a0) (a1 := a1) (a2 := a2) (N := 100000) true true h0 ) (mD1 (a0 := a0) (a1 := a1) (a2 := a2) (N := 100000) true true h0 ) (mD2 (a0 := a0) (a1 := a1) (a2 := a2) (N := 100000) true true h0 ) (mD3 (a0 := a0) (a1 := a1) (a2 := a2) (N := 100000) true true h0 ) (mD4 (a0 := a0) (a1 := a1) (a2 := a2) (N := 100000) true true h0 ) (mD5 (a0 := a0) (a1 := a1) (a2 := a2) (N := 100000) true true h0 Zem))
   unfold Zav
   simp only [c_ins, c_rem, c_has, c_det, c_sum, Option.bind_some]
   repeat' split
   all_goals first | rfl | (exfalso; omega)
  ·
   refine (ZdN (x := law24_ListFormsX.h1m3 ) ?_).trans (goR (y0 := law24_ListFormsX.h1m3 ) (x0 := law24_ListFormsX.h2m3 false true false) (x1 := law24_ListFormsX.h2m7 true false) (x2 := law24_ListFormsX.h2m11 true false) (x3 := law24_ListFormsX.h2m15 true false) (x4 := law24_ListFormsX.h2m19 true false) (x5 := law24_ListFormsX.h2m23 true false) (by decide) (show Zad a0 a1 a2 100000  = _ from by
    unfold Zad
    repeat' split
    all_goals first | rfl | (exfalso; omega)) (mD0 (a0 := a0) (a1 := a1) (a2 := a2) (N := 100000) true false h0 ) (mD1 (a0 := a0) (a1 := a1) (a2 := a2) (N := 100000) true false h0 ) (mD2 (a0 := a0) (a1 := a1) (a2 := a2) (N := 100000) true false h0 ) (mD3 (a0 := a0) (a1 := a1) (a2 := a2) (N := 100000) true false h0 ) (mD4 (a0 := a0) (a1 := a1) (a2 := a2) (N := 100000) true false h0 ) (mD5 (a0 := a0) (a1 := a1) (a2 := a2) (N := 100000) true false h0 Zem))
   unfold Zav
   simp only [c_ins, c_rem, c_has, c_det, c_sum, Option.bind_some]
   repeat' split
   all_goals first | rfl | (exfalso; omega)
 ·
  by_cases g_v3 : (-1099511627776 ≤ a2 ∧ a2 ≤ 1099511627776)
  ·
   refine (ZdN (x := law24_ListFormsX.h1m3 ) ?_).trans (goR (y0 := law24_ListFormsX.h1m3 ) (x0 := law24_ListFormsX.h2m3 false false true) (x1 := law24_ListFormsX.h2m7 false true) (x2 := law24_ListFormsX.h2m11 false true) (x3 := law24_ListFormsX.h2m15 false true) (x4 := law24_ListFormsX.h2m19 false true) (x5 := law24_ListFormsX.h2m23 false true) (by decide) (show Zad a0 a1 a2 100000  = _ from by
    unfold Zad
    repeat' split
    all_goals first | rfl | (exfalso; omega)) (mD0 (a0 := a0) (a1 := a1) (a2 := a2) (N := 100000) false true h0 ) (mD1 (a0 := a0) (a1 := a1) (a2 := a2) (N := 100000) false true h0 ) (mD2 (a0 := a0) (a1 := a1) (a2 := a2) (N := 100000) false true h0 ) (mD3 (a0 := a0) (a1 := a1) (a2 := a2) (N := 100000) false true h0 ) (mD4 (a0 := a0) (a1 := a1) (a2 := a2) (N := 100000) false true h0 ) (mD5 (a0 := a0) (a1 := a1) (a2 := a2) (N := 100000) false true h0 Zem))
   unfold Zav
   simp only [c_ins, c_rem, c_has, c_det, c_sum, Option.bind_some]
   repeat' split
   all_goals first | rfl | (exfalso; omega)
  ·
   refine (ZdN (x := law24_ListFormsX.h1m3 ) ?_).trans (goR (y0 := law24_ListFormsX.h1m3 ) (x0 := law24_ListFormsX.h2m3 false false false) (x1 := law24_ListFormsX.h2m7 false false) (x2 := law24_ListFormsX.h2m11 false false) (x3 := law24_ListFormsX.h2m15 false false) (x4 := law24_ListFormsX.h2m19 false false) (x5 := law24_ListFormsX.h2m23 false false) (by decide) (show Zad a0 a1 a2 100000  = _ from by
    unfold Zad
    repeat' split
    all_goals first | rfl | (exfalso; omega)) (mD0 (a0 := a0) (a1 := a1) (a2 := a2) (N := 100000) false false h0 ) (mD1 (a0 := a0) (a1 := a1) (a2 := a2) (N := 100000) false false h0 ) (mD2 (a0 := a0) (a1 := a1) (a2 := a2) (N := 100000) false false h0 ) (mD3 (a0 := a0) (a1 := a1) (a2 := a2) (N := 100000) false false h0 ) (mD4 (a0 := a0) (a1 := a1) (a2 := a2) (N := 100000) false false h0 ) (mD5 (a0 := a0) (a1 := a1) (a2 := a2) (N := 100000) false false h0 Zem))
   unfold Zav
   simp only [c_ins, c_rem, c_has, c_det, c_sum, Option.bind_some]
   repeat' split
   all_goals first | rfl | (exfalso; omega)
end
theorem runs (a0 a1 a2 : Int) : Zc9 a0 a1 a2 100000 = some (.r0 true) := by
 by_cases hp : (0 ≤ a0 ∧ a0 ≤ 400)
 ·by_cases hh : (0 ≤ a1 ∧ a1 ≤ 7)
  ·by_cases hf : (-1099511627776 ≤ a2 ∧ a2 ≤ 1099511627776)
   ·exact allA hp hh hf
   ·exact Zz hp hh hf
  ·exact allC hp hh
 ·exact allD hp
end Pc
end Ev
end Go.Proofs.YtnfmhpnogfppiaaGreat
/- A region that draws its order, whose first operations only read (and make memory in calls), and whose last ones, in a forced order among themselves, make and write new memory: but these may come up early. -/
namespace Go.Proofs.YtnfmhpnogfppiaaGreat
open Go.RowKit

section
variable {P : Program}

def Calm (P : Program) (W : World) (o : Oper) (a : Act) (v : Value) : Prop :=
 ∀ w, Below W.heap.size W w → o.quietAt P a (fun w' => Below w.heap.size w w') w v

def YieldsC (P : Program) (ops : Array Oper) (W : World) (o : Oper) (v : Value) (a : Act) : Prop :=
 (Region.wanted o (yielded ops a.tmps) = true ∧ Calm P W o a v) ∨ (Region.wanted o (yielded ops a.tmps) = false ∧ v = undef)
theorem Zn5 {a b c : World} (h : Below a.heap.size a b) (k : Below b.heap.size b c) : Below a.heap.size a c := h.trans (k.mono h.size)

def Closed (md : Region.Mode) (ops : Array Oper) (listed : Array Bool) : Prop :=
 ∀ j oj, ops[j]? = some oj → listed.getD j false = true → ∀ e ∈ oj.after, Region.binds md e = true → listed.getD e.on false = true
def Zpq (md : Region.Mode) (ops : Array Oper) : Nat → Nat → Nat → Bool
 | 0, _, _ => false
 | f + 1, t, i => Region.waitsFor md ops t i || (List.range ops.size).any fun k => Region.waitsFor md ops t k && Zpq md ops f k i
theorem Closed.waits {md : Region.Mode} {ops : Array Oper} {listed : Array Bool} (h : Closed md ops listed) : ∀ (f t i : Nat), listed.getD t false = true → Zpq md ops f t i = true → listed.getD i false = true
 | 0, _, _, _, hw => by cases hw
 | f + 1, t, i, ht, hw => by
  simp only [Zpq, Bool.or_eq_true, List.any_eq_true, Bool.and_eq_true] at hw
  rcases hw with hw | ⟨k, _, hw, hr⟩
  ·obtain ⟨o, ho, e, he, hb, rfl⟩ := Region.waitsFor_spec hw
   exact h t o ho ht e he hb
  ·obtain ⟨o, ho, e, he, hb, rfl⟩ := Region.waitsFor_spec hw
   exact h.waits f e.on i (h t o ho ht e he hb) hr

theorem YieldsC.wpOp {ops : Array Oper} {W : World} {i : Nat} {o : Oper} {v : Value} {a : Act} {w : World} (hi : ops[i]? = some o) (hy : YieldsC P ops W o v a) (hb : Below W.heap.size W w)
  {K : Act → World → Prop} {Q : Exit → Act → World → Prop} (h : ∀ w', Below w.heap.size w w' → K (a.put o.dst v) w') : wpOp P ops Q i K a w := by
 unfold Go.wpOp
 simp only [hi]
 rcases hy with ⟨hw, hv⟩ | ⟨hw, rfl⟩
 ·simp only [hw, if_true]
  exact .inl (Oper.wp_of_quiet (C := fun w' => Below w.heap.size w w') (K := fun a' => a' = a.put o.dst v) (Below.refl _ _) (fun a' w' hw' ha => by subst ha; exact h w' hw')
   ⟨v, fun w1 hw1 => by
    have h1 := hv w1 (Zn5 hb hw1)
    unfold Oper.quietAt at h1 ⊢
    generalize (execOp a.eval o).run P w1 = r at *
    cases r with
    | ok n w' =>
     cases n <;> simp only [Oper.quietUpon] at h1 ⊢
     case value u => exact h1
     case skip => exact h1
     case enter f args => exact ⟨h1.1, h1.2.mono fun e w2 ⟨he, hb2⟩ => ⟨he, Zn5 hw1 hb2⟩⟩
    | halt x w' => simp only [Oper.quietUpon] at h1, rfl⟩)
 ·simp only [hw, Bool.false_eq_true, if_false]
  exact h w (Below.refl _ _)

end
end Go.Proofs.YtnfmhpnogfppiaaGreat
/- The law ListForms, for every input. -/
namespace Go.Proofs.YtnfmhpnogfppiaaGreat
open Go.ChangeShapes Go.WideShapes Go.ChangeAt Go.RowKit
namespace Ev
namespace ListForms
set_option linter.unusedVariables false
theorem own : ownKnob Tryz.prog.godebug = none := by kernel_rfl
set_option maxRecDepth 100000 in
theorem lifted (os : Os) (started : os.Started) (H : Type) (enc : TypeId × Value → H) :
  ReturnsInHanded {} Tryz.checked os 3 .any (Rows.listFormsSpec.pre6 enc Tryz.prog Tryz.f3 Rows.listFormsRow.domain false) (Rows.listFormsSpec.post enc Tryz.prog Tryz.f3 false true false false) := by
 refine Zrz (C := Tryz.checked) own started (by kernel_rfl) Tryz.func3 rfl rfl Tryz.underlying4 ?_ (by kernel_rfl) (by kernel_rfl)
  (ChangeSpec.witness6 (enc := enc) (C := Tryz.checked) false ⟨#[], #[.int .i64 0, .int .i64 0, .int .i64 0], []⟩ 8 (by kernel_rfl) (by kernel_rfl) (by kernel_rfl) (by kernel_rfl)) ?_
 ·intro ds hlen
  have hlen : ds.length = 3 := hlen.trans (by kernel_rfl)
  match ds, hlen with
  | [_, _, _], _ => rfl
 intro W base args ds p hval hA hlt hsz
 rw [Tryz.params3] at hA hval
 obtain ⟨v0, vs0, d0, ds0, p0, q0, hargs, rfl, rfl, h0, r0⟩ := trodAll_cons hA
 obtain ⟨v1, vs1, d1, ds1, p1, q1, rfl, rfl, rfl, h1, r1⟩ := trodAll_cons r0
 obtain ⟨v2, vs2, d2, ds2, p2, q2, rfl, rfl, rfl, h2, r2⟩ := trodAll_cons r1
 obtain ⟨rfl, rfl, rfl⟩ := trodAll_nil r2
 obtain rfl : args = #[v0, v1, v2] := by cases args; simp_all
 obtain ⟨z0, rfl, w0⟩ := ZiI (k := .i64) (by kernel_rfl) (ZiJ (by kernel_rfl) (hval 0 3 v0 rfl rfl))
 obtain ⟨z1, rfl, w1⟩ := ZiI (k := .i64) (by kernel_rfl) (ZiJ (by kernel_rfl) (hval 1 3 v1 rfl rfl))
 obtain ⟨z2, rfl, w2⟩ := ZiI (k := .i64) (by kernel_rfl) (ZiJ (by kernel_rfl) (hval 2 3 v2 rfl rfl))
 exact Zty (ZiX z0 z1 z2 100000 _ (Pc.runs z0 z1 z2)) (Zlr (.atom rfl) (Zlr (.atom rfl) (Zlr (.atom rfl) ZsV))) rfl
theorem over : Rows.listFormsRow.holds Tryz.pinned (OpenSpec.ofChange Rows.listFormsSpec) :=
 OpenClaim.holds_of_wide 3 Tryz.f3 rfl rfl rfl rfl rfl rfl rfl ⟨rfl, rfl, rfl, rfl, rfl⟩ rfl rfl rfl rfl rfl (by kernel_rfl) Tryz.func3 (by kernel_rfl)
  (of_decide_eq_true (by kernel_rfl)) (by unfold Func.isWrapper; first | (rw [if_pos (by decide +kernel)]; kernel_rfl) | (rw [if_neg (by decide +kernel)]; exact ⟨rfl, rfl⟩))
  (fun os started H enc _ => lifted os started H enc)
theorem proved : Rows.ListFormsSaid := over
#print axioms proved
end ListForms
end Ev
end Go.Proofs.YtnfmhpnogfppiaaGreat
