/- Part 4. -/
import Derived.Test.YtnfmhpnogfppiaaGreatZac
/- How records are written, and which functions are told. -/
namespace Go.Proofs.YtnfmhpnogfppiaaGreat
open Go.RowKit
namespace Ev
set_option linter.unusedVariables false
theorem Zqi {P : Program} {f : FuncId} {A A' : Array Value} {pre pre' : List AObj} {v v' : Value} {post post' : List (Option AObj)} (hA : A' = A) (hp : pre' = pre) (hv : v' = v) (hq : post' = post) (h : LSpec P f A' pre' v' post') : LSpec P f A pre v post := by
 subst hA hp hv hq; exact h
theorem ZoI {P : Program} {ext : FuncId → Option Ext} (F : Fit P ext) (p : FuncId → Bool) : Fit P (fun f => bif p f then none else ext f) :=
 have h : ∀ f e, (bif p f then none else ext f) = some e → ext f = some e := fun f e h => by cases hp : p f <;> rw [hp] at h <;> first | cases h; done | exact h
 ⟨F.mixed, F.go, fun f g e => F.fn f g (h _ _ e), fun f g e => F.hp f g (h _ _ e), fun f S e => F.tc f S (h _ _ e), fun f n e => F.mark f n (h _ _ e), fun f k e' he => F.ext f k e' (h _ _ he)⟩
abbrev vq : Value := .int .i64 0
abbrev vf : Value := .bool false
abbrev vT : Value := .bool true
abbrev vn : Value := .slice none 0 0
noncomputable abbrev dS {α : Type} (a : α) : Bool := dP (a = a)
theorem ltA {p : Prop} (h : p := by first | omega | (simp only [List.length_set, List.length_append, List.length_cons, List.length_nil, List.length_replicate, List.length_take, List.length_drop] at * <;> omega)) : p := h
theorem eqA {p : Prop} (h : p := by first | rfl | omega | (simp only [List.length_set, List.length_append, List.length_cons, List.length_nil, List.length_replicate, List.length_take, List.length_drop] at * <;> omega)) : p := h
theorem rr {p q : Prop} (h : p := by rfl) (h2 : q := by rfl) : p ∧ q := ⟨h, h2⟩
section
variable {l : List (Bool × Bool)}
theorem oT {a b : Int} (hl : ∀ q ∈ l, q.1 = q.2) (h : a = b := by omega) : ∀ q ∈ ((a == b), true) :: l, q.1 = q.2 := Zb (bT h) hl
theorem oF {a b : Int} (hl : ∀ q ∈ l, q.1 = q.2) (h : ¬ a = b := by omega) : ∀ q ∈ ((a == b), false) :: l, q.1 = q.2 := Zb (bF h) hl
theorem oD {a b : Int} (hl : ∀ q ∈ l, q.1 = q.2) (h : a ≠ b := by omega) : ∀ q ∈ ((a != b), true) :: l, q.1 = q.2 := Zb (bne_iff_ne.2 h) hl
theorem oE {a b : Int} (hl : ∀ q ∈ l, q.1 = q.2) (h : a = b := by omega) : ∀ q ∈ ((a != b), false) :: l, q.1 = q.2 := Zb (bne_eq_false_iff_eq.2 h) hl
theorem oY {p : Prop} [Decidable p] (hl : ∀ q ∈ l, q.1 = q.2) (h : p := by omega) : ∀ q ∈ (decide p, true) :: l, q.1 = q.2 := Zb (decide_eq_true h) hl
theorem oN {p : Prop} [Decidable p] (hl : ∀ q ∈ l, q.1 = q.2) (h : ¬ p := by omega) : ∀ q ∈ (decide p, false) :: l, q.1 = q.2 := Zb (decide_eq_false h) hl
theorem oR {α : Type} {a b : α} (hl : ∀ q ∈ l, q.1 = q.2) (h : a = b := by rfl) : ∀ q ∈ (dP (a = b), true) :: l, q.1 = q.2 := Zb (Zg h) hl
theorem oB {a b : Nat} (hl : ∀ q ∈ l, q.1 = q.2) (h : a < b := by omega) : ∀ q ∈ (Nat.blt a b, true) :: l, q.1 = q.2 := Zb (Zry h) hl
theorem oL {a b : Nat} (hl : ∀ q ∈ l, q.1 = q.2) (h : a < b := by first | omega | (simp only [List.length_set, List.length_append, List.length_cons, List.length_nil, List.length_replicate, List.length_take, List.length_drop] at * <;> omega)) : ∀ q ∈ (Nat.blt a b, true) :: l, q.1 = q.2 := Zb (Zry h) hl
theorem oI {a b : Int} (hl : ∀ q ∈ l, q.1 = q.2) (h : a = b := by first | rfl | exact Zo7 (by omega)) : ∀ q ∈ ((a == b), true) :: l, q.1 = q.2 := Zb (bT h) hl
end
def E_ii : Enc R_ii := ⟨fun x => [.i x.a0, .i x.a1], 2, R_ii.z, fun _ => rfl, fun _ => rfl⟩
def Ze : Enc RB := ⟨fun x => [.i x.a0, .i x.a1, .i x.a2, .i x.a3], 4, RB.z, fun _ => rfl, fun _ => rfl⟩
noncomputable def E_iiiiiiiA : Enc R_iiiiiiiA := ⟨fun x => [.i x.a0, .i x.a1, .i x.a2, .i x.a3, .i x.a4, .i x.a5, .i x.a6, (mc E_ii x.a7)], 8, R_iiiiiiiA.z, fun _ => rfl, fun _ => rfl⟩
def ZaM (L : List RA) : List MapEntry := L.map fun x => ⟨.agg #[.int .i64 x.a0, .int .i64 x.a1], .int .i64 x.a2, 0⟩
def Z2 (L : List RA) : Obj := .map (ZaM L).toArray 0
section
variable {P : Program} {kt : TypeId}
theorem Zqj (he : ∀ a b c d : Int, ZjZ P kt (.agg #[.int .i64 a, .int .i64 b]) (.agg #[.int .i64 c, .int .i64 d]) = some ((a == c) && ((b == d) && true))) (k l : Int) : ∀ (L : List RA) (i : Nat), ZgL P kt (.agg #[.int .i64 k, .int .i64 l]) (ZaM L) i = some ((L.findIdx? (fun x => k == x.a0 && l == x.a1)).map fun j => (i + j, .int .i64 (Zc L k l)))
 | [], i => rfl
 | x :: L, i => by
  have ih := Zqj he k l L (i + 1)
  simp only [ZaM, List.map_cons, ZgL, he, Bool.and_true]
  simp only [ZaM] at ih
  have hf : ZaQ (.agg #[.int .i64 x.a0, .int .i64 x.a1]) = true := rfl
  rw [hf, cond_true, List.findIdx?_cons]
  cases h : (k == x.a0 && l == x.a1) with
  | true => simp [Zc, List.find?_cons, h]
  | false =>
   have hg : Zc (x :: L) k l = Zc L k l := by simp only [Zc, List.find?_cons, h]
   rw [hg]
   simp only [ih, Bool.false_eq_true, if_false]
   cases L.findIdx? (fun x => k == x.a0 && l == x.a1) with
   | none => rfl
   | some j => simp; omega
theorem Zr9 {L : List RA} {k l : Int} : ZcY L k l = (L.findIdx? (fun x => k == x.a0 && l == x.a1)).isSome := by
 induction L with
 | nil => rfl
 | cons x L ih =>
  unfold ZcY at ih ⊢
  rw [List.any_cons, List.findIdx?_cons, ih]
  cases h : (k == x.a0 && l == x.a1) with
  | true => rfl
  | false => cases L.findIdx? (fun x => k == x.a0 && l == x.a1) <;> rfl
variable {fs : Array Field} (hu : P.underlying kt = some (.struct fs)) (hk : ∀ a b : Int, Zkb P #[.int .i64 a, .int .i64 b] fs.toList = true) (he : ∀ a b c d : Int, ZjZ P kt (.agg #[.int .i64 a, .int .i64 b]) (.agg #[.int .i64 c, .int .i64 d]) = some ((a == c) && ((b == d) && true)))
include hu hk he
theorem Zlb (k l : Int) (L : List RA) : Zbn P kt (.agg #[.int .i64 k, .int .i64 l]) (ZaM L) = some ((L.findIdx? (fun x => k == x.a0 && l == x.a1)).map fun j => (j, .int .i64 (Zc L k l))) := by
 unfold Zbn
 rw [hu]
 show (bif Zkb P #[.int .i64 k, .int .i64 l] fs.toList then _ else _) = _
 rw [hk, cond_true, Zqj he]
 simp
theorem ZsE {L : List RA} {k l : Int} (h : ZcY L k l = true) : (Zbn P kt (.agg #[.int .i64 k, .int .i64 l]) (ZaM L)).map (Option.map Prod.snd) = some (some (.int .i64 (Zc L k l))) := by
 rw [Zlb hu hk he]
 rw [Zr9] at h
 cases hi : L.findIdx? (fun x => k == x.a0 && l == x.a1) with
 | none => rw [hi] at h; cases h
 | some j => rfl
theorem ZsF {L : List RA} {k l : Int} (h : ¬ (ZcY L k l = true)) : (Zbn P kt (.agg #[.int .i64 k, .int .i64 l]) (ZaM L)).map (Option.map Prod.snd) = some none := by
 rw [Zlb hu hk he]
 rw [Zr9] at h
 cases hi : L.findIdx? (fun x => k == x.a0 && l == x.a1) with
 | none => rfl
 | some j => rw [hi] at h; exact absurd rfl h
omit hu hk he in
theorem Zqk (k l v : Int) : ∀ (L : List RA), (match L.findIdx? (fun x => k == x.a0 && l == x.a1) with | none => ZaM L ++ [⟨.agg #[.int .i64 k, .int .i64 l], .int .i64 v, 0⟩] | some j => (ZaM L).modify j fun e => ⟨.agg #[.int .i64 k, .int .i64 l], .int .i64 v, e.born⟩) = ZaM (ZbV L k l v)
 | [] => rfl
 | x :: L => by
  rw [List.findIdx?_cons]
  cases h : (k == x.a0 && l == x.a1) with
  | true =>
   simp only [if_true, ZbV, h]
   simp [ZaM]
  | false =>
   simp only [Bool.false_eq_true, if_false, ZbV, h]
   have ih := Zqk k l v L
   cases hi : L.findIdx? (fun x => k == x.a0 && l == x.a1) with
   | none =>
    rw [hi] at ih
    simp only [Option.map_none]
    simp only [ZaM, List.map_cons, List.cons_append] at ih ⊢
    rw [ih]
   | some j =>
    rw [hi] at ih
    simp only [Option.map_some]
    simp only [ZaM, List.map_cons, List.modify_succ_cons] at ih ⊢
    rw [ih]
omit hu hk he in
theorem ZsT {k l : Int} : ∀ {L : List RA} {j : Nat}, L.findIdx? (fun x => k == x.a0 && l == x.a1) = some j → (((ZaM L)[j]?).map (·.key)).getD (.agg #[.int .i64 k, .int .i64 l]) = .agg #[.int .i64 k, .int .i64 l] := by
 intro L j h
 obtain ⟨hj, hp, _⟩ := List.findIdx?_eq_some_iff_getElem.1 h
 simp only [Bool.and_eq_true, beq_iff_eq] at hp
 simp [ZaM, hj, hp.1, hp.2]
theorem ZsU (L : List RA) (k l v : Int) : putM P kt (.agg #[.int .i64 k, .int .i64 l]) (.int .i64 v) (ZaM L) = some (ZaM (ZbV L k l v)) := by
 unfold putM
 rw [Zlb hu hk he]
 have h := Zqk k l v L
 cases hi : L.findIdx? (fun x => k == x.a0 && l == x.a1) with
 | none => rw [hi] at h; exact congrArg some h
 | some j =>
  rw [hi] at h
  simp only [Option.map_some]
  rw [ZsT hi]
  have hs : Instr.sameBits 10000 (.agg #[.int .i64 k, .int .i64 l]) (.agg #[.int .i64 k, .int .i64 l]) = true := by
   simp [Instr.sameBits]
  rw [hs]
  exact congrArg some h
end
theorem Zj4 {L : List RA} {k l : Int} (h : ZcY L k l = true) : (Zbn Tryz.prog 36 (.agg #[.int .i64 k, .int .i64 l]) (ZaM L)).map (Option.map Prod.snd) = some (some (.int .i64 (Zc L k l))) := ZsE Tryz.underlying36 (fun _ _ => by kernel_rfl) (fun _ _ _ _ => by kernel_rfl) h
theorem ZrA {L : List RA} {k l : Int} (h : ¬ (ZcY L k l = true)) : (Zbn Tryz.prog 36 (.agg #[.int .i64 k, .int .i64 l]) (ZaM L)).map (Option.map Prod.snd) = some none := ZsF Tryz.underlying36 (fun _ _ => by kernel_rfl) (fun _ _ _ _ => by kernel_rfl) h
theorem ZsV (L : List RA) (k l v : Int) : putM Tryz.prog 36 (.agg #[.int .i64 k, .int .i64 l]) (.int .i64 v) (ZaM L) = some (ZaM (ZbV L k l v)) := ZsU Tryz.underlying36 (fun _ _ => by kernel_rfl) (fun _ _ _ _ => by kernel_rfl) L k l v
instance : Inhabited R_ii := ⟨R_ii.z⟩
instance : Inhabited RA := ⟨RA.z⟩
instance : Inhabited RB := ⟨RB.z⟩
instance : Inhabited R_iiiiiiiA := ⟨R_iiiiiiiA.z⟩
def Zsx : FuncId → Bool := fun f => Nat.beq f 4 || Nat.beq f 11 || Nat.beq f 71 || Nat.beq f 58 || Nat.beq f 59 || Nat.beq f 72 || Nat.beq f 29 || Nat.beq f 101 || Nat.beq f 44 || Nat.beq f 46 || Nat.beq f 113 || Nat.beq f 45 || Nat.beq f 57 || Nat.beq f 41 || Nat.beq f 13 || Nat.beq f 33 || Nat.beq f 14 || Nat.beq f 12 || Nat.beq f 38 || Nat.beq f 40
noncomputable def Zt : FuncId → Option Ext := ZqM (Zse Zo4) Zsx
theorem Za7 : Fit Tryz.prog Zt := fitT (fitS Zmx) (fun f h => by
 simp only [Zsx, Bool.or_eq_true] at h
 simp only [Nat.beq_eq] at h
 rcases h with ((((((((((((((((((rfl | rfl) | rfl) | rfl) | rfl) | rfl) | rfl) | rfl) | rfl) | rfl) | rfl) | rfl) | rfl) | rfl) | rfl) | rfl) | rfl) | rfl) | rfl) | rfl
 ·exact ⟨_, _, Tryz.func4, rfl⟩
 ·exact ⟨_, _, Tryz.func11, rfl⟩
 ·exact ⟨_, _, Tryz.func71, rfl⟩
 ·exact ⟨_, _, Tryz.func58, rfl⟩
 ·exact ⟨_, _, Tryz.func59, rfl⟩
 ·exact ⟨_, _, Tryz.func72, rfl⟩
 ·exact ⟨_, _, Tryz.func29, rfl⟩
 ·exact ⟨_, _, Tryz.func101, rfl⟩
 ·exact ⟨_, _, Tryz.func44, rfl⟩
 ·exact ⟨_, _, Tryz.func46, rfl⟩
 ·exact ⟨_, _, Tryz.func113, rfl⟩
 ·exact ⟨_, _, Tryz.func45, rfl⟩
 ·exact ⟨_, _, Tryz.func57, rfl⟩
 ·exact ⟨_, _, Tryz.func41, rfl⟩
 ·exact ⟨_, _, Tryz.func13, rfl⟩
 ·exact ⟨_, _, Tryz.func33, rfl⟩
 ·exact ⟨_, _, Tryz.func14, rfl⟩
 ·exact ⟨_, _, Tryz.func12, rfl⟩
 ·exact ⟨_, _, Tryz.func38, rfl⟩
 ·exact ⟨_, _, Tryz.func40, rfl⟩
 )
end Ev
end Go.Proofs.YtnfmhpnogfppiaaGreat
/- Calls do what the plain functions say. -/
namespace Go.Proofs.YtnfmhpnogfppiaaGreat
open Go.RowKit
namespace Ev
set_option linter.unusedVariables false
abbrev cz0 : AObj := .cells [vi (1 : Int), vi (1 : Int), vi (5 : Int), vq, vi (10 : Int), vq, vq, vq, vi (15 : Int), vq, vq, vq, vi (13 : Int), vi (2 : Int), vq, vi (2 : Int), vi (9 : Int), vi (2 : Int), vi (27 : Int), vq, vi (13 : Int), vi (3 : Int), vi (2 : Int), vi (1 : Int), vi (6 : Int), vi (4 : Int), vi (3 : Int), vi (1 : Int), vi (9 : Int), vi (4 : Int), vi (24 : Int), vq, vi (13 : Int), vi (5 : Int), vi (2 : Int), vq, vi (9 : Int), vi (5 : Int), vi (18 : Int), vq, vi (13 : Int), vi (3 : Int), vi (5 : Int), vi (1 : Int), vi (6 : Int), vi (4 : Int), vi (3 : Int), vi (1 : Int), vi (9 : Int), vi (4 : Int), vi (15 : Int), vq, vi (3 : Int), vi (2 : Int), vi (5 : Int), vq, vi (8 : Int), vi (8 : Int), vq, vq, vi (7 : Int), vi (4 : Int), vi (3 : Int), vi (1 : Int), vi (9 : Int), vi (4 : Int), vi (18 : Int), vq, vi (8 : Int), vi (33 : Int), vq, vq, vi (11 : Int), vi (6 : Int), vi (2 : Int), vi (1 : Int), vi (14 : Int), vi (6 : Int), vi (1 : Int), vi (1 : Int), vi (14 : Int), vi (6 : Int), vq, vi (5 : Int), vi (14 : Int), vi (2 : Int), vq, vi (6 : Int), vi (1 : Int), vi (7 : Int), vi (1 : Int), vq, vi (8 : Int), vi (34 : Int), vq, vq, vi (7 : Int), vi (4 : Int), vi (3 : Int), vi (1 : Int), vi (9 : Int), vi (4 : Int), vi (27 : Int), vq, vi (8 : Int), vi (33 : Int), vq, vq, vi (11 : Int), vi (6 : Int), vi (2 : Int), vi (1 : Int), vi (14 : Int), vi (6 : Int), vi (1 : Int), vi (1 : Int), vi (14 : Int), vi (6 : Int), vq, vi (2 : Int), vi (14 : Int), vq, vi (2 : Int), vi (6 : Int), vi (1 : Int), vi (7 : Int), vi (1 : Int), vq, vi (8 : Int), vi (34 : Int), vq, vq, vi (1 : Int), vi (7 : Int), vq, vq, vi (17 : Int), vq, vq, vq, vi (19 : Int), vi (7 : Int), vq, vq, vi (1 : Int), vi (1 : Int), vi (3 : Int), vq, vi (10 : Int), vq, vq, vq, vi (15 : Int), vq, vq, vq, vi (13 : Int), vi (2 : Int), vq, vi (2 : Int), vi (9 : Int), vi (2 : Int), vi (63 : Int), vq, vi (13 : Int), vi (3 : Int), vi (2 : Int), vi (1 : Int), vi (6 : Int), vi (4 : Int), vi (3 : Int), vi (1 : Int), vi (9 : Int), vi (4 : Int), vi (60 : Int), vq, vi (13 : Int), vi (5 : Int), vi (2 : Int), vq, vi (9 : Int), vi (5 : Int), vi (54 : Int), vq, vi (13 : Int), vi (3 : Int), vi (5 : Int), vi (1 : Int), vi (6 : Int), vi (4 : Int), vi (3 : Int), vi (1 : Int), vi (9 : Int), vi (4 : Int), vi (51 : Int), vq, vi (3 : Int), vi (2 : Int), vi (5 : Int), vq, vi (8 : Int), vi (44 : Int), vq, vq, vi (7 : Int), vi (4 : Int), vi (3 : Int), vi (1 : Int), vi (9 : Int), vi (4 : Int), vi (54 : Int), vq, vi (8 : Int), vi (69 : Int), vq, vq, vi (11 : Int), vi (6 : Int), vi (2 : Int), vi (1 : Int), vi (14 : Int), vi (6 : Int), vi (1 : Int), vi (1 : Int), vi (14 : Int), vi (6 : Int), vq, vi (5 : Int), vi (14 : Int), vi (2 : Int), vq, vi (6 : Int), vi (1 : Int), vi (7 : Int), vi (1 : Int), vq, vi (8 : Int), vi (70 : Int), vq, vq, vi (7 : Int), vi (4 : Int), vi (3 : Int), vi (1 : Int), vi (9 : Int), vi (4 : Int), vi (63 : Int), vq, vi (8 : Int), vi (69 : Int), vq, vq, vi (11 : Int), vi (6 : Int), vi (2 : Int), vi (1 : Int), vi (14 : Int), vi (6 : Int), vi (1 : Int), vi (1 : Int), vi (14 : Int), vi (6 : Int), vq, vi (2 : Int), vi (14 : Int), vq, vi (2 : Int), vi (6 : Int), vi (1 : Int), vi (7 : Int), vi (1 : Int), vq, vi (8 : Int), vi (70 : Int), vq, vq, vi (1 : Int), vi (7 : Int), vq, vq, vi (17 : Int), vq, vq, vq, vi (19 : Int), vi (7 : Int), vq, vq, vi (1 : Int), vi (1 : Int), vi (5 : Int), vq, vi (10 : Int), vq, vq, vq, vi (15 : Int), vq, vq, vq, vi (13 : Int), vi (2 : Int), vq, vi (2 : Int), vi (9 : Int), vi (2 : Int), vi (99 : Int), vq, vi (13 : Int), vi (3 : Int), vi (2 : Int), vi (1 : Int), vi (6 : Int), vi (4 : Int), vi (3 : Int), vi (1 : Int), vi (9 : Int), vi (4 : Int), vi (96 : Int), vq, vi (13 : Int), vi (5 : Int), vi (2 : Int), vq, vi (9 : Int), vi (5 : Int), vi (90 : Int), vq, vi (13 : Int), vi (3 : Int), vi (5 : Int), vi (1 : Int), vi (6 : Int), vi (4 : Int), vi (3 : Int), vi (1 : Int), vi (9 : Int), vi (4 : Int), vi (87 : Int), vq, vi (3 : Int), vi (2 : Int), vi (5 : Int), vq, vi (8 : Int), vi (80 : Int), vq, vq, vi (7 : Int), vi (4 : Int), vi (3 : Int), vi (1 : Int), vi (9 : Int), vi (4 : Int), vi (90 : Int), vq, vi (8 : Int), vi (105 : Int), vq, vq, vi (11 : Int), vi (6 : Int), vi (2 : Int), vi (1 : Int), vi (14 : Int), vi (6 : Int), vi (1 : Int), vi (1 : Int), vi (14 : Int), vi (6 : Int), vq, vi (5 : Int), vi (14 : Int), vi (2 : Int), vq, vi (6 : Int), vi (1 : Int), vi (7 : Int), vi (1 : Int), vq, vi (8 : Int), vi (106 : Int), vq, vq, vi (7 : Int), vi (4 : Int), vi (3 : Int), vi (1 : Int), vi (9 : Int), vi (4 : Int), vi (99 : Int), vq, vi (8 : Int), vi (105 : Int), vq, vq, vi (11 : Int), vi (6 : Int), vi (2 : Int), vi (1 : Int), vi (14 : Int), vi (6 : Int), vi (1 : Int), vi (1 : Int), vi (14 : Int), vi (6 : Int), vq, vi (2 : Int), vi (14 : Int), vq, vi (2 : Int), vi (6 : Int), vi (1 : Int), vi (7 : Int), vi (1 : Int), vq, vi (8 : Int), vi (106 : Int), vq, vq, vi (1 : Int), vi (7 : Int), vq, vq, vi (17 : Int), vq, vq, vq, vi (19 : Int), vi (7 : Int), vq, vq, vi (20 : Int), vq, vq, vq] 54
abbrev cz1 : AObj := .cells [vi (-1 : Int), vi (-1 : Int), vi (34 : Int), vi (-1 : Int), vi (-1 : Int), vi (-1 : Int), vi (-1 : Int), vi (-1 : Int), vi (-1 : Int), vi (-1 : Int), vi (-1 : Int), vi (-1 : Int), vi (-1 : Int), vi (-1 : Int), vi (-1 : Int), vi (-1 : Int), vi (-1 : Int), vi (-1 : Int), vi (-1 : Int), vi (-1 : Int), vi (-1 : Int), vi (-1 : Int), vi (-1 : Int), vi (-1 : Int), vi (-1 : Int), vi (-1 : Int), vi (-1 : Int), vi (-1 : Int), vi (-1 : Int), vi (-1 : Int), vi (-1 : Int), vi (-1 : Int), vi (-1 : Int), vi (-1 : Int), vi (2 : Int), vi (-1 : Int), vi (-1 : Int), vi (-1 : Int), vi (70 : Int), vi (-1 : Int), vi (-1 : Int), vi (-1 : Int), vi (-1 : Int), vi (-1 : Int), vi (-1 : Int), vi (-1 : Int), vi (-1 : Int), vi (-1 : Int), vi (-1 : Int), vi (-1 : Int), vi (-1 : Int), vi (-1 : Int), vi (-1 : Int), vi (-1 : Int), vi (-1 : Int), vi (-1 : Int), vi (-1 : Int), vi (-1 : Int), vi (-1 : Int), vi (-1 : Int), vi (-1 : Int), vi (-1 : Int), vi (-1 : Int), vi (-1 : Int), vi (-1 : Int), vi (-1 : Int), vi (-1 : Int), vi (-1 : Int), vi (-1 : Int), vi (-1 : Int), vi (38 : Int), vi (-1 : Int), vi (-1 : Int), vi (-1 : Int), vi (106 : Int), vi (-1 : Int), vi (-1 : Int), vi (-1 : Int), vi (-1 : Int), vi (-1 : Int), vi (-1 : Int), vi (-1 : Int), vi (-1 : Int), vi (-1 : Int), vi (-1 : Int), vi (-1 : Int), vi (-1 : Int), vi (-1 : Int), vi (-1 : Int), vi (-1 : Int), vi (-1 : Int), vi (-1 : Int), vi (-1 : Int), vi (-1 : Int), vi (-1 : Int), vi (-1 : Int), vi (-1 : Int), vi (-1 : Int), vi (-1 : Int), vi (-1 : Int), vi (-1 : Int), vi (-1 : Int), vi (-1 : Int), vi (-1 : Int), vi (-1 : Int), vi (-1 : Int), vi (74 : Int), vi (-1 : Int), vi (-1 : Int)] 3
abbrev cz2 : AObj := .cells [vi (2 : Int), vi (1048577 : Int), vi (1 : Int), vi (16 : Int), vi (255 : Int), vi (2 : Int), vq, vs 10 0 16 16, vi (2 : Int), vi (1048594 : Int), vi (1 : Int), vi (2 : Int), vi (1 : Int), vi (2 : Int), vq, vs 11 0 2 2, vi (2 : Int), vi (1048595 : Int), vi (1 : Int), vi (2 : Int), vi (1 : Int), vi (2 : Int), vq, vs 12 0 2 2] 42
abbrev cz3 : AObj := .cells [vi (2 : Int), vi (1048577 : Int), vi (1 : Int), vi (16 : Int), vi (255 : Int), vi (2 : Int), vq, vs 8 0 16 16, vi (2 : Int), vi (1048594 : Int), vi (1 : Int), vi (2 : Int), vi (1 : Int), vi (2 : Int), vq, vs 9 0 2 2, vi (2 : Int), vi (1048595 : Int), vi (1 : Int), vi (2 : Int), vi (1 : Int), vi (2 : Int), vq, vs 10 0 2 2] 42
abbrev cz4 : AObj := .cells [vi (2 : Int), vq, vi (2 : Int), vq, vi (2 : Int), vi (1048595 : Int), vi (2 : Int), vq, vi (2 : Int), vq, vi (2 : Int), vq, vi (2 : Int), vq, vi (2 : Int), vq, vi (1 : Int), vq, vi (1 : Int), vq, vi (1 : Int), vq, vi (1 : Int), vq, vi (1 : Int), vq, vi (1 : Int), vq, vi (1 : Int), vq, vi (1 : Int), vq] 36
abbrev cz5 : AObj := .cells [vi (2 : Int), vq, vi (2 : Int), vq, vi (2 : Int), vi (1048594 : Int), vi (2 : Int), vq, vi (2 : Int), vq, vi (2 : Int), vq, vi (2 : Int), vq, vi (2 : Int), vq, vi (1 : Int), vq, vi (1 : Int), vq, vi (1 : Int), vq, vi (1 : Int), vq, vi (1 : Int), vq, vi (1 : Int), vq, vi (1 : Int), vq, vi (1 : Int), vq] 36
abbrev cz6 : AObj := .cells [vi (2 : Int), vq, vi (2 : Int), vq, vi (2 : Int), vq, vi (2 : Int), vq, vi (2 : Int), vq, vi (2 : Int), vq, vi (2 : Int), vq, vi (2 : Int), vq, vi (1 : Int), vq, vi (1 : Int), vq, vi (1 : Int), vq, vi (1 : Int), vq, vi (1 : Int), vq, vi (1 : Int), vq, vi (1 : Int), vq, vi (1 : Int), vq] 36
abbrev cz7 : AObj := .cells [vi (2 : Int), vq, vi (108 : Int), vi (2 : Int), vi (1048577 : Int), vi (1 : Int), vi (5 : Int), vi (2 : Int), vi (1048595 : Int), vi (1 : Int), vi (5 : Int), vi (1 : Int), vi (1 : Int), vi (2 : Int), vi (1048594 : Int), vi (2 : Int), vi (1048595 : Int), vi (1 : Int), vq, vs 7 0 3 3] 87
abbrev cz8 : AObj := .cells [vq, vq, vi (107 : Int), vi (2 : Int), vi (1048577 : Int), vi (1 : Int), vi (5 : Int), vi (2 : Int), vi (1048595 : Int), vi (1 : Int), vi (5 : Int), vi (1 : Int), vi (1 : Int), vi (2 : Int), vi (1048594 : Int), vi (2 : Int), vi (1048595 : Int), vi (1 : Int), vq, vs 9 0 2 2] 87
abbrev cz9 : AObj := .cells [vq, vq, vi (71 : Int), vi (2 : Int), vi (1048577 : Int), vi (1 : Int), vi (3 : Int), vi (2 : Int), vi (1048594 : Int), vi (1 : Int), vi (5 : Int), vi (1 : Int), vq, vi (1 : Int), vq, vi (2 : Int), vi (1048595 : Int), vi (1 : Int), vi (1 : Int), vs 9 0 1 1] 87
abbrev ZoJ : AObj := .cells [vq, vq, vi (35 : Int), vi (2 : Int), vi (1048577 : Int), vi (1 : Int), vi (5 : Int), vi (2 : Int), vq, vi (1 : Int), vq, vi (1 : Int), vq, vi (1 : Int), vq, vi (2 : Int), vi (1048594 : Int), vi (1 : Int), vi (1 : Int), vs 9 0 0 0] 87
abbrev ZoK : AObj := .cells [vi (2 : Int), vi (1048577 : Int), vi (1 : Int), vi (16 : Int), vi (255 : Int), vi (2 : Int), vq, vs 10 0 16 16, vi (2 : Int), vi (1048594 : Int), vi (1 : Int), vi (2 : Int), vi (1 : Int), vi (2 : Int), vq, vs 11 0 2 2] 42
abbrev Zmz : AObj := .cells [vq, vq, vq, vi (1 : Int), vq, vi (1 : Int), vq, vi (1 : Int), vq, vi (1 : Int), vq, vi (1 : Int), vq, vi (1 : Int), vq, vi (1 : Int), vq, vi (1 : Int), vq, vn] 87
abbrev ZoL : AObj := .cells [vi (2 : Int), vi (1048577 : Int), vi (1 : Int), vi (16 : Int), vi (255 : Int), vi (2 : Int), vq, vs 8 0 16 16] 42
abbrev ZoM : AObj := .cells [vi (1 : Int), vi (1 : Int), vi (1 : Int), vi (1 : Int), vi (1 : Int), vq] 36
abbrev Zd2 : AObj := .cells [vi (2 : Int), vi (1048594 : Int), vi (1 : Int), vi (3 : Int)] 36
set_option maxRecDepth 100000
noncomputable def Zj5 (a0 a1 : Int) (L2 : List RA) : Zbp → Value
 | .r0 => Value.tuple #[Value.agg #[vq, vq, vq, vq, vq, vq, vq, vn], vf]
noncomputable def Zi8 (a0 a1 : Int) (L2 : List RA) : Zbp → List (Option AObj)
 | .r0 => [some (.cells [Value.map (some 2)] 89), some (.cells [vn] 33), some (.ro (Z2 L2) true)]

theorem Zm0 (a0 a1 : Int) (L2 : List RA) (N : Nat) : Fx Tryz.prog Zt Tryz.f38 [.cells [Value.map (some 2)] 89, .cells [vn] 33, .ro (Z2 L2) true] #[Value.agg #[vi a0, vi a1], vp 0 0, vp 1 0] (Zj5 a0 a1 L2) (Zi8 a0 a1 L2) (ZcS a0 a1 L2 N) := by
 unfold ZcS
 refine Zv (fun g0 => ?_) (fun g0 => ?_)
 ·
  refine Zv (fun g1 => ?_) (fun g1 => ?_)
  ·
   exact Zq (r := (.r0 : Zbp)) (fu := 4000) (orc := (Zi [(1, true)] [] [] [] [(0, .lk (some (vi (Zc L2 a0 a1))))])) (live := [0, 1, 2]) (u := Value.tuple #[Value.agg #[vq, vq, vq, vq, vq, vq, vq, vn], vf]) (bl := [some (.cells [Value.map (some 2)] 89), some (.cells [vn] 33), some (.ro (Z2 L2) true)]) (ob := [((a0 != (2 : Int)), true), (dP ((Zbn Tryz.prog 36 (Value.agg #[vi a0, vi a1]) (ZaM L2)).map (Option.map Prod.snd) = some (some (vi (Zc L2 a0 a1)))), true)]) (by kernel_rfl) (oD <| Zb (Zg (Zj4 (by assumption))) Zf) rfl (by decide) (by rfl) rr ⟨⟨rfl, ⟨[], by rfl⟩, by rfl⟩, ⟨⟨rfl, ⟨[], by rfl⟩, by rfl⟩, ⟨(show Z2 L2 = Z2 L2 from rfl), trivial⟩⟩⟩
  ·
   refine Zv (fun g2 => ?_) (fun g2 => ?_)
   ·
    exact Zq (r := (.r0 : Zbp)) (fu := 4000) (orc := (Zi [(1, false), (2, true)] [] [] [] [(0, .lk (some (vi (Zc L2 a0 a1))))])) (live := [0, 1, 2]) (u := Value.tuple #[Value.agg #[vq, vq, vq, vq, vq, vq, vq, vn], vf]) (bl := [some (.cells [Value.map (some 2)] 89), some (.cells [vn] 33), some (.ro (Z2 L2) true)]) (ob := [(((a0 == (2 : Int)) && ((a1 == (0 : Int)) && true)), true), ((a0 != (2 : Int)), false), (dP ((Zbn Tryz.prog 36 (Value.agg #[vi a0, vi a1]) (ZaM L2)).map (Option.map Prod.snd) = some (some (vi (Zc L2 a0 a1)))), true)]) (by kernel_rfl) (Zb (by first | (simp only [beq_self_eq_true, Bool.and_self]; done) | (simp only [Bool.and_true, Bool.and_eq_true, beq_iff_eq] <;> first | omega | (simp_all; done) | grind)) <| oE <| Zb (Zg (Zj4 (by assumption))) Zf) rfl (by decide) (by rfl) rr ⟨⟨rfl, ⟨[], by rfl⟩, by rfl⟩, ⟨⟨rfl, ⟨[], by rfl⟩, by rfl⟩, ⟨(show Z2 L2 = Z2 L2 from rfl), trivial⟩⟩⟩
   ·
    exact ZeR
 ·
  exact Zq (r := (.r0 : Zbp)) (fu := 4000) (orc := (Zi [] [] [] [] [(0, .lk (none))])) (live := [0, 1, 2]) (u := Value.tuple #[Value.agg #[vq, vq, vq, vq, vq, vq, vq, vn], vf]) (bl := [some (.cells [Value.map (some 2)] 89), some (.cells [vn] 33), some (.ro (Z2 L2) true)]) (ob := [(dP ((Zbn Tryz.prog 36 (Value.agg #[vi a0, vi a1]) (ZaM L2)).map (Option.map Prod.snd) = some (none)), true)]) (by kernel_rfl) (Zb (Zg (ZrA (by assumption))) Zf) rfl (by decide) (by rfl) rr ⟨⟨rfl, ⟨[], by rfl⟩, by rfl⟩, ⟨⟨rfl, ⟨[], by rfl⟩, by rfl⟩, ⟨(show Z2 L2 = Z2 L2 from rfl), trivial⟩⟩⟩

theorem Zlc (a0 a1 : Int) (L2 : List RA) (N : Nat) (r : Zbp) (h : ZcS a0 a1 L2 N = some r) : LSpec Tryz.prog 38 #[Value.agg #[vi a0, vi a1], vp 0 0, vp 1 0] [.cells [Value.map (some 2)] 89, .cells [vn] 33, .ro (Z2 L2) true] (Zj5 a0 a1 L2 r) (Zi8 a0 a1 L2 r) :=
 Zcq Za7 Tryz.func38 (by kernel_rfl) (by kernel_rfl) (fun r => by cases r <;> exact ZQ _ rfl) (Zm0 a0 a1 L2 N) h

noncomputable def Zno (a0 a1 : Int) (L2 : List RA) (k0 k1 k2 n : Nat) : Za8 := .call [(k0, .cells [Value.map (some k2)] 89), (k1, .cells [vn] 33), (k2, .ro (Z2 L2) true)] (Value.tuple #[Value.agg #[vq, vq, vq, vq, vq, vq, vq, vn], vf]) [] 0
def Zi9 (A : Array Value) (a0 a1 : Int) (L2 : List RA) (k0 k1 k2 n : Nat) : Prop := ZD Tryz.prog 38 A [(k0, .cells [Value.map (some k2)] 89), (k1, .cells [vn] 33), (k2, .ro (Z2 L2) true)] (Value.tuple #[Value.agg #[vq, vq, vq, vq, vq, vq, vq, vn], vf]) [] n 0

theorem Znp (A : Array Value) (a0 a1 : Int) (L2 : List RA) (N : Nat) (h : ZcS a0 a1 L2 N = some (.r0)) (k0 k1 k2 n : Nat) (hA : A = #[Value.agg #[vi a0, vi a1], vp k0 0, vp k1 0]) (hnd : ([k0, k1, k2] : List Nat).Nodup) (hlt : ∀ k ∈ ([k0, k1, k2] : List Nat), k < n) : Zi9 A a0 a1 L2 k0 k1 k2 n :=
 ZT hA (LSpec.callL (show LSpec Tryz.prog 38 #[Value.agg #[vi a0, vi a1], vp 0 0, vp 1 0] [.cells [Value.map (some 2)] 89, .cells [vn] 33, .ro (Z2 L2) true] (Value.tuple #[Value.agg #[vq, vq, vq, vq, vq, vq, vq, vn], vf]) [some (.cells [Value.map (some 2)] 89), some (.cells [vn] 33), some (.ro (Z2 L2) true)] from Zlc a0 a1 L2 N _ h) [k0, k1, k2] n [] rfl hnd hlt (show 3 ≤ 3 from by decide) (show ∀ j ∈ ([] : List Nat), j < 3 from by decide) (by rfl) ⟨rfl, ⟨rfl, ⟨rfl, trivial⟩⟩⟩ (by rfl) ⟨rfl, ⟨rfl, ⟨rfl, trivial⟩⟩⟩ ⟨.inr rfl, ⟨.inr rfl, ⟨.inr rfl, trivial⟩⟩⟩ rfl rfl rfl (Za (ZC rfl rfl) (Za (ZC rfl rfl) (Za (ZC rfl rfl) rfl))) rfl)

noncomputable def ZlL (a0 a1 a2 : Int) : ZbW → Value
 | .r0 => Value.tuple #[vn, vi (240 : Int)]
noncomputable def ZkC (a0 a1 a2 : Int) : ZbW → List (Option AObj)
 | .r0 => []

def ZpA : list_KeysX → Nat
 | .h1m0 => 1
noncomputable def ZqT (a0 a1 a2 : Int) : list_KeysX → List (Nat × Value)
 | .h1m0 => [(2, vi a2), (3, vp 0 0), (4, vp 1 0), (8, vp 2 0), (9, vi (-1 : Int))]
noncomputable def ZqU (a0 a1 a2 : Int) : list_KeysX → List (Option AObj)
 | .h1m0 => [some (.cells [vn] 33), some (.cells [vi a0, vi a1] 36), some (.cells [Value.map (some 3)] 89), some (.ro (Z2 ([] : List RA)) true)]

noncomputable def Zg6 : Nat → Code × List Zar
 | 1 => ZaJ [1, 1, 0, 1, 3] (Zb3 Tryz.f12) []
 | _ => (.skip, [])
def ZpB : Nat → Bool
 | 1 => true
 | _ => true
noncomputable def Zd3 (a0 a1 a2 : Int) (N : Nat) : Mach := ⟨Tryz.f12, [], list_KeysX, ZbW, Ze5 a0 a1 a2 N, ZpA, Zg6, ZpB, ZqT a0 a1 a2, ZqU a0 a1 a2, ZlL a0 a1 a2, ZkC a0 a1 a2⟩

theorem ZlM (a0 a1 a2 : Int) (N : Nat) : (Zd3 a0 a1 a2 N).Ok Tryz.prog Zt (.h1m0 : list_KeysX) (Ze5 a0 a1 a2 N (.h1m0 : list_KeysX)) := by
 show (Zd3 a0 a1 a2 N).Ok Tryz.prog Zt (.h1m0 : list_KeysX) (Zdh a0 a1 a2 N)
 unfold Zdh
 refine Mach.ok_bind (fun z0 c0 => ?_)
 cases z0 with
 | r0 =>
  exact Mach.ok_fin (M := Zd3 a0 a1 a2 N) (cd := 1000000) (cm := 0) (r := (.r0 : ZbW)) (fu := 4000) (orc := (Zi [] [] [] [] [(0, (Zno (a0) (a1) (([] : List RA))   2 0 3 4))])) (live := []) (u := Value.tuple #[vn, vi (240 : Int)]) (bl := []) (ob := [(dP (Zi9 #[Value.agg #[vi a0, vi a1], vp 2 0, vp 0 0] (a0) (a1) (([] : List RA))   2 0 3 4), true), (dS [Value.map (some 3)], true), (dS [vn], true), (dS (Z2 ([] : List RA)), true)]) (fun gv => by kernel_rfl) (Zb (Zg (Znp #[Value.agg #[vi a0, vi a1], vp 2 0, vp 0 0] (a0) (a1) (([] : List RA))   N c0 2 0 3 4 rfl (by decide) (by decide))) <| Zb (Zg (Za rfl rfl)) <| Zb (Zg (Za rfl rfl)) <| Zb (Zg (congrArg Z2 (by first | rfl | simp))) Zf) rfl (by decide) (by rfl) rr trivial

theorem ZoN (a0 a1 a2 : Int) (N : Nat) : (Zd3 a0 a1 a2 N).Enter Tryz.prog Zt #[vn, Value.agg #[vi a0, vi a1], vi a2] (Zh6 a0 a1 a2 N) := by
 unfold Zh6
 exact Mach.en_head (bK := Zg6 1) (M := Zd3 a0 a1 a2 N) (cd := 1000000) (cm := 0) (y := (.h1m0 : list_KeysX)) (fu := 4000) (orc := (Zi [] [] [] [] [])) (live := [0, 1, 3, 2]) (tv := [some (vi a2), some (vp 0 0), some (vp 1 0), some (vp 3 0), some (vi (-1 : Int))]) (bl := [some (.cells [vn] 33), some (.cells [vi a0, vi a1] 36), some (.cells [Value.map (some 2)] 89), some (.ro (Z2 ([] : List RA)) true)]) (ob := []) rfl rfl (show Zu (Zg6 1).2 = [] from rfl) (by kernel_rfl) Zf rfl (by decide) (by rfl) ⟨rr, ⟨rr, ⟨rr, ⟨rr, ⟨rr, trivial⟩⟩⟩⟩⟩ ⟨⟨rfl, ⟨[], by rfl⟩, by rfl⟩, ⟨⟨rfl, ⟨[], by rfl⟩, by rfl⟩, ⟨⟨rfl, ⟨[], by rfl⟩, by rfl⟩, ⟨(show Z2 ([] : List RA) = Z2 ([] : List RA) from rfl), trivial⟩⟩⟩⟩

theorem Zm1 (a0 a1 a2 : Int) (N : Nat) (r : ZbW) (h : Zhs a0 a1 a2 N = some r) : LSpec Tryz.prog 12 #[vn, Value.agg #[vi a0, vi a1], vi a2] [] (ZlL a0 a1 a2 r) (ZkC a0 a1 a2 r) :=
 Mach.spec Za7 (Zd3 a0 a1 a2 N) Tryz.func12 (by kernel_rfl) (by kernel_rfl) (fun x => by cases x <;> exact ZQ _ rfl) (fun r => by cases r <;> exact ZQ _ rfl) (fun x => by
  cases x with
  | h1m0 => exact fun _ => (show ¬ (1 ∈ Zu (Zg6 1).2) from by decide +kernel)
  ) (fun x => (show (Zd3 a0 a1 a2 N).Ok Tryz.prog Zt x (Ze5 a0 a1 a2 N x) from by
  cases x with
  | h1m0 => exact ZlM a0 a1 a2 N
  )) (ZoN a0 a1 a2 N) (n := N) h

noncomputable def ZpC (a0 a1 a2 : Int) (n : Nat) : Za8 := .call [] (Value.tuple #[vn, vi (240 : Int)]) [] 0
def ZkD (A : Array Value) (a0 a1 a2 : Int) (n : Nat) : Prop := ZD Tryz.prog 12 A [] (Value.tuple #[vn, vi (240 : Int)]) [] n 0

theorem ZpD (A : Array Value) (a0 a1 a2 : Int) (N : Nat) (h : Zhs a0 a1 a2 N = some (.r0)) (n : Nat) (hA : A = #[vn, Value.agg #[vi a0, vi a1], vi a2]) (hnd : ([] : List Nat).Nodup) (hlt : ∀ k ∈ ([] : List Nat), k < n) : ZkD A a0 a1 a2  n :=
 ZT hA (LSpec.callL (show LSpec Tryz.prog 12 #[vn, Value.agg #[vi a0, vi a1], vi a2] [] (Value.tuple #[vn, vi (240 : Int)]) [] from Zm1 a0 a1 a2 N _ h) [] n [] rfl hnd hlt (show 0 ≤ 0 from by decide) (show ∀ j ∈ ([] : List Nat), j < 0 from by decide) (by rfl) trivial (by rfl) trivial trivial rfl rfl rfl rfl rfl)

noncomputable def ZkE (a0 a1 : Int) : Zb5 → Value
 | .r0 => Value.tuple #[Value.agg #[vq, vq, vq, vq, vq, vq, vq, vn], vf]
noncomputable def Zj6 (a0 a1 : Int) : Zb5 → List (Option AObj)
 | .r0 => []

def ZoO : ref16_FindX → Nat
 | .h1m0 => 1
noncomputable def ZpE (a0 a1 : Int) : ref16_FindX → List (Nat × Value)
 | .h1m0 => [(0, vn), (3, vp 0 0), (4, vp 1 0), (6, vq)]
noncomputable def ZpF (a0 a1 : Int) : ref16_FindX → List (Option AObj)
 | .h1m0 => [some (.cells [vi a0, vi a1] 36), some (.cells [vq, vq, vq, vq, vq, vq, vq, vn] 42)]

noncomputable def ZfO : Nat → Code × List Zar
 | 1 => ZaJ [1, 0, 1, 3] (Zb3 Tryz.f41) []
 | _ => (.skip, [])
def ZoP : Nat → Bool
 | 1 => true
 | _ => true
noncomputable def ZcU (a0 a1 : Int) (N : Nat) : Mach := ⟨Tryz.f41, [], ref16_FindX, Zb5, Zeb a0 a1 N, ZoO, ZfO, ZoP, ZpE a0 a1, ZpF a0 a1, ZkE a0 a1, Zj6 a0 a1⟩

theorem Zld (a0 a1 : Int) (N : Nat) : (ZcU a0 a1 N).Ok Tryz.prog Zt (.h1m0 : ref16_FindX) (Zeb a0 a1 N (.h1m0 : ref16_FindX)) := by
 show (ZcU a0 a1 N).Ok Tryz.prog Zt (.h1m0 : ref16_FindX) (Zfg a0 a1 N)
 unfold Zfg
 exact Mach.ok_fin (M := ZcU a0 a1 N) (cd := 1000000) (cm := 0) (r := (.r0 : Zb5)) (fu := 4000) (orc := (Zi [] [] [] [] [])) (live := []) (u := Value.tuple #[Value.agg #[vq, vq, vq, vq, vq, vq, vq, vn], vf]) (bl := []) (ob := []) (fun gv => by kernel_rfl) Zf rfl (by decide) (by rfl) rr trivial

theorem Znq (a0 a1 : Int) (N : Nat) : (ZcU a0 a1 N).Enter Tryz.prog Zt #[vn, Value.agg #[vi a0, vi a1]] (ZgU a0 a1 N) := by
 unfold ZgU
 exact Mach.en_head (bK := ZfO 1) (M := ZcU a0 a1 N) (cd := 1000000) (cm := 0) (y := (.h1m0 : ref16_FindX)) (fu := 4000) (orc := (Zi [] [] [] [] [])) (live := [0, 1]) (tv := [some (vn), some (vp 0 0), some (vp 1 0), some (vq)]) (bl := [some (.cells [vi a0, vi a1] 36), some (.cells [vq, vq, vq, vq, vq, vq, vq, vn] 42)]) (ob := []) rfl rfl (show Zu (ZfO 1).2 = [] from rfl) (by kernel_rfl) Zf rfl (by decide) (by rfl) ⟨rr, ⟨rr, ⟨rr, ⟨rr, trivial⟩⟩⟩⟩ ⟨⟨rfl, ⟨[], by rfl⟩, by rfl⟩, ⟨⟨rfl, ⟨[], by rfl⟩, by rfl⟩, trivial⟩⟩

theorem ZlN (a0 a1 : Int) (N : Nat) (r : Zb5) (h : Zg4 a0 a1 N = some r) : LSpec Tryz.prog 41 #[vn, Value.agg #[vi a0, vi a1]] [] (ZkE a0 a1 r) (Zj6 a0 a1 r) :=
 Mach.spec Za7 (ZcU a0 a1 N) Tryz.func41 (by kernel_rfl) (by kernel_rfl) (fun x => by cases x <;> exact ZQ _ rfl) (fun r => by cases r <;> exact ZQ _ rfl) (fun x => by
  cases x with
  | h1m0 => exact fun _ => (show ¬ (1 ∈ Zu (ZfO 1).2) from by decide +kernel)
  ) (fun x => (show (ZcU a0 a1 N).Ok Tryz.prog Zt x (Zeb a0 a1 N x) from by
  cases x with
  | h1m0 => exact Zld a0 a1 N
  )) (Znq a0 a1 N) (n := N) h

noncomputable def ZgY (a0 a1 : Int) (n : Nat) : Za8 := .call [] (Value.tuple #[Value.agg #[vq, vq, vq, vq, vq, vq, vq, vn], vf]) [] 0
def Zfy (A : Array Value) (a0 a1 : Int) (n : Nat) : Prop := ZD Tryz.prog 41 A [] (Value.tuple #[Value.agg #[vq, vq, vq, vq, vq, vq, vq, vn], vf]) [] n 0

theorem ZgZ (A : Array Value) (a0 a1 : Int) (N : Nat) (h : Zg4 a0 a1 N = some (.r0)) (n : Nat) (hA : A = #[vn, Value.agg #[vi a0, vi a1]]) (hnd : ([] : List Nat).Nodup) (hlt : ∀ k ∈ ([] : List Nat), k < n) : Zfy A a0 a1  n :=
 ZT hA (LSpec.callL (show LSpec Tryz.prog 41 #[vn, Value.agg #[vi a0, vi a1]] [] (Value.tuple #[Value.agg #[vq, vq, vq, vq, vq, vq, vq, vn], vf]) [] from ZlN a0 a1 N _ h) [] n [] rfl hnd hlt (show 0 ≤ 0 from by decide) (show ∀ j ∈ ([] : List Nat), j < 0 from by decide) (by rfl) trivial (by rfl) trivial trivial rfl rfl rfl rfl rfl)

noncomputable def ZkF (a0 a1 a2 : Int) : Zcm → Value
 | .r0 => Value.tuple #[vn, vi (240 : Int)]
noncomputable def Zj7 (a0 a1 a2 : Int) : Zcm → List (Option AObj)
 | .r0 => []

theorem Znr (a0 a1 a2 : Int) (N : Nat) : Fx Tryz.prog Zt Tryz.f13 [] #[vn, Value.agg #[vi a0, vi a1], vi a2] (ZkF a0 a1 a2) (Zj7 a0 a1 a2) (Zdw a0 a1 a2 N) := by
 unfold Zdw
 refine ZeS (fun z0 c0 => ?_)
 cases z0 with
 | r0 =>
  by_cases g1 : a2 < (0 : Int)
  ·
   exact Zq (r := (.r0 : Zcm)) (fu := 4000) (orc := (Zi [(0, true)] [] [] [] [(0, (ZgY (a0) (a1)    1))])) (live := []) (u := Value.tuple #[vn, vi (240 : Int)]) (bl := []) (ob := [((decide (a2 < (0 : Int))), true), (dP (Zfy #[vn, Value.agg #[vi a0, vi a1]] (a0) (a1)    1), true)]) (by kernel_rfl) (oY <| Zb (Zg (ZgZ #[vn, Value.agg #[vi a0, vi a1]] (a0) (a1)   N c0  1 rfl (by decide) (by decide))) Zf) rfl (by decide) (by rfl) rr trivial
  ·
   by_cases g2 : (7 : Int) < a2
   ·
    exact Zq (r := (.r0 : Zcm)) (fu := 4000) (orc := (Zi [(0, false), (1, true)] [] [] [] [(0, (ZgY (a0) (a1)    1))])) (live := []) (u := Value.tuple #[vn, vi (240 : Int)]) (bl := []) (ob := [((decide (a2 > (7 : Int))), true), ((decide (a2 < (0 : Int))), false), (dP (Zfy #[vn, Value.agg #[vi a0, vi a1]] (a0) (a1)    1), true)]) (by kernel_rfl) (oY <| oN <| Zb (Zg (ZgZ #[vn, Value.agg #[vi a0, vi a1]] (a0) (a1)   N c0  1 rfl (by decide) (by decide))) Zf) rfl (by decide) (by rfl) rr trivial
   ·
    exact Zq (r := (.r0 : Zcm)) (fu := 4000) (orc := (Zi [(0, false), (1, false)] [] [] [] [(0, (ZgY (a0) (a1)    1))])) (live := []) (u := Value.tuple #[vn, vi (240 : Int)]) (bl := []) (ob := [((decide (a2 > (7 : Int))), false), ((decide (a2 < (0 : Int))), false), (dP (Zfy #[vn, Value.agg #[vi a0, vi a1]] (a0) (a1)    1), true)]) (by kernel_rfl) (oN <| oN <| Zb (Zg (ZgZ #[vn, Value.agg #[vi a0, vi a1]] (a0) (a1)   N c0  1 rfl (by decide) (by decide))) Zf) rfl (by decide) (by rfl) rr trivial

theorem ZlO (a0 a1 a2 : Int) (N : Nat) (r : Zcm) (h : Zdw a0 a1 a2 N = some r) : LSpec Tryz.prog 13 #[vn, Value.agg #[vi a0, vi a1], vi a2] [] (ZkF a0 a1 a2 r) (Zj7 a0 a1 a2 r) :=
 Zcq Za7 Tryz.func13 (by kernel_rfl) (by kernel_rfl) (fun r => by cases r <;> exact ZQ _ rfl) (Znr a0 a1 a2 N) h

noncomputable def ZoQ (a0 a1 a2 : Int) (n : Nat) : Za8 := .call [] (Value.tuple #[vn, vi (240 : Int)]) [] 0
def Zj8 (A : Array Value) (a0 a1 a2 : Int) (n : Nat) : Prop := ZD Tryz.prog 13 A [] (Value.tuple #[vn, vi (240 : Int)]) [] n 0

theorem ZoR (A : Array Value) (a0 a1 a2 : Int) (N : Nat) (h : Zdw a0 a1 a2 N = some (.r0)) (n : Nat) (hA : A = #[vn, Value.agg #[vi a0, vi a1], vi a2]) (hnd : ([] : List Nat).Nodup) (hlt : ∀ k ∈ ([] : List Nat), k < n) : Zj8 A a0 a1 a2  n :=
 ZT hA (LSpec.callL (show LSpec Tryz.prog 13 #[vn, Value.agg #[vi a0, vi a1], vi a2] [] (Value.tuple #[vn, vi (240 : Int)]) [] from ZlO a0 a1 a2 N _ h) [] n [] rfl hnd hlt (show 0 ≤ 0 from by decide) (show ∀ j ∈ ([] : List Nat), j < 0 from by decide) (by rfl) trivial (by rfl) trivial trivial rfl rfl rfl rfl rfl)

noncomputable def ZkG  : Zb6 → Value
 | .r0 => vT
noncomputable def Zj9  : Zb6 → List (Option AObj)
 | .r0 => []

def ZoS : ZaS → Nat
 | .h1m0 => 1
noncomputable def ZpG  : ZaS → List (Nat × Value)
 | .h1m0 => [(0, vn), (1, vn), (5, vq)]
noncomputable def ZpH  : ZaS → List (Option AObj)
 | .h1m0 => []

noncomputable def ZfP : Nat → Code × List Zar
 | 1 => ZaJ [1, 1, 0, 1, 3] (Zb3 Tryz.f14) []
 | _ => (.skip, [])
def ZoT : Nat → Bool
 | 1 => true
 | _ => true
noncomputable def ZcV  (N : Nat) : Mach := ⟨Tryz.f14, [], ZaS, Zb6, Zec  N, ZoS, ZfP, ZoT, ZpG , ZpH , ZkG , Zj9 ⟩

theorem Zle  (N : Nat) : (ZcV  N).Ok Tryz.prog Zt (.h1m0 : ZaS) (Zec  N (.h1m0 : ZaS)) := by
 show (ZcV  N).Ok Tryz.prog Zt (.h1m0 : ZaS) (Zfh  N)
 unfold Zfh
 exact Mach.ok_fin (M := ZcV  N) (cd := 1000000) (cm := 0) (r := (.r0 : Zb6)) (fu := 4000) (orc := (Zi [] [] [] [] [])) (live := []) (u := vT) (bl := []) (ob := []) (fun gv => by kernel_rfl) Zf rfl (by decide) (by rfl) rr trivial

theorem Zns  (N : Nat) : (ZcV  N).Enter Tryz.prog Zt #[vn, vn] (ZgV  N) := by
 unfold ZgV
 exact Mach.en_head (bK := ZfP 1) (M := ZcV  N) (cd := 1000000) (cm := 0) (y := (.h1m0 : ZaS)) (fu := 4000) (orc := (Zi [] [] [] [] [])) (live := []) (tv := [some (vn), some (vn), some (vq)]) (bl := []) (ob := []) rfl rfl (show Zu (ZfP 1).2 = [] from rfl) (by kernel_rfl) Zf rfl (by decide) (by rfl) ⟨rr, ⟨rr, ⟨rr, trivial⟩⟩⟩ trivial

theorem ZlP  (N : Nat) (r : Zb6) (h : Zed  N = some r) : LSpec Tryz.prog 14 #[vn, vn] [] (ZkG  r) (Zj9  r) :=
 Mach.spec Za7 (ZcV  N) Tryz.func14 (by kernel_rfl) (by kernel_rfl) (fun x => by cases x <;> exact ZQ _ rfl) (fun r => by cases r <;> exact ZQ _ rfl) (fun x => by
  cases x with
  | h1m0 => exact fun _ => (show ¬ (1 ∈ Zu (ZfP 1).2) from by decide +kernel)
  ) (fun x => (show (ZcV  N).Ok Tryz.prog Zt x (Zec  N x) from by
  cases x with
  | h1m0 => exact Zle  N
  )) (Zns  N) (n := N) h

noncomputable def ZdP  (n : Nat) : Za8 := .call [] (vT) [] 0
def Zdj (A : Array Value)  (n : Nat) : Prop := ZD Tryz.prog 14 A [] (vT) [] n 0

theorem ZdQ (A : Array Value)  (N : Nat) (h : Zed  N = some (.r0)) (n : Nat) (hA : A = #[vn, vn]) (hnd : ([] : List Nat).Nodup) (hlt : ∀ k ∈ ([] : List Nat), k < n) : Zdj A   n :=
 ZT hA (LSpec.callL (show LSpec Tryz.prog 14 #[vn, vn] [] (vT) [] from ZlP  N _ h) [] n [] rfl hnd hlt (show 0 ≤ 0 from by decide) (show ∀ j ∈ ([] : List Nat), j < 0 from by decide) (by rfl) trivial (by rfl) trivial trivial rfl rfl rfl rfl rfl)

noncomputable def ZkH (a0 a1 a2 a3 a4 : Int) : Za4 → Value
 | .r0 => Value.tuple #[vs 0 0 1 1, vT]
 | .r1 w0 => Value.tuple #[vn, Value.bool w0]
noncomputable def ZjA (a0 a1 a2 a3 a4 : Int) : Za4 → List (Option AObj)
 | .r0 => [some (.cells (Zd E_ii ([(⟨a4, (0 : Int)⟩ : R_ii)] : List R_ii)) 102)]
 | .r1 w0 => []

theorem Znt (a0 a1 a2 a3 a4 : Int) (N : Nat) : Fx Tryz.prog Zt Tryz.f57 [] #[vn, Value.agg #[vi a0, vi a1, vi a2, vi a3], vi a4] (ZkH a0 a1 a2 a3 a4) (ZjA a0 a1 a2 a3 a4) (Zdx a0 a1 a2 a3 a4 N) := by
 unfold Zdx
 refine Zv (fun g0 => ?_) (fun g0 => ?_)
 ·
  exact Zq (r := (.r0 : Za4)) (fu := 4000) (orc := (Zi [(0, true)] [] [] [] [])) (live := [3]) (u := Value.tuple #[vs 3 0 1 1, vT]) (bl := [some (.cells [vi a4, vq] 102)]) (ob := [((a0 == (15 : Int)), true)]) (by kernel_rfl) (oT Zf) rfl (by decide) (by rfl) rr ⟨(ZcK (E := E_ii) _ (L := ([(⟨a4, (0 : Int)⟩ : R_ii)] : List R_ii)) _ (show ([vi a4, vq] : List Value) = Zd E_ii ([(⟨a4, (0 : Int)⟩ : R_ii)] : List R_ii) from rfl)), trivial⟩
 ·
  refine Zv (fun g1 => ?_) (fun g1 => ?_)
  ·
   exact Zq (r := (.r1 (false) : Za4)) (fu := 4000) (orc := (Zi [(0, false), (1, true)] [] [] [] [])) (live := []) (u := Value.tuple #[vn, vf]) (bl := []) (ob := [((a0 == (16 : Int)), true), ((a0 == (15 : Int)), false)]) (by kernel_rfl) (oT <| oF Zf) rfl (by decide) (by rfl) rr trivial
  ·
   refine Zv (fun g2 => ?_) (fun g2 => ?_)
   ·
    exact Zq (r := (.r1 (false) : Za4)) (fu := 4000) (orc := (Zi [(0, false), (1, false), (2, true)] [] [] [] [])) (live := []) (u := Value.tuple #[vn, vf]) (bl := []) (ob := [((a0 == (17 : Int)), true), ((a0 == (16 : Int)), false), ((a0 == (15 : Int)), false)]) (by kernel_rfl) (oT <| oF <| oF Zf) rfl (by decide) (by rfl) rr trivial
   ·
    refine Zv (fun g3 => ?_) (fun g3 => ?_)
    ·
     exact Zq (r := (.r1 (false) : Za4)) (fu := 4000) (orc := (Zi [(0, false), (1, false), (2, false), (3, true)] [] [] [] [])) (live := []) (u := Value.tuple #[vn, vf]) (bl := []) (ob := [((a0 == (18 : Int)), true), ((a0 == (17 : Int)), false), ((a0 == (16 : Int)), false), ((a0 == (15 : Int)), false)]) (by kernel_rfl) (oT <| oF <| oF <| oF Zf) rfl (by decide) (by rfl) rr trivial
    ·
     by_cases g4 : a0 = (20 : Int)
     ·
      exact Zq (r := (.r1 (true) : Za4)) (fu := 4000) (orc := (Zi [(0, false), (1, false), (2, false), (3, false), (4, true)] [] [] [] [])) (live := []) (u := Value.tuple #[vn, vT]) (bl := []) (ob := [((a0 == (20 : Int)), true), ((a0 == (18 : Int)), false), ((a0 == (17 : Int)), false), ((a0 == (16 : Int)), false), ((a0 == (15 : Int)), false)]) (by kernel_rfl) (oT <| oF <| oF <| oF <| oF Zf) rfl (by decide) (by rfl) rr trivial
     ·
      exact Zq (r := (.r1 (true) : Za4)) (fu := 4000) (orc := (Zi [(0, false), (1, false), (2, false), (3, false), (4, false)] [] [] [] [])) (live := []) (u := Value.tuple #[vn, vT]) (bl := []) (ob := [((a0 == (20 : Int)), false), ((a0 == (18 : Int)), false), ((a0 == (17 : Int)), false), ((a0 == (16 : Int)), false), ((a0 == (15 : Int)), false)]) (by kernel_rfl) (oF <| oF <| oF <| oF <| oF Zf) rfl (by decide) (by rfl) rr trivial

theorem Zht (a0 a1 a2 a3 a4 : Int) (N : Nat) (r : Za4) (h : Zdx a0 a1 a2 a3 a4 N = some r) : LSpec Tryz.prog 57 #[vn, Value.agg #[vi a0, vi a1, vi a2, vi a3], vi a4] [] (ZkH a0 a1 a2 a3 a4 r) (ZjA a0 a1 a2 a3 a4 r) :=
 Zcq Za7 Tryz.func57 (by kernel_rfl) (by kernel_rfl) (fun r => by cases r <;> exact ZQ _ rfl) (Znt a0 a1 a2 a3 a4 N) h

noncomputable def Zha (a0 a1 a2 a3 a4 : Int) (n : Nat) : Za8 := .call [] (Value.tuple #[vs n 0 1 1, vT]) [(n, some (.cells (Zd E_ii ([(⟨a4, (0 : Int)⟩ : R_ii)] : List R_ii)) 102))] 1
def Zfz (A : Array Value) (a0 a1 a2 a3 a4 : Int) (n : Nat) : Prop := ZD Tryz.prog 57 A [] (Value.tuple #[vs n 0 1 1, vT]) [(n, some (.cells (Zd E_ii ([(⟨a4, (0 : Int)⟩ : R_ii)] : List R_ii)) 102))] n 1

theorem Zhb (A : Array Value) (a0 a1 a2 a3 a4 : Int) (N : Nat) (h : Zdx a0 a1 a2 a3 a4 N = some (.r0)) (n : Nat) (hA : A = #[vn, Value.agg #[vi a0, vi a1, vi a2, vi a3], vi a4]) (hnd : ([] : List Nat).Nodup) (hlt : ∀ k ∈ ([] : List Nat), k < n) : Zfz A a0 a1 a2 a3 a4  n :=
 ZT hA (LSpec.callL (show LSpec Tryz.prog 57 #[vn, Value.agg #[vi a0, vi a1, vi a2, vi a3], vi a4] [] (Value.tuple #[vs 0 0 1 1, vT]) [some (.cells (Zd E_ii ([(⟨a4, (0 : Int)⟩ : R_ii)] : List R_ii)) 102)] from Zht a0 a1 a2 a3 a4 N _ h) [] n [0] rfl hnd hlt (show 0 ≤ 1 from by decide) (show ∀ j ∈ ([0] : List Nat), j < 1 from by decide) (by rfl) trivial (by rfl) ⟨(Z5 _ _ _), trivial⟩ ⟨(by decide), trivial⟩ rfl rfl rfl rfl (Za (ZC rfl (ZbH (Zad _ _ _))) rfl))

noncomputable def Zf0 (a0 a1 a2 a3 a4 : Int) (w0 : Bool) (n : Nat) : Za8 := .call [] (Value.tuple #[vn, Value.bool w0]) [] 0
def ZdR (A : Array Value) (a0 a1 a2 a3 a4 : Int) (w0 : Bool) (n : Nat) : Prop := ZD Tryz.prog 57 A [] (Value.tuple #[vn, Value.bool w0]) [] n 0

theorem Zf1 (A : Array Value) (a0 a1 a2 a3 a4 : Int) (w0 : Bool) (N : Nat) (h : Zdx a0 a1 a2 a3 a4 N = some (.r1 w0)) (n : Nat) (hA : A = #[vn, Value.agg #[vi a0, vi a1, vi a2, vi a3], vi a4]) (hnd : ([] : List Nat).Nodup) (hlt : ∀ k ∈ ([] : List Nat), k < n) : ZdR A a0 a1 a2 a3 a4 w0  n :=
 ZT hA (LSpec.callL (show LSpec Tryz.prog 57 #[vn, Value.agg #[vi a0, vi a1, vi a2, vi a3], vi a4] [] (Value.tuple #[vn, Value.bool w0]) [] from Zht a0 a1 a2 a3 a4 N _ h) [] n [] rfl hnd hlt (show 0 ≤ 0 from by decide) (show ∀ j ∈ ([] : List Nat), j < 0 from by decide) (by rfl) trivial (by rfl) trivial trivial rfl rfl rfl rfl rfl)

noncomputable def ZlQ (a0 : Int) : Z1 → Value
 | .r0 w0 w1 w2 w3 => Value.tuple #[Value.agg #[vi w0, vi w1, vi w2], Value.bool w3]
noncomputable def ZkI (a0 : Int) : Z1 → List (Option AObj)
 | .r0 w0 w1 w2 w3 => []

theorem ZoU (a0 : Int) (N : Nat) : Fx Tryz.prog Zt Tryz.f71 [] #[vi a0] (ZlQ a0) (ZkI a0) (Zgg a0 N) := by
 unfold Zgg
 refine Zv (fun g0 => ?_) (fun g0 => ?_)
 ·
  exact Zq (r := (.r0 ((1 : Int)) ((2 : Int)) ((0 : Int)) (true) : Z1)) (fu := 4000) (orc := (Zi [(0, true)] [] [] [] [])) (live := []) (u := Value.tuple #[Value.agg #[vi (1 : Int), vi (2 : Int), vq], vT]) (bl := []) (ob := [((a0 == (1 : Int)), true)]) (by kernel_rfl) (oT Zf) rfl (by decide) (by rfl) rr trivial
 ·
  refine Zv (fun g1 => ?_) (fun g1 => ?_)
  ·
   exact Zq (r := (.r0 ((1 : Int)) ((0 : Int)) ((0 : Int)) (true) : Z1)) (fu := 4000) (orc := (Zi [(0, false), (1, true)] [] [] [] [])) (live := []) (u := Value.tuple #[Value.agg #[vi (1 : Int), vq, vq], vT]) (bl := []) (ob := [((a0 == (2 : Int)), true), ((a0 == (1 : Int)), false)]) (by kernel_rfl) (oT <| oF Zf) rfl (by decide) (by rfl) rr trivial
  ·
   refine Zv (fun g2 => ?_) (fun g2 => ?_)
   ·
    exact Zq (r := (.r0 ((1 : Int)) ((0 : Int)) ((0 : Int)) (true) : Z1)) (fu := 4000) (orc := (Zi [(0, false), (1, false), (2, true)] [] [] [] [])) (live := []) (u := Value.tuple #[Value.agg #[vi (1 : Int), vq, vq], vT]) (bl := []) (ob := [((a0 == (10 : Int)), true), ((a0 == (2 : Int)), false), ((a0 == (1 : Int)), false)]) (by kernel_rfl) (oT <| oF <| oF Zf) rfl (by decide) (by rfl) rr trivial
   ·
    refine Zv (fun g3 => ?_) (fun g3 => ?_)
    ·
     exact Zq (r := (.r0 ((1 : Int)) ((0 : Int)) ((0 : Int)) (true) : Z1)) (fu := 4000) (orc := (Zi [(0, false), (1, false), (2, false), (3, true)] [] [] [] [])) (live := []) (u := Value.tuple #[Value.agg #[vi (1 : Int), vq, vq], vT]) (bl := []) (ob := [((a0 == (12 : Int)), true), ((a0 == (10 : Int)), false), ((a0 == (2 : Int)), false), ((a0 == (1 : Int)), false)]) (by kernel_rfl) (oT <| oF <| oF <| oF Zf) rfl (by decide) (by rfl) rr trivial
    ·
     refine Zv (fun g4 => ?_) (fun g4 => ?_)
     ·
      exact Zq (r := (.r0 ((1 : Int)) ((0 : Int)) ((0 : Int)) (true) : Z1)) (fu := 4000) (orc := (Zi [(0, false), (1, false), (2, false), (3, false), (4, true)] [] [] [] [])) (live := []) (u := Value.tuple #[Value.agg #[vi (1 : Int), vq, vq], vT]) (bl := []) (ob := [((a0 == (19 : Int)), true), ((a0 == (12 : Int)), false), ((a0 == (10 : Int)), false), ((a0 == (2 : Int)), false), ((a0 == (1 : Int)), false)]) (by kernel_rfl) (oT <| oF <| oF <| oF <| oF Zf) rfl (by decide) (by rfl) rr trivial
     ·
      refine Zv (fun g5 => ?_) (fun g5 => ?_)
      ·
       exact Zq (r := (.r0 ((1 : Int)) ((1 : Int)) ((0 : Int)) (true) : Z1)) (fu := 4000) (orc := (Zi [(0, false), (1, false), (2, false), (3, false), (4, false), (5, true)] [] [] [] [])) (live := []) (u := Value.tuple #[Value.agg #[vi (1 : Int), vi (1 : Int), vq], vT]) (bl := []) (ob := [((a0 == (3 : Int)), true), ((a0 == (19 : Int)), false), ((a0 == (12 : Int)), false), ((a0 == (10 : Int)), false), ((a0 == (2 : Int)), false), ((a0 == (1 : Int)), false)]) (by kernel_rfl) (oT <| oF <| oF <| oF <| oF <| oF Zf) rfl (by decide) (by rfl) rr trivial
      ·
       refine Zv (fun g6 => ?_) (fun g6 => ?_)
       ·
        exact Zq (r := (.r0 ((1 : Int)) ((1 : Int)) ((1 : Int)) (true) : Z1)) (fu := 4000) (orc := (Zi [(0, false), (1, false), (2, false), (3, false), (4, false), (5, false), (6, true)] [] [] [] [])) (live := []) (u := Value.tuple #[Value.agg #[vi (1 : Int), vi (1 : Int), vi (1 : Int)], vT]) (bl := []) (ob := [((a0 == (4 : Int)), true), ((a0 == (3 : Int)), false), ((a0 == (19 : Int)), false), ((a0 == (12 : Int)), false), ((a0 == (10 : Int)), false), ((a0 == (2 : Int)), false), ((a0 == (1 : Int)), false)]) (by kernel_rfl) (oT <| oF <| oF <| oF <| oF <| oF <| oF Zf) rfl (by decide) (by rfl) rr trivial
       ·
        refine Zv (fun g7 => ?_) (fun g7 => ?_)
        ·
         exact Zq (r := (.r0 ((1 : Int)) ((1 : Int)) ((1 : Int)) (true) : Z1)) (fu := 4000) (orc := (Zi [(0, false), (1, false), (2, false), (3, false), (4, false), (5, false), (6, false), (7, true)] [] [] [] [])) (live := []) (u := Value.tuple #[Value.agg #[vi (1 : Int), vi (1 : Int), vi (1 : Int)], vT]) (bl := []) (ob := [((a0 == (5 : Int)), true), ((a0 == (4 : Int)), false), ((a0 == (3 : Int)), false), ((a0 == (19 : Int)), false), ((a0 == (12 : Int)), false), ((a0 == (10 : Int)), false), ((a0 == (2 : Int)), false), ((a0 == (1 : Int)), false)]) (by kernel_rfl) (oT <| oF <| oF <| oF <| oF <| oF <| oF <| oF Zf) rfl (by decide) (by rfl) rr trivial
        ·
         refine Zv (fun g8 => ?_) (fun g8 => ?_)
         ·
          exact Zq (r := (.r0 ((1 : Int)) ((1 : Int)) ((1 : Int)) (true) : Z1)) (fu := 4000) (orc := (Zi [(0, false), (1, false), (2, false), (3, false), (4, false), (5, false), (6, false), (7, false), (8, true)] [] [] [] [])) (live := []) (u := Value.tuple #[Value.agg #[vi (1 : Int), vi (1 : Int), vi (1 : Int)], vT]) (bl := []) (ob := [((a0 == (6 : Int)), true), ((a0 == (5 : Int)), false), ((a0 == (4 : Int)), false), ((a0 == (3 : Int)), false), ((a0 == (19 : Int)), false), ((a0 == (12 : Int)), false), ((a0 == (10 : Int)), false), ((a0 == (2 : Int)), false), ((a0 == (1 : Int)), false)]) (by kernel_rfl) (oT <| oF <| oF <| oF <| oF <| oF <| oF <| oF <| oF Zf) rfl (by decide) (by rfl) rr trivial
         ·
          refine Zv (fun g9 => ?_) (fun g9 => ?_)
          ·
           exact Zq (r := (.r0 ((1 : Int)) ((1 : Int)) ((1 : Int)) (true) : Z1)) (fu := 4000) (orc := (Zi [(0, false), (1, false), (2, false), (3, false), (4, false), (5, false), (6, false), (7, false), (8, false), (9, true)] [] [] [] [])) (live := []) (u := Value.tuple #[Value.agg #[vi (1 : Int), vi (1 : Int), vi (1 : Int)], vT]) (bl := []) (ob := [((a0 == (7 : Int)), true), ((a0 == (6 : Int)), false), ((a0 == (5 : Int)), false), ((a0 == (4 : Int)), false), ((a0 == (3 : Int)), false), ((a0 == (19 : Int)), false), ((a0 == (12 : Int)), false), ((a0 == (10 : Int)), false), ((a0 == (2 : Int)), false), ((a0 == (1 : Int)), false)]) (by kernel_rfl) (oT <| oF <| oF <| oF <| oF <| oF <| oF <| oF <| oF <| oF Zf) rfl (by decide) (by rfl) rr trivial
          ·
           refine Zv (fun g10 => ?_) (fun g10 => ?_)
           ·
            exact Zq (r := (.r0 ((3 : Int)) ((0 : Int)) ((0 : Int)) (true) : Z1)) (fu := 4000) (orc := (Zi [(0, false), (1, false), (2, false), (3, false), (4, false), (5, false), (6, false), (7, false), (8, false), (9, false), (10, true)] [] [] [] [])) (live := []) (u := Value.tuple #[Value.agg #[vi (3 : Int), vq, vq], vT]) (bl := []) (ob := [((a0 == (8 : Int)), true), ((a0 == (7 : Int)), false), ((a0 == (6 : Int)), false), ((a0 == (5 : Int)), false), ((a0 == (4 : Int)), false), ((a0 == (3 : Int)), false), ((a0 == (19 : Int)), false), ((a0 == (12 : Int)), false), ((a0 == (10 : Int)), false), ((a0 == (2 : Int)), false), ((a0 == (1 : Int)), false)]) (by kernel_rfl) (oT <| oF <| oF <| oF <| oF <| oF <| oF <| oF <| oF <| oF <| oF Zf) rfl (by decide) (by rfl) rr trivial
           ·
            refine Zv (fun g11 => ?_) (fun g11 => ?_)
            ·
             exact Zq (r := (.r0 ((1 : Int)) ((3 : Int)) ((0 : Int)) (true) : Z1)) (fu := 4000) (orc := (Zi [(0, false), (1, false), (2, false), (3, false), (4, false), (5, false), (6, false), (7, false), (8, false), (9, false), (10, false), (11, true)] [] [] [] [])) (live := []) (u := Value.tuple #[Value.agg #[vi (1 : Int), vi (3 : Int), vq], vT]) (bl := []) (ob := [((a0 == (9 : Int)), true), ((a0 == (8 : Int)), false), ((a0 == (7 : Int)), false), ((a0 == (6 : Int)), false), ((a0 == (5 : Int)), false), ((a0 == (4 : Int)), false), ((a0 == (3 : Int)), false), ((a0 == (19 : Int)), false), ((a0 == (12 : Int)), false), ((a0 == (10 : Int)), false), ((a0 == (2 : Int)), false), ((a0 == (1 : Int)), false)]) (by kernel_rfl) (oT <| oF <| oF <| oF <| oF <| oF <| oF <| oF <| oF <| oF <| oF <| oF Zf) rfl (by decide) (by rfl) rr trivial
            ·
             refine Zv (fun g12 => ?_) (fun g12 => ?_)
             ·
              exact Zq (r := (.r0 ((1 : Int)) ((5 : Int)) ((6 : Int)) (true) : Z1)) (fu := 4000) (orc := (Zi [(0, false), (1, false), (2, false), (3, false), (4, false), (5, false), (6, false), (7, false), (8, false), (9, false), (10, false), (11, false), (12, true)] [] [] [] [])) (live := []) (u := Value.tuple #[Value.agg #[vi (1 : Int), vi (5 : Int), vi (6 : Int)], vT]) (bl := []) (ob := [((a0 == (11 : Int)), true), ((a0 == (9 : Int)), false), ((a0 == (8 : Int)), false), ((a0 == (7 : Int)), false), ((a0 == (6 : Int)), false), ((a0 == (5 : Int)), false), ((a0 == (4 : Int)), false), ((a0 == (3 : Int)), false), ((a0 == (19 : Int)), false), ((a0 == (12 : Int)), false), ((a0 == (10 : Int)), false), ((a0 == (2 : Int)), false), ((a0 == (1 : Int)), false)]) (by kernel_rfl) (oT <| oF <| oF <| oF <| oF <| oF <| oF <| oF <| oF <| oF <| oF <| oF <| oF Zf) rfl (by decide) (by rfl) rr trivial
             ·
              refine Zv (fun g13 => ?_) (fun g13 => ?_)
              ·
               exact Zq (r := (.r0 ((1 : Int)) ((1 : Int)) ((4 : Int)) (true) : Z1)) (fu := 4000) (orc := (Zi [(0, false), (1, false), (2, false), (3, false), (4, false), (5, false), (6, false), (7, false), (8, false), (9, false), (10, false), (11, false), (12, false), (13, true)] [] [] [] [])) (live := []) (u := Value.tuple #[Value.agg #[vi (1 : Int), vi (1 : Int), vi (4 : Int)], vT]) (bl := []) (ob := [((a0 == (13 : Int)), true), ((a0 == (11 : Int)), false), ((a0 == (9 : Int)), false), ((a0 == (8 : Int)), false), ((a0 == (7 : Int)), false), ((a0 == (6 : Int)), false), ((a0 == (5 : Int)), false), ((a0 == (4 : Int)), false), ((a0 == (3 : Int)), false), ((a0 == (19 : Int)), false), ((a0 == (12 : Int)), false), ((a0 == (10 : Int)), false), ((a0 == (2 : Int)), false), ((a0 == (1 : Int)), false)]) (by kernel_rfl) (oT <| oF <| oF <| oF <| oF <| oF <| oF <| oF <| oF <| oF <| oF <| oF <| oF <| oF Zf) rfl (by decide) (by rfl) rr trivial
              ·
               refine Zv (fun g14 => ?_) (fun g14 => ?_)
               ·
                exact Zq (r := (.r0 ((1 : Int)) ((4 : Int)) ((1 : Int)) (true) : Z1)) (fu := 4000) (orc := (Zi [(0, false), (1, false), (2, false), (3, false), (4, false), (5, false), (6, false), (7, false), (8, false), (9, false), (10, false), (11, false), (12, false), (13, false), (14, true)] [] [] [] [])) (live := []) (u := Value.tuple #[Value.agg #[vi (1 : Int), vi (4 : Int), vi (1 : Int)], vT]) (bl := []) (ob := [((a0 == (14 : Int)), true), ((a0 == (13 : Int)), false), ((a0 == (11 : Int)), false), ((a0 == (9 : Int)), false), ((a0 == (8 : Int)), false), ((a0 == (7 : Int)), false), ((a0 == (6 : Int)), false), ((a0 == (5 : Int)), false), ((a0 == (4 : Int)), false), ((a0 == (3 : Int)), false), ((a0 == (19 : Int)), false), ((a0 == (12 : Int)), false), ((a0 == (10 : Int)), false), ((a0 == (2 : Int)), false), ((a0 == (1 : Int)), false)]) (by kernel_rfl) (oT <| oF <| oF <| oF <| oF <| oF <| oF <| oF <| oF <| oF <| oF <| oF <| oF <| oF <| oF Zf) rfl (by decide) (by rfl) rr trivial
               ·
                refine Zv (fun g15 => ?_) (fun g15 => ?_)
                ·
                 exact Zq (r := (.r0 ((0 : Int)) ((0 : Int)) ((0 : Int)) (true) : Z1)) (fu := 4000) (orc := (Zi [(0, false), (1, false), (2, false), (3, false), (4, false), (5, false), (6, false), (7, false), (8, false), (9, false), (10, false), (11, false), (12, false), (13, false), (14, false), (15, true)] [] [] [] [])) (live := []) (u := Value.tuple #[Value.agg #[vq, vq, vq], vT]) (bl := []) (ob := [((a0 == (15 : Int)), true), ((a0 == (14 : Int)), false), ((a0 == (13 : Int)), false), ((a0 == (11 : Int)), false), ((a0 == (9 : Int)), false), ((a0 == (8 : Int)), false), ((a0 == (7 : Int)), false), ((a0 == (6 : Int)), false), ((a0 == (5 : Int)), false), ((a0 == (4 : Int)), false), ((a0 == (3 : Int)), false), ((a0 == (19 : Int)), false), ((a0 == (12 : Int)), false), ((a0 == (10 : Int)), false), ((a0 == (2 : Int)), false), ((a0 == (1 : Int)), false)]) (by kernel_rfl) (oT <| oF <| oF <| oF <| oF <| oF <| oF <| oF <| oF <| oF <| oF <| oF <| oF <| oF <| oF <| oF Zf) rfl (by decide) (by rfl) rr trivial
                ·
                 refine Zv (fun g16 => ?_) (fun g16 => ?_)
                 ·
                  exact Zq (r := (.r0 ((0 : Int)) ((0 : Int)) ((0 : Int)) (true) : Z1)) (fu := 4000) (orc := (Zi [(0, false), (1, false), (2, false), (3, false), (4, false), (5, false), (6, false), (7, false), (8, false), (9, false), (10, false), (11, false), (12, false), (13, false), (14, false), (15, false), (16, true)] [] [] [] [])) (live := []) (u := Value.tuple #[Value.agg #[vq, vq, vq], vT]) (bl := []) (ob := [((a0 == (16 : Int)), true), ((a0 == (15 : Int)), false), ((a0 == (14 : Int)), false), ((a0 == (13 : Int)), false), ((a0 == (11 : Int)), false), ((a0 == (9 : Int)), false), ((a0 == (8 : Int)), false), ((a0 == (7 : Int)), false), ((a0 == (6 : Int)), false), ((a0 == (5 : Int)), false), ((a0 == (4 : Int)), false), ((a0 == (3 : Int)), false), ((a0 == (19 : Int)), false), ((a0 == (12 : Int)), false), ((a0 == (10 : Int)), false), ((a0 == (2 : Int)), false), ((a0 == (1 : Int)), false)]) (by kernel_rfl) (oT <| oF <| oF <| oF <| oF <| oF <| oF <| oF <| oF <| oF <| oF <| oF <| oF <| oF <| oF <| oF <| oF Zf) rfl (by decide) (by rfl) rr trivial
                 ·
                  refine Zv (fun g17 => ?_) (fun g17 => ?_)
                  ·
                   exact Zq (r := (.r0 ((0 : Int)) ((0 : Int)) ((0 : Int)) (true) : Z1)) (fu := 4000) (orc := (Zi [(0, false), (1, false), (2, false), (3, false), (4, false), (5, false), (6, false), (7, false), (8, false), (9, false), (10, false), (11, false), (12, false), (13, false), (14, false), (15, false), (16, false), (17, true)] [] [] [] [])) (live := []) (u := Value.tuple #[Value.agg #[vq, vq, vq], vT]) (bl := []) (ob := [((a0 == (17 : Int)), true), ((a0 == (16 : Int)), false), ((a0 == (15 : Int)), false), ((a0 == (14 : Int)), false), ((a0 == (13 : Int)), false), ((a0 == (11 : Int)), false), ((a0 == (9 : Int)), false), ((a0 == (8 : Int)), false), ((a0 == (7 : Int)), false), ((a0 == (6 : Int)), false), ((a0 == (5 : Int)), false), ((a0 == (4 : Int)), false), ((a0 == (3 : Int)), false), ((a0 == (19 : Int)), false), ((a0 == (12 : Int)), false), ((a0 == (10 : Int)), false), ((a0 == (2 : Int)), false), ((a0 == (1 : Int)), false)]) (by kernel_rfl) (oT <| oF <| oF <| oF <| oF <| oF <| oF <| oF <| oF <| oF <| oF <| oF <| oF <| oF <| oF <| oF <| oF <| oF Zf) rfl (by decide) (by rfl) rr trivial
                  ·
                   refine Zv (fun g18 => ?_) (fun g18 => ?_)
                   ·
                    exact Zq (r := (.r0 ((0 : Int)) ((0 : Int)) ((0 : Int)) (true) : Z1)) (fu := 4000) (orc := (Zi [(0, false), (1, false), (2, false), (3, false), (4, false), (5, false), (6, false), (7, false), (8, false), (9, false), (10, false), (11, false), (12, false), (13, false), (14, false), (15, false), (16, false), (17, false), (18, true)] [] [] [] [])) (live := []) (u := Value.tuple #[Value.agg #[vq, vq, vq], vT]) (bl := []) (ob := [((a0 == (18 : Int)), true), ((a0 == (17 : Int)), false), ((a0 == (16 : Int)), false), ((a0 == (15 : Int)), false), ((a0 == (14 : Int)), false), ((a0 == (13 : Int)), false), ((a0 == (11 : Int)), false), ((a0 == (9 : Int)), false), ((a0 == (8 : Int)), false), ((a0 == (7 : Int)), false), ((a0 == (6 : Int)), false), ((a0 == (5 : Int)), false), ((a0 == (4 : Int)), false), ((a0 == (3 : Int)), false), ((a0 == (19 : Int)), false), ((a0 == (12 : Int)), false), ((a0 == (10 : Int)), false), ((a0 == (2 : Int)), false), ((a0 == (1 : Int)), false)]) (by kernel_rfl) (oT <| oF <| oF <| oF <| oF <| oF <| oF <| oF <| oF <| oF <| oF <| oF <| oF <| oF <| oF <| oF <| oF <| oF <| oF Zf) rfl (by decide) (by rfl) rr trivial
                   ·
                    refine Zv (fun g19 => ?_) (fun g19 => ?_)
                    ·
                     exact Zq (r := (.r0 ((0 : Int)) ((0 : Int)) ((0 : Int)) (true) : Z1)) (fu := 4000) (orc := (Zi [(0, false), (1, false), (2, false), (3, false), (4, false), (5, false), (6, false), (7, false), (8, false), (9, false), (10, false), (11, false), (12, false), (13, false), (14, false), (15, false), (16, false), (17, false), (18, false), (19, true)] [] [] [] [])) (live := []) (u := Value.tuple #[Value.agg #[vq, vq, vq], vT]) (bl := []) (ob := [((a0 == (20 : Int)), true), ((a0 == (18 : Int)), false), ((a0 == (17 : Int)), false), ((a0 == (16 : Int)), false), ((a0 == (15 : Int)), false), ((a0 == (14 : Int)), false), ((a0 == (13 : Int)), false), ((a0 == (11 : Int)), false), ((a0 == (9 : Int)), false), ((a0 == (8 : Int)), false), ((a0 == (7 : Int)), false), ((a0 == (6 : Int)), false), ((a0 == (5 : Int)), false), ((a0 == (4 : Int)), false), ((a0 == (3 : Int)), false), ((a0 == (19 : Int)), false), ((a0 == (12 : Int)), false), ((a0 == (10 : Int)), false), ((a0 == (2 : Int)), false), ((a0 == (1 : Int)), false)]) (by kernel_rfl) (oT <| oF <| oF <| oF <| oF <| oF <| oF <| oF <| oF <| oF <| oF <| oF <| oF <| oF <| oF <| oF <| oF <| oF <| oF <| oF Zf) rfl (by decide) (by rfl) rr trivial
                    ·
                     exact Zq (r := (.r0 ((0 : Int)) ((0 : Int)) ((0 : Int)) (false) : Z1)) (fu := 4000) (orc := (Zi [(0, false), (1, false), (2, false), (3, false), (4, false), (5, false), (6, false), (7, false), (8, false), (9, false), (10, false), (11, false), (12, false), (13, false), (14, false), (15, false), (16, false), (17, false), (18, false), (19, false)] [] [] [] [])) (live := []) (u := Value.tuple #[Value.agg #[vq, vq, vq], vf]) (bl := []) (ob := [((a0 == (20 : Int)), false), ((a0 == (18 : Int)), false), ((a0 == (17 : Int)), false), ((a0 == (16 : Int)), false), ((a0 == (15 : Int)), false), ((a0 == (14 : Int)), false), ((a0 == (13 : Int)), false), ((a0 == (11 : Int)), false), ((a0 == (9 : Int)), false), ((a0 == (8 : Int)), false), ((a0 == (7 : Int)), false), ((a0 == (6 : Int)), false), ((a0 == (5 : Int)), false), ((a0 == (4 : Int)), false), ((a0 == (3 : Int)), false), ((a0 == (19 : Int)), false), ((a0 == (12 : Int)), false), ((a0 == (10 : Int)), false), ((a0 == (2 : Int)), false), ((a0 == (1 : Int)), false)]) (by kernel_rfl) (oF <| oF <| oF <| oF <| oF <| oF <| oF <| oF <| oF <| oF <| oF <| oF <| oF <| oF <| oF <| oF <| oF <| oF <| oF <| oF Zf) rfl (by decide) (by rfl) rr trivial

theorem Zm2 (a0 : Int) (N : Nat) (r : Z1) (h : Zgg a0 N = some r) : LSpec Tryz.prog 71 #[vi a0] [] (ZlQ a0 r) (ZkI a0 r) :=
 Zcq Za7 Tryz.func71 (by kernel_rfl) (by kernel_rfl) (fun r => by cases r <;> exact ZQ _ rfl) (ZoU a0 N) h

noncomputable def Zez (a0 w0 w1 w2 : Int) (w3 : Bool) (n : Nat) : Za8 := .call [] (Value.tuple #[Value.agg #[vi w0, vi w1, vi w2], Value.bool w3]) [] 0
def ZdA (A : Array Value) (a0 w0 w1 w2 : Int) (w3 : Bool) (n : Nat) : Prop := ZD Tryz.prog 71 A [] (Value.tuple #[Value.agg #[vi w0, vi w1, vi w2], Value.bool w3]) [] n 0

theorem Ze0 (A : Array Value) (a0 w0 w1 w2 : Int) (w3 : Bool) (N : Nat) (h : Zgg a0 N = some (.r0 w0 w1 w2 w3)) (n : Nat) (hA : A = #[vi a0]) (hnd : ([] : List Nat).Nodup) (hlt : ∀ k ∈ ([] : List Nat), k < n) : ZdA A a0 w0 w1 w2 w3  n :=
 ZT hA (LSpec.callL (show LSpec Tryz.prog 71 #[vi a0] [] (Value.tuple #[Value.agg #[vi w0, vi w1, vi w2], Value.bool w3]) [] from Zm2 a0 N _ h) [] n [] rfl hnd hlt (show 0 ≤ 0 from by decide) (show ∀ j ∈ ([] : List Nat), j < 0 from by decide) (by rfl) trivial (by rfl) trivial trivial rfl rfl rfl rfl rfl)

noncomputable def ZkJ (a0 a1 a2 : Int) : Zs → Value
 | .r0 w0 => Value.bool w0
noncomputable def ZjB (a0 a1 a2 : Int) : Zs → List (Option AObj)
 | .r0 w0 => []

theorem Znu (a0 a1 a2 : Int) (N : Nat) : Fx Tryz.prog Zt Tryz.f72 [] #[vi a0, vi a1, vi a2] (ZkJ a0 a1 a2) (ZjB a0 a1 a2) (Zdy a0 a1 a2 N) := by
 unfold Zdy
 refine Zv (fun g0 => ?_) (fun g0 => ?_)
 ·
  refine Zv (fun g1 => ?_) (fun g1 => ?_)
  ·
   refine Zv (fun g2 => ?_) (fun g2 => ?_)
   ·
    exact Zq (r := (.r0 (true) : Zs)) (fu := 4000) (orc := (Zi [(0, true), (1, true), (2, true)] [] [] [] [])) (live := []) (u := vT) (bl := []) (ob := [((decide (a1 < (8 : Int))), true), ((decide (a1 ≥ (0 : Int))), true), ((a0 == (1 : Int)), true)]) (by kernel_rfl) (oY <| oY <| oT Zf) rfl (by decide) (by rfl) rr trivial
   ·
    exact Zq (r := (.r0 (false) : Zs)) (fu := 4000) (orc := (Zi [(0, true), (1, true), (2, false)] [] [] [] [])) (live := []) (u := vf) (bl := []) (ob := [((decide (a1 < (8 : Int))), false), ((decide (a1 ≥ (0 : Int))), true), ((a0 == (1 : Int)), true)]) (by kernel_rfl) (oN <| oY <| oT Zf) rfl (by decide) (by rfl) rr trivial
  ·
   exact Zq (r := (.r0 (false) : Zs)) (fu := 4000) (orc := (Zi [(0, true), (1, false)] [] [] [] [])) (live := []) (u := vf) (bl := []) (ob := [((decide (a1 ≥ (0 : Int))), false), ((a0 == (1 : Int)), true)]) (by kernel_rfl) (oN <| oT Zf) rfl (by decide) (by rfl) rr trivial
 ·
  refine Zv (fun g1 => ?_) (fun g1 => ?_)
  ·
   refine Zv (fun g2 => ?_) (fun g2 => ?_)
   ·
    refine Zv (fun g3 => ?_) (fun g3 => ?_)
    ·
     exact Zq (r := (.r0 (true) : Zs)) (fu := 4000) (orc := (Zi [(0, false), (1, true), (2, true), (3, true)] [] [] [] [])) (live := []) (u := vT) (bl := []) (ob := [((decide (a1 ≤ (1099511627776 : Int))), true), ((decide (a1 ≥ (-1099511627776 : Int))), true), ((a0 == (2 : Int)), true), ((a0 == (1 : Int)), false)]) (by kernel_rfl) (oY <| oY <| oT <| oF Zf) rfl (by decide) (by rfl) rr trivial
    ·
     exact Zq (r := (.r0 (false) : Zs)) (fu := 4000) (orc := (Zi [(0, false), (1, true), (2, true), (3, false)] [] [] [] [])) (live := []) (u := vf) (bl := []) (ob := [((decide (a1 ≤ (1099511627776 : Int))), false), ((decide (a1 ≥ (-1099511627776 : Int))), true), ((a0 == (2 : Int)), true), ((a0 == (1 : Int)), false)]) (by kernel_rfl) (oN <| oY <| oT <| oF Zf) rfl (by decide) (by rfl) rr trivial
   ·
    exact Zq (r := (.r0 (false) : Zs)) (fu := 4000) (orc := (Zi [(0, false), (1, true), (2, false)] [] [] [] [])) (live := []) (u := vf) (bl := []) (ob := [((decide (a1 ≥ (-1099511627776 : Int))), false), ((a0 == (2 : Int)), true), ((a0 == (1 : Int)), false)]) (by kernel_rfl) (oN <| oT <| oF Zf) rfl (by decide) (by rfl) rr trivial
  ·
   refine Zv (fun g2 => ?_) (fun g2 => ?_)
   ·
    refine Zv (fun g3 => ?_) (fun g3 => ?_)
    ·
     refine Zv (fun g4 => ?_) (fun g4 => ?_)
     ·
      exact Zq (r := (.r0 (true) : Zs)) (fu := 4000) (orc := (Zi [(0, false), (1, false), (2, true), (3, true), (4, true)] [] [] [] [])) (live := []) (u := vT) (bl := []) (ob := [((decide (a1 ≤ (512 : Int))), true), ((decide (a1 ≥ (0 : Int))), true), ((a0 == (3 : Int)), true), ((a0 == (2 : Int)), false), ((a0 == (1 : Int)), false)]) (by kernel_rfl) (oY <| oY <| oT <| oF <| oF Zf) rfl (by decide) (by rfl) rr trivial
     ·
      exact Zq (r := (.r0 (false) : Zs)) (fu := 4000) (orc := (Zi [(0, false), (1, false), (2, true), (3, true), (4, false)] [] [] [] [])) (live := []) (u := vf) (bl := []) (ob := [((decide (a1 ≤ (512 : Int))), false), ((decide (a1 ≥ (0 : Int))), true), ((a0 == (3 : Int)), true), ((a0 == (2 : Int)), false), ((a0 == (1 : Int)), false)]) (by kernel_rfl) (oN <| oY <| oT <| oF <| oF Zf) rfl (by decide) (by rfl) rr trivial
    ·
     exact Zq (r := (.r0 (false) : Zs)) (fu := 4000) (orc := (Zi [(0, false), (1, false), (2, true), (3, false)] [] [] [] [])) (live := []) (u := vf) (bl := []) (ob := [((decide (a1 ≥ (0 : Int))), false), ((a0 == (3 : Int)), true), ((a0 == (2 : Int)), false), ((a0 == (1 : Int)), false)]) (by kernel_rfl) (oN <| oT <| oF <| oF Zf) rfl (by decide) (by rfl) rr trivial
   ·
    refine Zv (fun g3 => ?_) (fun g3 => ?_)
    ·
     refine Zv (fun g4 => ?_) (fun g4 => ?_)
     ·
      refine Zv (fun g5 => ?_) (fun g5 => ?_)
      ·
       exact Zq (r := (.r0 (true) : Zs)) (fu := 4000) (orc := (Zi [(0, false), (1, false), (2, false), (3, true), (4, true), (5, true)] [] [] [] [])) (live := []) (u := vT) (bl := []) (ob := [((decide (a1 < (16 : Int))), true), ((decide (a1 ≥ (0 : Int))), true), ((a0 == (4 : Int)), true), ((a0 == (3 : Int)), false), ((a0 == (2 : Int)), false), ((a0 == (1 : Int)), false)]) (by kernel_rfl) (oY <| oY <| oT <| oF <| oF <| oF Zf) rfl (by decide) (by rfl) rr trivial
      ·
       exact Zq (r := (.r0 (false) : Zs)) (fu := 4000) (orc := (Zi [(0, false), (1, false), (2, false), (3, true), (4, true), (5, false)] [] [] [] [])) (live := []) (u := vf) (bl := []) (ob := [((decide (a1 < (16 : Int))), false), ((decide (a1 ≥ (0 : Int))), true), ((a0 == (4 : Int)), true), ((a0 == (3 : Int)), false), ((a0 == (2 : Int)), false), ((a0 == (1 : Int)), false)]) (by kernel_rfl) (oN <| oY <| oT <| oF <| oF <| oF Zf) rfl (by decide) (by rfl) rr trivial
     ·
      exact Zq (r := (.r0 (false) : Zs)) (fu := 4000) (orc := (Zi [(0, false), (1, false), (2, false), (3, true), (4, false)] [] [] [] [])) (live := []) (u := vf) (bl := []) (ob := [((decide (a1 ≥ (0 : Int))), false), ((a0 == (4 : Int)), true), ((a0 == (3 : Int)), false), ((a0 == (2 : Int)), false), ((a0 == (1 : Int)), false)]) (by kernel_rfl) (oN <| oT <| oF <| oF <| oF Zf) rfl (by decide) (by rfl) rr trivial
    ·
     refine Zv (fun g4 => ?_) (fun g4 => ?_)
     ·
      refine Zv (fun g5 => ?_) (fun g5 => ?_)
      ·
       refine Zv (fun g6 => ?_) (fun g6 => ?_)
       ·
        exact Zq (r := (.r0 (true) : Zs)) (fu := 4000) (orc := (Zi [(0, false), (1, false), (2, false), (3, false), (4, true), (5, true), (6, true)] [] [] [] [])) (live := []) (u := vT) (bl := []) (ob := [((decide (a1 ≤ (16 : Int))), true), ((decide (a1 ≥ (1 : Int))), true), ((a0 == (5 : Int)), true), ((a0 == (4 : Int)), false), ((a0 == (3 : Int)), false), ((a0 == (2 : Int)), false), ((a0 == (1 : Int)), false)]) (by kernel_rfl) (oY <| oY <| oT <| oF <| oF <| oF <| oF Zf) rfl (by decide) (by rfl) rr trivial
       ·
        exact Zq (r := (.r0 (false) : Zs)) (fu := 4000) (orc := (Zi [(0, false), (1, false), (2, false), (3, false), (4, true), (5, true), (6, false)] [] [] [] [])) (live := []) (u := vf) (bl := []) (ob := [((decide (a1 ≤ (16 : Int))), false), ((decide (a1 ≥ (1 : Int))), true), ((a0 == (5 : Int)), true), ((a0 == (4 : Int)), false), ((a0 == (3 : Int)), false), ((a0 == (2 : Int)), false), ((a0 == (1 : Int)), false)]) (by kernel_rfl) (oN <| oY <| oT <| oF <| oF <| oF <| oF Zf) rfl (by decide) (by rfl) rr trivial
      ·
       exact Zq (r := (.r0 (false) : Zs)) (fu := 4000) (orc := (Zi [(0, false), (1, false), (2, false), (3, false), (4, true), (5, false)] [] [] [] [])) (live := []) (u := vf) (bl := []) (ob := [((decide (a1 ≥ (1 : Int))), false), ((a0 == (5 : Int)), true), ((a0 == (4 : Int)), false), ((a0 == (3 : Int)), false), ((a0 == (2 : Int)), false), ((a0 == (1 : Int)), false)]) (by kernel_rfl) (oN <| oT <| oF <| oF <| oF <| oF Zf) rfl (by decide) (by rfl) rr trivial
     ·
      refine Zv (fun g5 => ?_) (fun g5 => ?_)
      ·
       refine Zv (fun g6 => ?_) (fun g6 => ?_)
       ·
        refine Zv (fun g7 => ?_) (fun g7 => ?_)
        ·
         refine Zv (fun g8 => ?_) (fun g8 => ?_)
         ·
          refine Zv (fun g9 => ?_) (fun g9 => ?_)
          ·
           exact Zq (r := (.r0 (true) : Zs)) (fu := 4000) (orc := (Zi [(0, false), (1, false), (2, false), (3, false), (4, false), (5, true), (6, true), (7, true), (8, true), (9, true)] [(0, a2)] [] [] [(0, .sh (a2).toNat)])) (live := []) (u := vT) (bl := []) (ob := [((decide (a1 < (IntKind.i64.wrap ((1 : Int) * (2 ^ (a2).toNat : Int))))), true), (dP (a2 = Int.ofNat (a2).toNat ∧ (a2).toNat ≤ IntKind.i64.bits), true), ((IntKind.u64.wrap a2) == a2, true), ((decide (a1 ≥ (0 : Int))), true), ((decide (a2 ≤ (16 : Int))), true), ((decide (a2 ≥ (1 : Int))), true), ((a0 == (6 : Int)), true), ((a0 == (5 : Int)), false), ((a0 == (4 : Int)), false), ((a0 == (3 : Int)), false), ((a0 == (2 : Int)), false), ((a0 == (1 : Int)), false)]) (by kernel_rfl) (oY <| Zb (Zg ⟨by first | rfl | exact Zo7 (by omega), show _ ≤ 64 from by omega⟩) <| Zb (beq_iff_eq.2 (ZoA ltA)) <| oY <| oY <| oY <| oT <| oF <| oF <| oF <| oF <| oF Zf) rfl (by decide) (by rfl) rr trivial
          ·
           exact Zq (r := (.r0 (false) : Zs)) (fu := 4000) (orc := (Zi [(0, false), (1, false), (2, false), (3, false), (4, false), (5, true), (6, true), (7, true), (8, true), (9, false)] [(0, a2)] [] [] [(0, .sh (a2).toNat)])) (live := []) (u := vf) (bl := []) (ob := [((decide (a1 < (IntKind.i64.wrap ((1 : Int) * (2 ^ (a2).toNat : Int))))), false), (dP (a2 = Int.ofNat (a2).toNat ∧ (a2).toNat ≤ IntKind.i64.bits), true), ((IntKind.u64.wrap a2) == a2, true), ((decide (a1 ≥ (0 : Int))), true), ((decide (a2 ≤ (16 : Int))), true), ((decide (a2 ≥ (1 : Int))), true), ((a0 == (6 : Int)), true), ((a0 == (5 : Int)), false), ((a0 == (4 : Int)), false), ((a0 == (3 : Int)), false), ((a0 == (2 : Int)), false), ((a0 == (1 : Int)), false)]) (by kernel_rfl) (oN <| Zb (Zg ⟨by first | rfl | exact Zo7 (by omega), show _ ≤ 64 from by omega⟩) <| Zb (beq_iff_eq.2 (ZoA ltA)) <| oY <| oY <| oY <| oT <| oF <| oF <| oF <| oF <| oF Zf) rfl (by decide) (by rfl) rr trivial
         ·
          exact Zq (r := (.r0 (false) : Zs)) (fu := 4000) (orc := (Zi [(0, false), (1, false), (2, false), (3, false), (4, false), (5, true), (6, true), (7, true), (8, false)] [] [] [] [])) (live := []) (u := vf) (bl := []) (ob := [((decide (a1 ≥ (0 : Int))), false), ((decide (a2 ≤ (16 : Int))), true), ((decide (a2 ≥ (1 : Int))), true), ((a0 == (6 : Int)), true), ((a0 == (5 : Int)), false), ((a0 == (4 : Int)), false), ((a0 == (3 : Int)), false), ((a0 == (2 : Int)), false), ((a0 == (1 : Int)), false)]) (by kernel_rfl) (oN <| oY <| oY <| oT <| oF <| oF <| oF <| oF <| oF Zf) rfl (by decide) (by rfl) rr trivial
        ·
         exact Zq (r := (.r0 (false) : Zs)) (fu := 4000) (orc := (Zi [(0, false), (1, false), (2, false), (3, false), (4, false), (5, true), (6, true), (7, false)] [] [] [] [])) (live := []) (u := vf) (bl := []) (ob := [((decide (a2 ≤ (16 : Int))), false), ((decide (a2 ≥ (1 : Int))), true), ((a0 == (6 : Int)), true), ((a0 == (5 : Int)), false), ((a0 == (4 : Int)), false), ((a0 == (3 : Int)), false), ((a0 == (2 : Int)), false), ((a0 == (1 : Int)), false)]) (by kernel_rfl) (oN <| oY <| oT <| oF <| oF <| oF <| oF <| oF Zf) rfl (by decide) (by rfl) rr trivial
       ·
        exact Zq (r := (.r0 (false) : Zs)) (fu := 4000) (orc := (Zi [(0, false), (1, false), (2, false), (3, false), (4, false), (5, true), (6, false)] [] [] [] [])) (live := []) (u := vf) (bl := []) (ob := [((decide (a2 ≥ (1 : Int))), false), ((a0 == (6 : Int)), true), ((a0 == (5 : Int)), false), ((a0 == (4 : Int)), false), ((a0 == (3 : Int)), false), ((a0 == (2 : Int)), false), ((a0 == (1 : Int)), false)]) (by kernel_rfl) (oN <| oT <| oF <| oF <| oF <| oF <| oF Zf) rfl (by decide) (by rfl) rr trivial
      ·
       refine Zv (fun g6 => ?_) (fun g6 => ?_)
       ·
        exact Zq (r := (.r0 (true) : Zs)) (fu := 4000) (orc := (Zi [(0, false), (1, false), (2, false), (3, false), (4, false), (5, false), (6, true)] [] [] [] [])) (live := []) (u := vT) (bl := []) (ob := [((a1 == (0 : Int)), true), ((a0 == (6 : Int)), false), ((a0 == (5 : Int)), false), ((a0 == (4 : Int)), false), ((a0 == (3 : Int)), false), ((a0 == (2 : Int)), false), ((a0 == (1 : Int)), false)]) (by kernel_rfl) (oT <| oF <| oF <| oF <| oF <| oF <| oF Zf) rfl (by decide) (by rfl) rr trivial
       ·
        exact Zq (r := (.r0 (false) : Zs)) (fu := 4000) (orc := (Zi [(0, false), (1, false), (2, false), (3, false), (4, false), (5, false), (6, false)] [] [] [] [])) (live := []) (u := vf) (bl := []) (ob := [((a1 == (0 : Int)), false), ((a0 == (6 : Int)), false), ((a0 == (5 : Int)), false), ((a0 == (4 : Int)), false), ((a0 == (3 : Int)), false), ((a0 == (2 : Int)), false), ((a0 == (1 : Int)), false)]) (by kernel_rfl) (oF <| oF <| oF <| oF <| oF <| oF <| oF Zf) rfl (by decide) (by rfl) rr trivial

theorem ZlR (a0 a1 a2 : Int) (N : Nat) (r : Zs) (h : Zdy a0 a1 a2 N = some r) : LSpec Tryz.prog 72 #[vi a0, vi a1, vi a2] [] (ZkJ a0 a1 a2 r) (ZjB a0 a1 a2 r) :=
 Zcq Za7 Tryz.func72 (by kernel_rfl) (by kernel_rfl) (fun r => by cases r <;> exact ZQ _ rfl) (Znu a0 a1 a2 N) h

noncomputable def ZbB (a0 a1 a2 : Int) (w0 : Bool) (n : Nat) : Za8 := .call [] (Value.bool w0) [] 0
def Zbq (A : Array Value) (a0 a1 a2 : Int) (w0 : Bool) (n : Nat) : Prop := ZD Tryz.prog 72 A [] (Value.bool w0) [] n 0

theorem ZbC (A : Array Value) (a0 a1 a2 : Int) (w0 : Bool) (N : Nat) (h : Zdy a0 a1 a2 N = some (.r0 w0)) (n : Nat) (hA : A = #[vi a0, vi a1, vi a2]) (hnd : ([] : List Nat).Nodup) (hlt : ∀ k ∈ ([] : List Nat), k < n) : Zbq A a0 a1 a2 w0  n :=
 ZT hA (LSpec.callL (show LSpec Tryz.prog 72 #[vi a0, vi a1, vi a2] [] (Value.bool w0) [] from ZlR a0 a1 a2 N _ h) [] n [] rfl hnd hlt (show 0 ≤ 0 from by decide) (show ∀ j ∈ ([] : List Nat), j < 0 from by decide) (by rfl) trivial (by rfl) trivial trivial rfl rfl rfl rfl rfl)

noncomputable def Zng (a0 a1 a2 a3 : Int) : Zbo → Value
 | .r0 w0 => Value.bool w0
noncomputable def ZlS (a0 a1 a2 a3 : Int) : Zbo → List (Option AObj)
 | .r0 w0 => []

theorem ZpI (a0 a1 a2 a3 : Int) (N : Nat) : Fx Tryz.prog Zt Tryz.f58 [] #[Value.agg #[vi a0, vi a1, vi a2, vi a3]] (Zng a0 a1 a2 a3) (ZlS a0 a1 a2 a3) (Zdz a0 a1 a2 a3 N) := by
 unfold Zdz
 refine ZeS (fun z0 c0 => ?_)
 cases z0 with
 | r0 y0_0 y0_1 y0_2 y0_3 =>
  refine Zv (fun g1 => ?_) (fun g1 => ?_)
  ·
   subst g1
   refine ZeS (fun z2 c2 => ?_)
   cases z2 with
   | r0 y2_0 =>
    refine Zv (fun g3 => ?_) (fun g3 => ?_)
    ·
     subst g3
     refine ZeS (fun z4 c4 => ?_)
     cases z4 with
     | r0 y4_0 =>
      refine Zv (fun g5 => ?_) (fun g5 => ?_)
      ·
       subst g5
       refine ZeS (fun z6 c6 => ?_)
       cases z6 with
       | r0 y6_0 =>
        refine Zv (fun g7 => ?_) (fun g7 => ?_)
        ·
         subst g7
         exact Zq (r := (.r0 (true) : Zbo)) (fu := 4000) (orc := (Zi [] [] [] [] [(0, (Zez (a0)  y0_0 y0_1 y0_2 true  1)), (2, (ZbB (y0_0) (a1) ((0 : Int))  true  2)), (3, (ZbB (y0_1) (a2) ((0 : Int))  true  2)), (4, (ZbB (y0_2) (a3) (a2)  true  2))])) (live := []) (u := vT) (bl := []) (ob := [(dP (Zbq #[vi y0_2, vi a3, vi a2] (y0_2) (a3) (a2)  true  2), true), (dP (Zbq #[vi y0_1, vi a2, vq] (y0_1) (a2) ((0 : Int))  true  2), true), (dP (Zbq #[vi y0_0, vi a1, vq] (y0_0) (a1) ((0 : Int))  true  2), true), (dP (ZdA #[vi a0] (a0)  y0_0 y0_1 y0_2 true  1), true)]) (by kernel_rfl) (Zb (Zg (ZbC #[vi y0_2, vi a3, vi a2] (y0_2) (a3) (a2)  true N c6  2 rfl (by decide) (by decide))) <| Zb (Zg (ZbC #[vi y0_1, vi a2, vq] (y0_1) (a2) ((0 : Int))  true N c4  2 rfl (by decide) (by decide))) <| Zb (Zg (ZbC #[vi y0_0, vi a1, vq] (y0_0) (a1) ((0 : Int))  true N c2  2 rfl (by decide) (by decide))) <| Zb (Zg (Ze0 #[vi a0] (a0)  y0_0 y0_1 y0_2 true N c0  1 rfl (by decide) (by decide))) Zf) rfl (by decide) (by rfl) rr trivial
        ·
         obtain rfl : y6_0 = false := by simpa using g7
         exact Zq (r := (.r0 (false) : Zbo)) (fu := 4000) (orc := (Zi [] [] [] [] [(0, (Zez (a0)  y0_0 y0_1 y0_2 true  1)), (2, (ZbB (y0_0) (a1) ((0 : Int))  true  2)), (3, (ZbB (y0_1) (a2) ((0 : Int))  true  2)), (4, (ZbB (y0_2) (a3) (a2)  false  2))])) (live := []) (u := vf) (bl := []) (ob := [(dP (Zbq #[vi y0_2, vi a3, vi a2] (y0_2) (a3) (a2)  false  2), true), (dP (Zbq #[vi y0_1, vi a2, vq] (y0_1) (a2) ((0 : Int))  true  2), true), (dP (Zbq #[vi y0_0, vi a1, vq] (y0_0) (a1) ((0 : Int))  true  2), true), (dP (ZdA #[vi a0] (a0)  y0_0 y0_1 y0_2 true  1), true)]) (by kernel_rfl) (Zb (Zg (ZbC #[vi y0_2, vi a3, vi a2] (y0_2) (a3) (a2)  false N c6  2 rfl (by decide) (by decide))) <| Zb (Zg (ZbC #[vi y0_1, vi a2, vq] (y0_1) (a2) ((0 : Int))  true N c4  2 rfl (by decide) (by decide))) <| Zb (Zg (ZbC #[vi y0_0, vi a1, vq] (y0_0) (a1) ((0 : Int))  true N c2  2 rfl (by decide) (by decide))) <| Zb (Zg (Ze0 #[vi a0] (a0)  y0_0 y0_1 y0_2 true N c0  1 rfl (by decide) (by decide))) Zf) rfl (by decide) (by rfl) rr trivial
      ·
       obtain rfl : y4_0 = false := by simpa using g5
       exact Zq (r := (.r0 (false) : Zbo)) (fu := 4000) (orc := (Zi [] [] [] [] [(0, (Zez (a0)  y0_0 y0_1 y0_2 true  1)), (2, (ZbB (y0_0) (a1) ((0 : Int))  true  2)), (3, (ZbB (y0_1) (a2) ((0 : Int))  false  2))])) (live := []) (u := vf) (bl := []) (ob := [(dP (Zbq #[vi y0_1, vi a2, vq] (y0_1) (a2) ((0 : Int))  false  2), true), (dP (Zbq #[vi y0_0, vi a1, vq] (y0_0) (a1) ((0 : Int))  true  2), true), (dP (ZdA #[vi a0] (a0)  y0_0 y0_1 y0_2 true  1), true)]) (by kernel_rfl) (Zb (Zg (ZbC #[vi y0_1, vi a2, vq] (y0_1) (a2) ((0 : Int))  false N c4  2 rfl (by decide) (by decide))) <| Zb (Zg (ZbC #[vi y0_0, vi a1, vq] (y0_0) (a1) ((0 : Int))  true N c2  2 rfl (by decide) (by decide))) <| Zb (Zg (Ze0 #[vi a0] (a0)  y0_0 y0_1 y0_2 true N c0  1 rfl (by decide) (by decide))) Zf) rfl (by decide) (by rfl) rr trivial
    ·
     obtain rfl : y2_0 = false := by simpa using g3
     exact Zq (r := (.r0 (false) : Zbo)) (fu := 4000) (orc := (Zi [] [] [] [] [(0, (Zez (a0)  y0_0 y0_1 y0_2 true  1)), (2, (ZbB (y0_0) (a1) ((0 : Int))  false  2))])) (live := []) (u := vf) (bl := []) (ob := [(dP (Zbq #[vi y0_0, vi a1, vq] (y0_0) (a1) ((0 : Int))  false  2), true), (dP (ZdA #[vi a0] (a0)  y0_0 y0_1 y0_2 true  1), true)]) (by kernel_rfl) (Zb (Zg (ZbC #[vi y0_0, vi a1, vq] (y0_0) (a1) ((0 : Int))  false N c2  2 rfl (by decide) (by decide))) <| Zb (Zg (Ze0 #[vi a0] (a0)  y0_0 y0_1 y0_2 true N c0  1 rfl (by decide) (by decide))) Zf) rfl (by decide) (by rfl) rr trivial
  ·
   obtain rfl : y0_3 = false := by simpa using g1
   exact Zq (r := (.r0 (false) : Zbo)) (fu := 4000) (orc := (Zi [] [] [] [] [(0, (Zez (a0)  y0_0 y0_1 y0_2 false  1))])) (live := []) (u := vf) (bl := []) (ob := [(dP (ZdA #[vi a0] (a0)  y0_0 y0_1 y0_2 false  1), true)]) (by kernel_rfl) (Zb (Zg (Ze0 #[vi a0] (a0)  y0_0 y0_1 y0_2 false N c0  1 rfl (by decide) (by decide))) Zf) rfl (by decide) (by rfl) rr trivial

theorem Znv (a0 a1 a2 a3 : Int) (N : Nat) (r : Zbo) (h : Zdz a0 a1 a2 a3 N = some r) : LSpec Tryz.prog 58 #[Value.agg #[vi a0, vi a1, vi a2, vi a3]] [] (Zng a0 a1 a2 a3 r) (ZlS a0 a1 a2 a3 r) :=
 Zcq Za7 Tryz.func58 (by kernel_rfl) (by kernel_rfl) (fun r => by cases r <;> exact ZQ _ rfl) (ZpI a0 a1 a2 a3 N) h

noncomputable def Zbs (a0 a1 a2 a3 : Int) (w0 : Bool) (n : Nat) : Za8 := .call [] (Value.bool w0) [] 0
def Zbk (A : Array Value) (a0 a1 a2 a3 : Int) (w0 : Bool) (n : Nat) : Prop := ZD Tryz.prog 58 A [] (Value.bool w0) [] n 0

theorem Zbt (A : Array Value) (a0 a1 a2 a3 : Int) (w0 : Bool) (N : Nat) (h : Zdz a0 a1 a2 a3 N = some (.r0 w0)) (n : Nat) (hA : A = #[Value.agg #[vi a0, vi a1, vi a2, vi a3]]) (hnd : ([] : List Nat).Nodup) (hlt : ∀ k ∈ ([] : List Nat), k < n) : Zbk A a0 a1 a2 a3 w0  n :=
 ZT hA (LSpec.callL (show LSpec Tryz.prog 58 #[Value.agg #[vi a0, vi a1, vi a2, vi a3]] [] (Value.bool w0) [] from Znv a0 a1 a2 a3 N _ h) [] n [] rfl hnd hlt (show 0 ≤ 0 from by decide) (show ∀ j ∈ ([] : List Nat), j < 0 from by decide) (by rfl) trivial (by rfl) trivial trivial rfl rfl rfl rfl rfl)

noncomputable def ZiA (L0 : List R_ii) (a1 a2 a3 a4 a5 : Int) : Z6 → Value
 | .r0 w1 => Value.tuple #[vs 0 0 L0.length L0.length, Value.bool w1]
 | .r1 w1 => Value.tuple #[vs 1 0 w1.length w1.length, vT]
 | .r2 => Value.tuple #[vs 1 0 (L0.take (L0.length - 1)).length (L0.take (L0.length - 1)).length, vT]
noncomputable def ZhS (L0 : List R_ii) (a1 a2 a3 a4 a5 : Int) : Z6 → List (Option AObj)
 | .r0 w1 => [some (.cells (Zd E_ii L0) 102)]
 | .r1 w1 => [some (.cells (Zd E_ii L0) 102), some (.cells (Zd E_ii w1) 102)]
 | .r2 => [none, some (.cells (Zd E_ii (L0.take (L0.length - 1))) 102)]

theorem ZlT (L0 : List R_ii) (a1 a2 a3 a4 a5 : Int) (N : Nat) : Fx Tryz.prog Zt Tryz.f57 [.cells (Zd E_ii L0) 102] #[vs 0 0 L0.length L0.length, Value.agg #[vi a1, vi a2, vi a3, vi a4], vi a5] (ZiA L0 a1 a2 a3 a4 a5) (ZhS L0 a1 a2 a3 a4 a5) (ZbX L0 a1 a2 a3 a4 a5 N) := by
 unfold ZbX
 refine Zv (fun g0 => ?_) (fun g0 => ?_)
 ·
  refine Zv (fun g1 => ?_) (fun g1 => ?_)
  ·
   exact Zq (r := (.r0 (false) : Z6)) (fu := 4000) (orc := (Zi [(0, true), (1, true)] [] [] [] [])) (live := [0]) (u := Value.tuple #[vs 0 0 L0.length L0.length, vf]) (bl := [some (.cells (Zd E_ii L0) 102)]) (ob := [((decide ((L0.length : Int) ≥ (8 : Int))), true), ((a1 == (15 : Int)), true)]) (by kernel_rfl) (oY <| oT Zf) rfl (by decide) (by rfl) rr ⟨(Zh (E := E_ii) (α := R_ii) _ L0 _), trivial⟩
  ·
   refine Zv (fun g2 => ?_) (fun g2 => ?_)
   ·
    exact Zq (r := (.r1 (([(⟨a5, (0 : Int)⟩ : R_ii)] : List R_ii)) : Z6)) (fu := 4000) (orc := (Zi [(0, true), (1, false)] [] [] [] [(0, .ap0)])) (live := [0, 4]) (u := Value.tuple #[vs 4 0 1 1, vT]) (bl := [some (.cells (Zd E_ii L0) 102), some (.cells [vi a5, vq] 102)]) (ob := [(dP (0 = L0.length ∧ Zp (L0.length * 2) (List.drop 0 (Zd E_ii L0)) = some [] ∧ Z4 Za6 [] = true), true), ((decide ((L0.length : Int) ≥ (8 : Int))), false), ((a1 == (15 : Int)), true)]) (by kernel_rfl) (Zb (Zg ⟨by omega, by rw [show L0.length = 0 by omega]; rfl, rfl⟩) <| oN <| oT Zf) rfl (by decide) (by rfl) ⟨Eq.trans (show (Value.tuple #[vs 1 0 ([(⟨a5, (0 : Int)⟩ : R_ii)] : List R_ii).length ([(⟨a5, (0 : Int)⟩ : R_ii)] : List R_ii).length, vT] : Value) = Value.tuple #[vs 1 0 1 1, vT] from (ZgR (Za (ZaL rfl eqA eqA) (Za rfl rfl)))) (by rfl), by rfl⟩ ⟨(Zh (E := E_ii) (α := R_ii) _ L0 _), ⟨(ZcK (E := E_ii) _ (L := ([(⟨a5, (0 : Int)⟩ : R_ii)] : List R_ii)) _ (show ([vi a5, vq] : List Value) = Zd E_ii ([(⟨a5, (0 : Int)⟩ : R_ii)] : List R_ii) from rfl)), trivial⟩⟩
   ·
    exact Zq (r := (.r1 ((L0 ++ ([(⟨a5, (0 : Int)⟩ : R_ii)] : List R_ii))) : Z6)) (fu := 4000) (orc := (Zi [(0, true), (1, false)] [] [] [] [(0, .ap L0.length (Zd E_ii L0) (Zd E_ii L0)), (1, .ap 1 [vi a5, vq] (Zd E_ii (L0 ++ ([(⟨a5, (0 : Int)⟩ : R_ii)] : List R_ii))))])) (live := [0, 5]) (u := Value.tuple #[vs 5 0 ((0 + L0.length) + 1) ((0 + L0.length) + 1), vT]) (bl := [some (.cells (Zd E_ii L0) 102), some (.cells (Zd E_ii (L0 ++ ([(⟨a5, (0 : Int)⟩ : R_ii)] : List R_ii))) 102)]) (ob := [(dP ((1 = 1 ∧ Zp (1 * 2) (List.drop 0 [vi a5, vq]) = some [vi a5, vq] ∧ Z4 Za6 [vi a5, vq] = true) ∧ 0 < 1 ∧ 1 ≤ 100000 ∧ (0 + L0.length) < (0 + L0.length) + 1 ∧ (0 + L0.length) ≤ 100000 ∧ (0 + L0.length) * 2 ≤ (List.length (Zd E_ii L0)) ∧ List.take ((0 + L0.length) * 2) (Zd E_ii L0) ++ [vi a5, vq] = (Zd E_ii (L0 ++ ([(⟨a5, (0 : Int)⟩ : R_ii)] : List R_ii)))), true), (dP ((L0.length = L0.length ∧ Zp (L0.length * 2) (List.drop 0 (Zd E_ii L0)) = some (Zd E_ii L0) ∧ Z4 Za6 (Zd E_ii L0) = true) ∧ 0 < L0.length ∧ L0.length ≤ 100000 ∧ 0 < 0 + L0.length ∧ 0 ≤ 100000 ∧ 0 * 2 ≤ (List.length []) ∧ List.take (0 * 2) [] ++ (Zd E_ii L0) = (Zd E_ii L0)), true), ((decide ((L0.length : Int) ≥ (8 : Int))), false), ((a1 == (15 : Int)), true)]) (by kernel_rfl) (Zb (Zg ⟨⟨rfl, ⟨rfl, rfl⟩⟩, by omega, by omega, ltA, by omega, (Zc0 (E := E_ii) (L := L0) (M := ([(⟨a5, (0 : Int)⟩ : R_ii)] : List R_ii)) (n := (0 + L0.length)) (show _ = _ * 2 from rfl) (by omega) (R := (L0 ++ ([(⟨a5, (0 : Int)⟩ : R_ii)] : List R_ii))) (by rw [List.take_of_length_le (by omega)]))⟩) <| Zb (Zg ⟨⟨rfl, (Zqf (E := E_ii) (L := L0) (a := 0) (n := L0.length) (by omega) (by show _ = _ * 2; omega) (show _ = _ * 2 from rfl) (by rw [List.drop_zero, List.take_of_length_le (by omega)]))⟩, by omega, by omega, ltA, by omega, (Zc0 (E := E_ii) (L := ([] : List R_ii)) (M := L0) (n := 0) (show _ = _ * 2 from rfl) ltA (R := L0) (by rw [List.take_of_length_le ltA]; rfl))⟩) <| oN <| oT Zf) rfl (by decide) (by rfl) ⟨Eq.trans (show (Value.tuple #[vs 1 0 (L0 ++ ([(⟨a5, (0 : Int)⟩ : R_ii)] : List R_ii)).length (L0 ++ ([(⟨a5, (0 : Int)⟩ : R_ii)] : List R_ii)).length, vT] : Value) = Value.tuple #[vs 1 0 ((0 + L0.length) + 1) ((0 + L0.length) + 1), vT] from (ZgR (Za (ZaL rfl eqA eqA) (Za rfl rfl)))) (by rfl), by rfl⟩ ⟨(Zh (E := E_ii) (α := R_ii) _ L0 _), ⟨(Zh (E := E_ii) (α := R_ii) _ (L0 ++ ([(⟨a5, (0 : Int)⟩ : R_ii)] : List R_ii)) _), trivial⟩⟩
 ·
  refine Zv (fun g1 => ?_) (fun g1 => ?_)
  ·
   refine Zv (fun g2 => ?_) (fun g2 => ?_)
   ·
    exact Zq (r := (.r0 (false) : Z6)) (fu := 4000) (orc := (Zi [(0, false), (1, true), (2, true)] [] [] [] [])) (live := [0]) (u := Value.tuple #[vs 0 0 L0.length L0.length, vf]) (bl := [some (.cells (Zd E_ii L0) 102)]) (ob := [(((L0.length : Int) == (0 : Int)), true), ((a1 == (16 : Int)), true), ((a1 == (15 : Int)), false)]) (by kernel_rfl) (oT <| oT <| oF Zf) rfl (by decide) (by rfl) rr ⟨(Zh (E := E_ii) (α := R_ii) _ L0 _), trivial⟩
   ·
    refine Zv (fun g3 => ?_) (fun g3 => ?_)
    ·
     refine Zv (fun g4 => ?_) (fun g4 => ?_)
     ·
      exact Zq (r := (.r0 (false) : Z6)) (fu := 4000) (orc := (Zi [(0, false), (1, true), (2, false), (3, true)] [(0, (((L0.length - 1) : Nat) : Int))] [(0, (L0.length - 1))] [(1, [.i (L0.getD (L0.length - 1) R_ii.z).a1])] [])) (live := [0]) (u := Value.tuple #[vs 0 0 L0.length L0.length, vf]) (bl := [some (.cells (Zd E_ii L0) 102)]) (ob := [(((L0.getD (L0.length - 1) R_ii.z).a1 == (1 : Int)), true), (Z8 (Zp 1 (List.drop ((0 + ((L0.length - 1) * 2)) + 1) (Zd E_ii L0))) [.i (L0.getD (L0.length - 1) R_ii.z).a1], true), (Nat.blt (L0.length - 1) L0.length, true), ((((L0.length - 1) : Nat) : Int) == Int.ofNat (L0.length - 1), true), ((IntKind.i64.wrap ((L0.length : Int) - (1 : Int))) == (((L0.length - 1) : Nat) : Int), true), (((L0.length : Int) == (0 : Int)), false), ((a1 == (16 : Int)), true), ((a1 == (15 : Int)), false)]) (by kernel_rfl) (oT <| Zb (Zo (E := E_ii) (L := L0) (i := (L0.length - 1)) (q := 1) (by omega) (show ((0 + ((L0.length - 1) * 2)) + 1) = (L0.length - 1) * 2 + 1 from by omega) (show 1 + 1 ≤ 2 from by decide) rfl rfl) <| oB <| oI <| Zb (beq_iff_eq.2 ((wrap_i64 ltA).trans (by first | rfl | omega))) <| oF <| oT <| oF Zf) rfl (by decide) (by rfl) rr ⟨(Zh (E := E_ii) (α := R_ii) _ L0 _), trivial⟩
     ·
      refine Zv (fun g5 => ?_) (fun g5 => ?_)
      ·
       exact Zq (r := (.r1 (([(⟨(L0.getD (L0.length - 1) R_ii.z).a0, (1 : Int)⟩ : R_ii)] : List R_ii)) : Z6)) (fu := 4000) (orc := (Zi [(0, false), (1, true), (2, false), (3, false)] [(0, (((L0.length - 1) : Nat) : Int)), (1, (((L0.length - 1) : Nat) : Int)), (2, (((L0.length - 1) : Nat) : Int))] [(0, (L0.length - 1)), (1, (L0.length - 1))] [(1, [.i (L0.getD (L0.length - 1) R_ii.z).a1]), (2, [.i (L0.getD (L0.length - 1) R_ii.z).a0])] [(0, .sl 0 (L0.length - 1)), (1, .ap0)])) (live := [0, 4]) (u := Value.tuple #[vs 4 0 1 1, vT]) (bl := [some (.cells (Zd E_ii L0) 102), some (.cells [vi (L0.getD (L0.length - 1) R_ii.z).a0, vi (1 : Int)] 102)]) (ob := [(Z8 (Zp 1 (List.drop ((0 + ((L0.length - 1) * 2)) + 0) (Zd E_ii L0))) [.i (L0.getD (L0.length - 1) R_ii.z).a0], true), (Nat.blt (L0.length - 1) L0.length, true), ((((L0.length - 1) : Nat) : Int) == Int.ofNat (L0.length - 1), true), ((IntKind.i64.wrap ((L0.length : Int) - (1 : Int))) == (((L0.length - 1) : Nat) : Int), true), (dP (0 = ((L0.length - 1) - 0) ∧ Zp (((L0.length - 1) - 0) * 2) (List.drop (0 + (0 * 2)) (Zd E_ii L0)) = some [] ∧ Z4 Za6 [] = true), true), (dP (0 ≤ (L0.length - 1) ∧ (L0.length - 1) ≤ L0.length), true), ((((L0.length - 1) : Nat) : Int) == Int.ofNat (L0.length - 1), true), (dS 0, true), ((IntKind.i64.wrap ((L0.length : Int) - (1 : Int))) == (((L0.length - 1) : Nat) : Int), true), (((L0.getD (L0.length - 1) R_ii.z).a1 == (1 : Int)), false), (Z8 (Zp 1 (List.drop ((0 + ((L0.length - 1) * 2)) + 1) (Zd E_ii L0))) [.i (L0.getD (L0.length - 1) R_ii.z).a1], true), (Nat.blt (L0.length - 1) L0.length, true), ((((L0.length - 1) : Nat) : Int) == Int.ofNat (L0.length - 1), true), ((IntKind.i64.wrap ((L0.length : Int) - (1 : Int))) == (((L0.length - 1) : Nat) : Int), true), (((L0.length : Int) == (0 : Int)), false), ((a1 == (16 : Int)), true), ((a1 == (15 : Int)), false)]) (by kernel_rfl) (Zb (Zo (E := E_ii) (L := L0) (i := (L0.length - 1)) (q := 0) (by omega) (show ((0 + ((L0.length - 1) * 2)) + 0) = (L0.length - 1) * 2 + 0 from by omega) (show 0 + 1 ≤ 2 from by decide) rfl rfl) <| oB <| oI <| Zb (beq_iff_eq.2 ((wrap_i64 ltA).trans (by first | rfl | omega))) <| Zb (Zg ⟨by omega, by rw [show ((L0.length - 1) - 0) = 0 by omega]; rfl, rfl⟩) <| Zb (Zg ⟨ltA, ltA⟩) <| oI <| oR <| Zb (beq_iff_eq.2 ((wrap_i64 ltA).trans (by first | rfl | omega))) <| oF <| Zb (Zo (E := E_ii) (L := L0) (i := (L0.length - 1)) (q := 1) (by omega) (show ((0 + ((L0.length - 1) * 2)) + 1) = (L0.length - 1) * 2 + 1 from by omega) (show 1 + 1 ≤ 2 from by decide) rfl rfl) <| oB <| oI <| Zb (beq_iff_eq.2 ((wrap_i64 ltA).trans (by first | rfl | omega))) <| oF <| oT <| oF Zf) rfl (by decide) (by rfl) ⟨Eq.trans (show (Value.tuple #[vs 1 0 ([(⟨(L0.getD (L0.length - 1) R_ii.z).a0, (1 : Int)⟩ : R_ii)] : List R_ii).length ([(⟨(L0.getD (L0.length - 1) R_ii.z).a0, (1 : Int)⟩ : R_ii)] : List R_ii).length, vT] : Value) = Value.tuple #[vs 1 0 1 1, vT] from (ZgR (Za (ZaL rfl eqA eqA) (Za rfl rfl)))) (by rfl), by rfl⟩ ⟨(Zh (E := E_ii) (α := R_ii) _ L0 _), ⟨(ZcK (E := E_ii) _ (L := ([(⟨(L0.getD (L0.length - 1) R_ii.z).a0, (1 : Int)⟩ : R_ii)] : List R_ii)) _ (show ([vi (L0.getD (L0.length - 1) R_ii.z).a0, vi (1 : Int)] : List Value) = Zd E_ii ([(⟨(L0.getD (L0.length - 1) R_ii.z).a0, (1 : Int)⟩ : R_ii)] : List R_ii) from rfl)), trivial⟩⟩
      ·
       refine Zv (fun g6 => ?_) (fun g6 => ?_)
       ·
        exact Zq (r := (.r1 (((L0.take ((L0.length - 1) - 0)) ++ ([(⟨(L0.getD (L0.length - 1) R_ii.z).a0, (1 : Int)⟩ : R_ii)] : List R_ii))) : Z6)) (fu := 4000) (orc := (Zi [(0, false), (1, true), (2, false), (3, false)] [(0, (((L0.length - 1) : Nat) : Int)), (1, (((L0.length - 1) : Nat) : Int)), (2, (((L0.length - 1) : Nat) : Int))] [(0, (L0.length - 1)), (1, (L0.length - 1))] [(1, [.i (L0.getD (L0.length - 1) R_ii.z).a1]), (2, [.i (L0.getD (L0.length - 1) R_ii.z).a0])] [(0, .sl 0 (L0.length - 1)), (1, .ap ((L0.length - 1) - 0) (Zd E_ii (L0.take ((L0.length - 1) - 0))) (Zd E_ii (L0.take ((L0.length - 1) - 0)))), (2, .ap 1 [vi (L0.getD (L0.length - 1) R_ii.z).a0, vi (1 : Int)] (Zd E_ii ((L0.take ((L0.length - 1) - 0)) ++ ([(⟨(L0.getD (L0.length - 1) R_ii.z).a0, (1 : Int)⟩ : R_ii)] : List R_ii))))])) (live := [0, 5]) (u := Value.tuple #[vs 5 0 ((0 + ((L0.length - 1) - 0)) + 1) ((0 + ((L0.length - 1) - 0)) + 1), vT]) (bl := [some (.cells (Zd E_ii L0) 102), some (.cells (Zd E_ii ((L0.take ((L0.length - 1) - 0)) ++ ([(⟨(L0.getD (L0.length - 1) R_ii.z).a0, (1 : Int)⟩ : R_ii)] : List R_ii))) 102)]) (ob := [(dP ((1 = 1 ∧ Zp (1 * 2) (List.drop 0 [vi (L0.getD (L0.length - 1) R_ii.z).a0, vi (1 : Int)]) = some [vi (L0.getD (L0.length - 1) R_ii.z).a0, vi (1 : Int)] ∧ Z4 Za6 [vi (L0.getD (L0.length - 1) R_ii.z).a0, vi (1 : Int)] = true) ∧ 0 < 1 ∧ 1 ≤ 100000 ∧ (0 + ((L0.length - 1) - 0)) < (0 + ((L0.length - 1) - 0)) + 1 ∧ (0 + ((L0.length - 1) - 0)) ≤ 100000 ∧ (0 + ((L0.length - 1) - 0)) * 2 ≤ (List.length (Zd E_ii (L0.take ((L0.length - 1) - 0)))) ∧ List.take ((0 + ((L0.length - 1) - 0)) * 2) (Zd E_ii (L0.take ((L0.length - 1) - 0))) ++ [vi (L0.getD (L0.length - 1) R_ii.z).a0, vi (1 : Int)] = (Zd E_ii ((L0.take ((L0.length - 1) - 0)) ++ ([(⟨(L0.getD (L0.length - 1) R_ii.z).a0, (1 : Int)⟩ : R_ii)] : List R_ii)))), true), (Z8 (Zp 1 (List.drop ((0 + ((L0.length - 1) * 2)) + 0) (Zd E_ii L0))) [.i (L0.getD (L0.length - 1) R_ii.z).a0], true), (Nat.blt (L0.length - 1) L0.length, true), ((((L0.length - 1) : Nat) : Int) == Int.ofNat (L0.length - 1), true), ((IntKind.i64.wrap ((L0.length : Int) - (1 : Int))) == (((L0.length - 1) : Nat) : Int), true), (dP ((((L0.length - 1) - 0) = ((L0.length - 1) - 0) ∧ Zp (((L0.length - 1) - 0) * 2) (List.drop (0 + (0 * 2)) (Zd E_ii L0)) = some (Zd E_ii (L0.take ((L0.length - 1) - 0))) ∧ Z4 Za6 (Zd E_ii (L0.take ((L0.length - 1) - 0))) = true) ∧ 0 < ((L0.length - 1) - 0) ∧ ((L0.length - 1) - 0) ≤ 100000 ∧ 0 < 0 + ((L0.length - 1) - 0) ∧ 0 ≤ 100000 ∧ 0 * 2 ≤ (List.length []) ∧ List.take (0 * 2) [] ++ (Zd E_ii (L0.take ((L0.length - 1) - 0))) = (Zd E_ii (L0.take ((L0.length - 1) - 0)))), true), (dP (0 ≤ (L0.length - 1) ∧ (L0.length - 1) ≤ L0.length), true), ((((L0.length - 1) : Nat) : Int) == Int.ofNat (L0.length - 1), true), (dS 0, true), ((IntKind.i64.wrap ((L0.length : Int) - (1 : Int))) == (((L0.length - 1) : Nat) : Int), true), (((L0.getD (L0.length - 1) R_ii.z).a1 == (1 : Int)), false), (Z8 (Zp 1 (List.drop ((0 + ((L0.length - 1) * 2)) + 1) (Zd E_ii L0))) [.i (L0.getD (L0.length - 1) R_ii.z).a1], true), (Nat.blt (L0.length - 1) L0.length, true), ((((L0.length - 1) : Nat) : Int) == Int.ofNat (L0.length - 1), true), ((IntKind.i64.wrap ((L0.length : Int) - (1 : Int))) == (((L0.length - 1) : Nat) : Int), true), (((L0.length : Int) == (0 : Int)), false), ((a1 == (16 : Int)), true), ((a1 == (15 : Int)), false)]) (by kernel_rfl) (Zb (Zg ⟨⟨rfl, ⟨rfl, rfl⟩⟩, by omega, by omega, ltA, by omega, (Zc0 (E := E_ii) (L := (L0.take ((L0.length - 1) - 0))) (M := ([(⟨(L0.getD (L0.length - 1) R_ii.z).a0, (1 : Int)⟩ : R_ii)] : List R_ii)) (n := (0 + ((L0.length - 1) - 0))) (show _ = _ * 2 from rfl) ltA (R := ((L0.take ((L0.length - 1) - 0)) ++ ([(⟨(L0.getD (L0.length - 1) R_ii.z).a0, (1 : Int)⟩ : R_ii)] : List R_ii))) (by rw [List.take_of_length_le ltA]))⟩) <| Zb (Zo (E := E_ii) (L := L0) (i := (L0.length - 1)) (q := 0) (by omega) (show ((0 + ((L0.length - 1) * 2)) + 0) = (L0.length - 1) * 2 + 0 from by omega) (show 0 + 1 ≤ 2 from by decide) rfl rfl) <| oB <| oI <| Zb (beq_iff_eq.2 ((wrap_i64 ltA).trans (by first | rfl | omega))) <| Zb (Zg ⟨⟨rfl, (Zqf (E := E_ii) (L := L0) (a := 0) (n := ((L0.length - 1) - 0)) (by omega) (by show _ = _ * 2; omega) (show _ = _ * 2 from rfl) (by rw [List.drop_zero]))⟩, by omega, by omega, ltA, by omega, (Zc0 (E := E_ii) (L := ([] : List R_ii)) (M := (L0.take ((L0.length - 1) - 0))) (n := 0) (show _ = _ * 2 from rfl) ltA (R := (L0.take ((L0.length - 1) - 0))) (by rw [List.take_of_length_le ltA]; rfl))⟩) <| Zb (Zg ⟨ltA, ltA⟩) <| oI <| oR <| Zb (beq_iff_eq.2 ((wrap_i64 ltA).trans (by first | rfl | omega))) <| oF <| Zb (Zo (E := E_ii) (L := L0) (i := (L0.length - 1)) (q := 1) (by omega) (show ((0 + ((L0.length - 1) * 2)) + 1) = (L0.length - 1) * 2 + 1 from by omega) (show 1 + 1 ≤ 2 from by decide) rfl rfl) <| oB <| oI <| Zb (beq_iff_eq.2 ((wrap_i64 ltA).trans (by first | rfl | omega))) <| oF <| oT <| oF Zf) rfl (by decide) (by rfl) ⟨Eq.trans (show (Value.tuple #[vs 1 0 ((L0.take ((L0.length - 1) - 0)) ++ ([(⟨(L0.getD (L0.length - 1) R_ii.z).a0, (1 : Int)⟩ : R_ii)] : List R_ii)).length ((L0.take ((L0.length - 1) - 0)) ++ ([(⟨(L0.getD (L0.length - 1) R_ii.z).a0, (1 : Int)⟩ : R_ii)] : List R_ii)).length, vT] : Value) = Value.tuple #[vs 1 0 ((0 + ((L0.length - 1) - 0)) + 1) ((0 + ((L0.length - 1) - 0)) + 1), vT] from (ZgR (Za (ZaL rfl eqA eqA) (Za rfl rfl)))) (by rfl), by rfl⟩ ⟨(Zh (E := E_ii) (α := R_ii) _ L0 _), ⟨(Zh (E := E_ii) (α := R_ii) _ ((L0.take ((L0.length - 1) - 0)) ++ ([(⟨(L0.getD (L0.length - 1) R_ii.z).a0, (1 : Int)⟩ : R_ii)] : List R_ii)) _), trivial⟩⟩
       ·
        exact ZeR
    ·
     exact ZeR
  ·
   refine Zv (fun g2 => ?_) (fun g2 => ?_)
   ·
    refine Zv (fun g3 => ?_) (fun g3 => ?_)
    ·
     exact Zq (r := (.r0 (false) : Z6)) (fu := 4000) (orc := (Zi [(0, false), (1, false), (2, true), (3, true)] [] [] [] [])) (live := [0]) (u := Value.tuple #[vs 0 0 L0.length L0.length, vf]) (bl := [some (.cells (Zd E_ii L0) 102)]) (ob := [(((L0.length : Int) == (0 : Int)), true), ((a1 == (17 : Int)), true), ((a1 == (16 : Int)), false), ((a1 == (15 : Int)), false)]) (by kernel_rfl) (oT <| oT <| oF <| oF Zf) rfl (by decide) (by rfl) rr ⟨(Zh (E := E_ii) (α := R_ii) _ L0 _), trivial⟩
    ·
     refine Zv (fun g4 => ?_) (fun g4 => ?_)
     ·
      exact Zq (r := (.r2 : Z6)) (fu := 4000) (orc := (Zi [(0, false), (1, false), (2, true), (3, false)] [(0, (((L0.length - 1) : Nat) : Int))] [] [] [(0, .cut (L0.length - 1) (Zd E_ii (L0.take (L0.length - 1))))])) (live := [0, 2]) (u := Value.tuple #[vs 2 0 (L0.length - 1) (L0.length - 1), vT]) (bl := [none, some (.cells (Zd E_ii (L0.take (L0.length - 1))) 102)]) (ob := [(dP ((L0.length - 1) ≤ L0.length ∧ 0 < 2 ∧ L0.length * 2 ≤ ((Zd E_ii L0) : List Value).length ∧ List.take ((L0.length - 1) * 2) (Zd E_ii L0) = (Zd E_ii (L0.take (L0.length - 1)))), true), ((((L0.length - 1) : Nat) : Int) == Int.ofNat (L0.length - 1), true), (dS 0, true), ((IntKind.i64.wrap ((L0.length : Int) - (1 : Int))) == (((L0.length - 1) : Nat) : Int), true), (((L0.length : Int) == (0 : Int)), false), ((a1 == (17 : Int)), true), ((a1 == (16 : Int)), false), ((a1 == (15 : Int)), false)]) (by kernel_rfl) (Zb (Zg ⟨ltA, by decide, Zr2 (E := E_ii) (L := L0) (by omega) (show _ = _ * 2 from rfl), Zsj (E := E_ii) (L := L0) (R := (L0.take (L0.length - 1))) (show _ = _ * 2 from rfl) rfl⟩) <| oI <| oR <| Zb (beq_iff_eq.2 ((wrap_i64 ltA).trans (by first | rfl | omega))) <| oF <| oT <| oF <| oF Zf) rfl (by decide) (by rfl) ⟨Eq.trans (show (Value.tuple #[vs 1 0 (L0.take (L0.length - 1)).length (L0.take (L0.length - 1)).length, vT] : Value) = Value.tuple #[vs 1 0 (L0.length - 1) (L0.length - 1), vT] from (ZgR (Za (ZaL rfl eqA eqA) (Za rfl rfl)))) (by rfl), by rfl⟩ ⟨(Zh (E := E_ii) (α := R_ii) _ (L0.take (L0.length - 1)) _), trivial⟩
     ·
      exact ZeR
   ·
    refine Zv (fun g3 => ?_) (fun g3 => ?_)
    ·
     refine Zv (fun g4 => ?_) (fun g4 => ?_)
     ·
      exact Zq (r := (.r0 (true) : Z6)) (fu := 4000) (orc := (Zi [(0, false), (1, false), (2, false), (3, true), (4, true)] [] [] [] [])) (live := [0]) (u := Value.tuple #[vs 0 0 L0.length L0.length, vT]) (bl := [some (.cells (Zd E_ii L0) 102)]) (ob := [((decide ((L0.length : Int) > (0 : Int))), true), ((a1 == (18 : Int)), true), ((a1 == (17 : Int)), false), ((a1 == (16 : Int)), false), ((a1 == (15 : Int)), false)]) (by kernel_rfl) (oY <| oT <| oF <| oF <| oF Zf) rfl (by decide) (by rfl) rr ⟨(Zh (E := E_ii) (α := R_ii) _ L0 _), trivial⟩
     ·
      exact Zq (r := (.r0 (false) : Z6)) (fu := 4000) (orc := (Zi [(0, false), (1, false), (2, false), (3, true), (4, false)] [] [] [] [])) (live := [0]) (u := Value.tuple #[vs 0 0 L0.length L0.length, vf]) (bl := [some (.cells (Zd E_ii L0) 102)]) (ob := [((decide ((L0.length : Int) > (0 : Int))), false), ((a1 == (18 : Int)), true), ((a1 == (17 : Int)), false), ((a1 == (16 : Int)), false), ((a1 == (15 : Int)), false)]) (by kernel_rfl) (oN <| oT <| oF <| oF <| oF Zf) rfl (by decide) (by rfl) rr ⟨(Zh (E := E_ii) (α := R_ii) _ L0 _), trivial⟩
    ·
     refine Zv (fun g4 => ?_) (fun g4 => ?_)
     ·
      refine Zv (fun g5 => ?_) (fun g5 => ?_)
      ·
       exact Zq (r := (.r0 (true) : Z6)) (fu := 4000) (orc := (Zi [(0, false), (1, false), (2, false), (3, false), (4, true), (5, true)] [] [] [] [])) (live := [0]) (u := Value.tuple #[vs 0 0 L0.length L0.length, vT]) (bl := [some (.cells (Zd E_ii L0) 102)]) (ob := [(((L0.length : Int) == (0 : Int)), true), ((a1 == (20 : Int)), true), ((a1 == (18 : Int)), false), ((a1 == (17 : Int)), false), ((a1 == (16 : Int)), false), ((a1 == (15 : Int)), false)]) (by kernel_rfl) (oT <| oT <| oF <| oF <| oF <| oF Zf) rfl (by decide) (by rfl) rr ⟨(Zh (E := E_ii) (α := R_ii) _ L0 _), trivial⟩
      ·
       exact Zq (r := (.r0 (false) : Z6)) (fu := 4000) (orc := (Zi [(0, false), (1, false), (2, false), (3, false), (4, true), (5, false)] [] [] [] [])) (live := [0]) (u := Value.tuple #[vs 0 0 L0.length L0.length, vf]) (bl := [some (.cells (Zd E_ii L0) 102)]) (ob := [(((L0.length : Int) == (0 : Int)), false), ((a1 == (20 : Int)), true), ((a1 == (18 : Int)), false), ((a1 == (17 : Int)), false), ((a1 == (16 : Int)), false), ((a1 == (15 : Int)), false)]) (by kernel_rfl) (oF <| oT <| oF <| oF <| oF <| oF Zf) rfl (by decide) (by rfl) rr ⟨(Zh (E := E_ii) (α := R_ii) _ L0 _), trivial⟩
     ·
      exact Zq (r := (.r0 (true) : Z6)) (fu := 4000) (orc := (Zi [(0, false), (1, false), (2, false), (3, false), (4, false)] [] [] [] [])) (live := [0]) (u := Value.tuple #[vs 0 0 L0.length L0.length, vT]) (bl := [some (.cells (Zd E_ii L0) 102)]) (ob := [((a1 == (20 : Int)), false), ((a1 == (18 : Int)), false), ((a1 == (17 : Int)), false), ((a1 == (16 : Int)), false), ((a1 == (15 : Int)), false)]) (by kernel_rfl) (oF <| oF <| oF <| oF <| oF Zf) rfl (by decide) (by rfl) rr ⟨(Zh (E := E_ii) (α := R_ii) _ L0 _), trivial⟩

theorem Zes (L0 : List R_ii) (a1 a2 a3 a4 a5 : Int) (N : Nat) (r : Z6) (h : ZbX L0 a1 a2 a3 a4 a5 N = some r) : LSpec Tryz.prog 57 #[vs 0 0 L0.length L0.length, Value.agg #[vi a1, vi a2, vi a3, vi a4], vi a5] [.cells (Zd E_ii L0) 102] (ZiA L0 a1 a2 a3 a4 a5 r) (ZhS L0 a1 a2 a3 a4 a5 r) :=
 Zcq Za7 Tryz.func57 (by kernel_rfl) (by kernel_rfl) (fun r => by cases r <;> exact ZQ _ rfl) (ZlT L0 a1 a2 a3 a4 a5 N) h

noncomputable def Zei (L0 : List R_ii) (a1 a2 a3 a4 a5 : Int) (w1 : Bool) (k0 n : Nat) : Za8 := .call [(k0, .cells (Zd E_ii L0) 102)] (Value.tuple #[vs k0 0 L0.length L0.length, Value.bool w1]) [] 0
def Zdk (A : Array Value) (L0 : List R_ii) (a1 a2 a3 a4 a5 : Int) (w1 : Bool) (k0 n : Nat) : Prop := ZD Tryz.prog 57 A [(k0, .cells (Zd E_ii L0) 102)] (Value.tuple #[vs k0 0 L0.length L0.length, Value.bool w1]) [] n 0

theorem Zej (A : Array Value) (L0 : List R_ii) (a1 a2 a3 a4 a5 : Int) (w1 : Bool) (N : Nat) (h : ZbX L0 a1 a2 a3 a4 a5 N = some (.r0 w1)) (k0 n : Nat) (hA : A = #[vs k0 0 L0.length L0.length, Value.agg #[vi a1, vi a2, vi a3, vi a4], vi a5]) (hnd : ([k0] : List Nat).Nodup) (hlt : ∀ k ∈ ([k0] : List Nat), k < n) : Zdk A L0 a1 a2 a3 a4 a5 w1 k0 n :=
 ZT hA (LSpec.callL (show LSpec Tryz.prog 57 #[vs 0 0 L0.length L0.length, Value.agg #[vi a1, vi a2, vi a3, vi a4], vi a5] [.cells (Zd E_ii L0) 102] (Value.tuple #[vs 0 0 L0.length L0.length, Value.bool w1]) [some (.cells (Zd E_ii L0) 102)] from Zes L0 a1 a2 a3 a4 a5 N _ h) [k0] n [] rfl hnd hlt (show 1 ≤ 1 from by decide) (show ∀ j ∈ ([] : List Nat), j < 1 from by decide) (by rfl) ⟨(Z5 _ _ _), trivial⟩ (by rfl) ⟨(Z5 _ _ _), trivial⟩ ⟨.inr rfl, trivial⟩ rfl rfl rfl (Za (ZC rfl (Zad _ _ _)) rfl) rfl)

noncomputable def ZfF (L0 : List R_ii) (a1 a2 a3 a4 a5 : Int) (w1 : List R_ii) (k0 n : Nat) : Za8 := .call [(k0, .cells (Zd E_ii L0) 102)] (Value.tuple #[vs n 0 w1.length w1.length, vT]) [(n, some (.cells (Zd E_ii w1) 102))] 1
def Zek (A : Array Value) (L0 : List R_ii) (a1 a2 a3 a4 a5 : Int) (w1 : List R_ii) (k0 n : Nat) : Prop := ZD Tryz.prog 57 A [(k0, .cells (Zd E_ii L0) 102)] (Value.tuple #[vs n 0 w1.length w1.length, vT]) [(n, some (.cells (Zd E_ii w1) 102))] n 1

theorem ZfG (A : Array Value) (L0 : List R_ii) (a1 a2 a3 a4 a5 : Int) (w1 : List R_ii) (N : Nat) (h : ZbX L0 a1 a2 a3 a4 a5 N = some (.r1 w1)) (k0 n : Nat) (hA : A = #[vs k0 0 L0.length L0.length, Value.agg #[vi a1, vi a2, vi a3, vi a4], vi a5]) (hnd : ([k0] : List Nat).Nodup) (hlt : ∀ k ∈ ([k0] : List Nat), k < n) : Zek A L0 a1 a2 a3 a4 a5 w1 k0 n :=
 ZT hA (LSpec.callL (show LSpec Tryz.prog 57 #[vs 0 0 L0.length L0.length, Value.agg #[vi a1, vi a2, vi a3, vi a4], vi a5] [.cells (Zd E_ii L0) 102] (Value.tuple #[vs 1 0 w1.length w1.length, vT]) [some (.cells (Zd E_ii L0) 102), some (.cells (Zd E_ii w1) 102)] from Zes L0 a1 a2 a3 a4 a5 N _ h) [k0] n [1] rfl hnd hlt (show 1 ≤ 2 from by decide) (show ∀ j ∈ ([1] : List Nat), j < 2 from by decide) (by rfl) ⟨(Z5 _ _ _), trivial⟩ (by rfl) ⟨(Z5 _ _ _), ⟨(Z5 _ _ _), trivial⟩⟩ ⟨.inr rfl, ⟨(by decide), trivial⟩⟩ rfl rfl rfl (Za (ZC rfl (Zad _ _ _)) rfl) (Za (ZC rfl (ZbH (Zad _ _ _))) rfl))

noncomputable def ZfH (L0 : List R_ii) (a1 a2 a3 a4 a5 : Int) (k0 n : Nat) : Za8 := .call [(k0, .cells (Zd E_ii L0) 102)] (Value.tuple #[vs n 0 (L0.take (L0.length - 1)).length (L0.take (L0.length - 1)).length, vT]) [(k0, none), (n, some (.cells (Zd E_ii (L0.take (L0.length - 1))) 102))] 1
def Zel (A : Array Value) (L0 : List R_ii) (a1 a2 a3 a4 a5 : Int) (k0 n : Nat) : Prop := ZD Tryz.prog 57 A [(k0, .cells (Zd E_ii L0) 102)] (Value.tuple #[vs n 0 (L0.take (L0.length - 1)).length (L0.take (L0.length - 1)).length, vT]) [(k0, none), (n, some (.cells (Zd E_ii (L0.take (L0.length - 1))) 102))] n 1

theorem ZfI (A : Array Value) (L0 : List R_ii) (a1 a2 a3 a4 a5 : Int) (N : Nat) (h : ZbX L0 a1 a2 a3 a4 a5 N = some (.r2)) (k0 n : Nat) (hA : A = #[vs k0 0 L0.length L0.length, Value.agg #[vi a1, vi a2, vi a3, vi a4], vi a5]) (hnd : ([k0] : List Nat).Nodup) (hlt : ∀ k ∈ ([k0] : List Nat), k < n) : Zel A L0 a1 a2 a3 a4 a5 k0 n :=
 ZT hA (LSpec.callL (show LSpec Tryz.prog 57 #[vs 0 0 L0.length L0.length, Value.agg #[vi a1, vi a2, vi a3, vi a4], vi a5] [.cells (Zd E_ii L0) 102] (Value.tuple #[vs 1 0 (L0.take (L0.length - 1)).length (L0.take (L0.length - 1)).length, vT]) [none, some (.cells (Zd E_ii (L0.take (L0.length - 1))) 102)] from Zes L0 a1 a2 a3 a4 a5 N _ h) [k0] n [0, 1] rfl hnd hlt (show 1 ≤ 2 from by decide) (show ∀ j ∈ ([0, 1] : List Nat), j < 2 from by decide) (by rfl) ⟨(Z5 _ _ _), trivial⟩ (by rfl) ⟨(Z5 _ _ _), trivial⟩ ⟨.inl (by decide), ⟨(by decide), trivial⟩⟩ rfl rfl rfl (Za (ZC rfl (Zad _ _ _)) rfl) (Za (ZC rfl rfl) (Za (ZC rfl (ZbH (Zad _ _ _))) rfl)))

noncomputable def ZiB (a0 a1 a2 a3 : Int) : Zbb → Value
 | .r0 w0 w1 => Value.tuple #[vi w0, Value.bool w1]
noncomputable def ZhT (a0 a1 a2 a3 : Int) : Zbb → List (Option AObj)
 | .r0 w0 w1 => []

theorem ZlU (a0 a1 a2 a3 : Int) (N : Nat) : Fx Tryz.prog Zt Tryz.f59 [] #[Value.agg #[vi a0, vi a1, vi a2, vi a3]] (ZiB a0 a1 a2 a3) (ZhT a0 a1 a2 a3) (ZdN a0 a1 a2 a3 N) := by
 unfold ZdN
 refine Zv (fun g0 => ?_) (fun g0 => ?_)
 ·
  exact Zq (r := (.r0 (a1) (true) : Zbb)) (fu := 4000) (orc := (Zi [(0, true)] [] [] [] [])) (live := []) (u := Value.tuple #[vi a1, vT]) (bl := []) (ob := [((a0 == (8 : Int)), true)]) (by kernel_rfl) (oT Zf) rfl (by decide) (by rfl) rr trivial
 ·
  refine Zv (fun g1 => ?_) (fun g1 => ?_)
  ·
   exact Zq (r := (.r0 (a2) (true) : Zbb)) (fu := 4000) (orc := (Zi [(0, false), (1, true)] [] [] [] [])) (live := []) (u := Value.tuple #[vi a2, vT]) (bl := []) (ob := [((a0 == (9 : Int)), true), ((a0 == (8 : Int)), false)]) (by kernel_rfl) (oT <| oF Zf) rfl (by decide) (by rfl) rr trivial
  ·
   exact Zq (r := (.r0 ((0 : Int)) (false) : Zbb)) (fu := 4000) (orc := (Zi [(0, false), (1, false)] [] [] [] [])) (live := []) (u := Value.tuple #[vq, vf]) (bl := []) (ob := [((a0 == (9 : Int)), false), ((a0 == (8 : Int)), false)]) (by kernel_rfl) (oF <| oF Zf) rfl (by decide) (by rfl) rr trivial

theorem Zkn (a0 a1 a2 a3 : Int) (N : Nat) (r : Zbb) (h : ZdN a0 a1 a2 a3 N = some r) : LSpec Tryz.prog 59 #[Value.agg #[vi a0, vi a1, vi a2, vi a3]] [] (ZiB a0 a1 a2 a3 r) (ZhT a0 a1 a2 a3 r) :=
 Zcq Za7 Tryz.func59 (by kernel_rfl) (by kernel_rfl) (fun r => by cases r <;> exact ZQ _ rfl) (ZlU a0 a1 a2 a3 N) h

noncomputable def Zem (a0 a1 a2 a3 w0 : Int) (w1 : Bool) (n : Nat) : Za8 := .call [] (Value.tuple #[vi w0, Value.bool w1]) [] 0
def Zdl (A : Array Value) (a0 a1 a2 a3 w0 : Int) (w1 : Bool) (n : Nat) : Prop := ZD Tryz.prog 59 A [] (Value.tuple #[vi w0, Value.bool w1]) [] n 0

theorem Zen (A : Array Value) (a0 a1 a2 a3 w0 : Int) (w1 : Bool) (N : Nat) (h : ZdN a0 a1 a2 a3 N = some (.r0 w0 w1)) (n : Nat) (hA : A = #[Value.agg #[vi a0, vi a1, vi a2, vi a3]]) (hnd : ([] : List Nat).Nodup) (hlt : ∀ k ∈ ([] : List Nat), k < n) : Zdl A a0 a1 a2 a3 w0 w1  n :=
 ZT hA (LSpec.callL (show LSpec Tryz.prog 59 #[Value.agg #[vi a0, vi a1, vi a2, vi a3]] [] (Value.tuple #[vi w0, Value.bool w1]) [] from Zkn a0 a1 a2 a3 N _ h) [] n [] rfl hnd hlt (show 0 ≤ 0 from by decide) (show ∀ j ∈ ([] : List Nat), j < 0 from by decide) (by rfl) trivial (by rfl) trivial trivial rfl rfl rfl rfl rfl)

noncomputable def ZjC (L0 : List RB) (a1 : Int) : Zaf → Value
 | .r0 => vn
 | .r1 w1 => vs 1 0 w1.length w1.length
noncomputable def ZiC (L0 : List RB) (a1 : Int) : Zaf → List (Option AObj)
 | .r0 => [some (.cells (Zd Ze L0) 54)]
 | .r1 w1 => [some (.cells (Zd Ze L0) 54), some (.cells (Zd E_ii w1) 102)]

def Znw : ZF → Nat
 | .h1m0 v2 => 1
 | .h1m1 v2 v3 => 1
noncomputable def ZoV (L0 : List RB) (a1 : Int) : ZF → List (Nat × Value)
 | .h1m0 v2 => [(0, vs 0 0 L0.length L0.length), (1, vi a1), (5, vn), (6, vi (v2 : Int))]
 | .h1m1 v2 v3 => [(0, vs 0 0 L0.length L0.length), (1, vi a1), (5, vs 1 0 v2.length v2.length), (6, vi (v3 : Int))]
noncomputable def ZoW (L0 : List RB) (a1 : Int) : ZF → List (Option AObj)
 | .h1m0 v2 => [some (.cells (Zd Ze L0) 54)]
 | .h1m1 v2 v3 => [some (.cells (Zd Ze L0) 54), some (.cells (Zd E_ii v2) 102)]

noncomputable def Zc4 : Nat → Code × List Zar
 | 1 => ZaJ [1, 1, 0, 1, 3] (Zb3 Tryz.f45) []
 | _ => (.skip, [])
def ZiD : Nat → Bool
 | 1 => true
 | _ => true
noncomputable def ZdS (i : Nat) : List Zar := match ZiD i with | true => .rnd i :: (Zc4 i).2 | false => (Zc4 i).2

noncomputable def Zag (L0 : List RB) (a1 : Int) (N : Nat) : Mach := ⟨Tryz.f45, [.cells (Zd Ze L0) 54], ZF, Zaf, ZcL L0 a1 N, Znw, Zc4, ZiD, ZoV L0 a1, ZoW L0 a1, ZjC L0 a1, ZiC L0 a1⟩

theorem Zko (L0 : List RB) (a1 : Int) (v2 N : Nat) : (Zag L0 a1 N).Ok Tryz.prog Zt (.h1m0 v2 : ZF) (ZcL L0 a1 N (.h1m0 v2 : ZF)) := by
 show (Zag L0 a1 N).Ok Tryz.prog Zt (.h1m0 v2 : ZF) (ZeC L0 a1 N v2)
 unfold ZeC
 refine Mach.ok_ite (fun g0 => ?_) (fun g0 => ?_)
 ·
  refine Mach.ok_ite (fun g1 => ?_) (fun g1 => ?_)
  ·
   refine Mach.ok_bind (fun z2 c2 => ?_)
   cases z2 with
   | r0 =>
    refine Mach.ok_ite (fun g3 => ?_) (fun g3 => ?_)
    ·
     exact Mach.ok_next (M := Zag L0 a1 N) (cd := 1000000) (cm := 0) (y := (.h1m1 (([(⟨(v2 : Int), (0 : Int)⟩ : R_ii)] : List R_ii)) ((v2 + 1)) : ZF)) (fu := 4000) (orc := (Zi [(0, true), (1, true)] [(0, (((v2 + 1) : Nat) : Int))] [(0, v2)] [(0, [.i (L0.getD v2 RB.z).a0, .i (L0.getD v2 RB.z).a1, .i (L0.getD v2 RB.z).a2, .i (L0.getD v2 RB.z).a3])] [(0, (Zha ((L0.getD v2 RB.z).a0) ((L0.getD v2 RB.z).a1) ((L0.getD v2 RB.z).a2) ((L0.getD v2 RB.z).a3) ((v2 : Int))    1))])) (live := [0, 1]) (tv := fun _ => [some (vs 0 0 L0.length L0.length), some (vi a1), some (vs 1 0 1 1), some (vi (((v2 + 1) : Nat) : Int))]) (bl := [some (.cells (Zd Ze L0) 54), some (.cells (Zd E_ii ([(⟨(v2 : Int), (0 : Int)⟩ : R_ii)] : List R_ii)) 102)]) (ob := [((IntKind.i64.wrap ((v2 : Int) + (1 : Int))) == (((v2 + 1) : Nat) : Int), true), (dP (Zfz #[vn, Value.agg #[vi (L0.getD v2 RB.z).a0, vi (L0.getD v2 RB.z).a1, vi (L0.getD v2 RB.z).a2, vi (L0.getD v2 RB.z).a3], vi (v2 : Int)] ((L0.getD v2 RB.z).a0) ((L0.getD v2 RB.z).a1) ((L0.getD v2 RB.z).a2) ((L0.getD v2 RB.z).a3) ((v2 : Int))    1), true), (Z8 (Zp 4 (List.drop (0 + (v2 * 4)) (Zd Ze L0))) [.i (L0.getD v2 RB.z).a0, .i (L0.getD v2 RB.z).a1, .i (L0.getD v2 RB.z).a2, .i (L0.getD v2 RB.z).a3], true), (Nat.blt v2 L0.length, true), ((v2 : Int) == Int.ofNat v2, true), ((decide ((v2 : Int) < (L0.length : Int))), true), ((decide ((v2 : Int) < a1)), true)]) rfl (show 1 ∈ Zu (ZdS 1) from by decide +kernel) (fun gv => by kernel_rfl) (Zb (beq_iff_eq.2 ((wrap_i64 ltA).trans (by first | rfl | omega))) <| Zb (Zg (Zhb #[vn, Value.agg #[vi (L0.getD v2 RB.z).a0, vi (L0.getD v2 RB.z).a1, vi (L0.getD v2 RB.z).a2, vi (L0.getD v2 RB.z).a3], vi (v2 : Int)] ((L0.getD v2 RB.z).a0) ((L0.getD v2 RB.z).a1) ((L0.getD v2 RB.z).a2) ((L0.getD v2 RB.z).a3) ((v2 : Int))   N c2  1 rfl (by decide) (by decide))) <| Zb (Zo (E := Ze) (L := L0) (i := v2) (q := 0) (by omega) (show (0 + (v2 * 4)) = v2 * 4 + 0 from by omega) (show 0 + 4 ≤ 4 from by decide) rfl rfl) <| oB <| oI <| oY <| oY Zf) rfl (by decide) (by rfl) (fun _ => ⟨rr, ⟨rr, ⟨⟨Eq.trans (show (vs 1 0 ([(⟨(v2 : Int), (0 : Int)⟩ : R_ii)] : List R_ii).length ([(⟨(v2 : Int), (0 : Int)⟩ : R_ii)] : List R_ii).length : Value) = vs 1 0 1 1 from (ZaL rfl eqA eqA)) (by rfl), by rfl⟩, ⟨rr, trivial⟩⟩⟩⟩) ⟨(Zh (E := Ze) (α := RB) _ L0 _), ⟨(Zh (E := E_ii) (α := R_ii) _ ([(⟨(v2 : Int), (0 : Int)⟩ : R_ii)] : List R_ii) _), trivial⟩⟩
    ·
     exact Mach.ok_none
   | r1 y2_0 =>
    refine Mach.ok_ite (fun g3 => ?_) (fun g3 => ?_)
    ·
     exact Mach.ok_next (M := Zag L0 a1 N) (cd := 1000000) (cm := 0) (y := (.h1m0 ((v2 + 1)) : ZF)) (fu := 4000) (orc := (Zi [(0, true), (1, true)] [(0, (((v2 + 1) : Nat) : Int))] [(0, v2)] [(0, [.i (L0.getD v2 RB.z).a0, .i (L0.getD v2 RB.z).a1, .i (L0.getD v2 RB.z).a2, .i (L0.getD v2 RB.z).a3])] [(0, (Zf0 ((L0.getD v2 RB.z).a0) ((L0.getD v2 RB.z).a1) ((L0.getD v2 RB.z).a2) ((L0.getD v2 RB.z).a3) ((v2 : Int))  y2_0  1))])) (live := [0]) (tv := fun _ => [some (vs 0 0 L0.length L0.length), some (vi a1), some (vn), some (vi (((v2 + 1) : Nat) : Int))]) (bl := [some (.cells (Zd Ze L0) 54)]) (ob := [((IntKind.i64.wrap ((v2 : Int) + (1 : Int))) == (((v2 + 1) : Nat) : Int), true), (dP (ZdR #[vn, Value.agg #[vi (L0.getD v2 RB.z).a0, vi (L0.getD v2 RB.z).a1, vi (L0.getD v2 RB.z).a2, vi (L0.getD v2 RB.z).a3], vi (v2 : Int)] ((L0.getD v2 RB.z).a0) ((L0.getD v2 RB.z).a1) ((L0.getD v2 RB.z).a2) ((L0.getD v2 RB.z).a3) ((v2 : Int))  y2_0  1), true), (Z8 (Zp 4 (List.drop (0 + (v2 * 4)) (Zd Ze L0))) [.i (L0.getD v2 RB.z).a0, .i (L0.getD v2 RB.z).a1, .i (L0.getD v2 RB.z).a2, .i (L0.getD v2 RB.z).a3], true), (Nat.blt v2 L0.length, true), ((v2 : Int) == Int.ofNat v2, true), ((decide ((v2 : Int) < (L0.length : Int))), true), ((decide ((v2 : Int) < a1)), true)]) rfl (show 1 ∈ Zu (ZdS 1) from by decide +kernel) (fun gv => by kernel_rfl) (Zb (beq_iff_eq.2 ((wrap_i64 ltA).trans (by first | rfl | omega))) <| Zb (Zg (Zf1 #[vn, Value.agg #[vi (L0.getD v2 RB.z).a0, vi (L0.getD v2 RB.z).a1, vi (L0.getD v2 RB.z).a2, vi (L0.getD v2 RB.z).a3], vi (v2 : Int)] ((L0.getD v2 RB.z).a0) ((L0.getD v2 RB.z).a1) ((L0.getD v2 RB.z).a2) ((L0.getD v2 RB.z).a3) ((v2 : Int))  y2_0 N c2  1 rfl (by decide) (by decide))) <| Zb (Zo (E := Ze) (L := L0) (i := v2) (q := 0) (by omega) (show (0 + (v2 * 4)) = v2 * 4 + 0 from by omega) (show 0 + 4 ≤ 4 from by decide) rfl rfl) <| oB <| oI <| oY <| oY Zf) rfl (by decide) (by rfl) (fun _ => ⟨rr, ⟨rr, ⟨rr, ⟨rr, trivial⟩⟩⟩⟩) ⟨(Zh (E := Ze) (α := RB) _ L0 _), trivial⟩
    ·
     exact Mach.ok_none
  ·
   exact Mach.ok_fin (M := Zag L0 a1 N) (cd := 1000000) (cm := 0) (r := (.r0 : Zaf)) (fu := 4000) (orc := (Zi [(0, true), (1, false)] [] [] [] [])) (live := [0]) (u := vn) (bl := [some (.cells (Zd Ze L0) 54)]) (ob := [((decide ((v2 : Int) < (L0.length : Int))), false), ((decide ((v2 : Int) < a1)), true)]) (fun gv => by kernel_rfl) (oN <| oY Zf) rfl (by decide) (by rfl) rr ⟨(Zh (E := Ze) (α := RB) _ L0 _), trivial⟩
 ·
  exact Mach.ok_fin (M := Zag L0 a1 N) (cd := 1000000) (cm := 0) (r := (.r0 : Zaf)) (fu := 4000) (orc := (Zi [(0, false)] [] [] [] [])) (live := [0]) (u := vn) (bl := [some (.cells (Zd Ze L0) 54)]) (ob := [((decide ((v2 : Int) < a1)), false)]) (fun gv => by kernel_rfl) (oN Zf) rfl (by decide) (by rfl) rr ⟨(Zh (E := Ze) (α := RB) _ L0 _), trivial⟩

theorem Zkp (L0 : List RB) (a1 : Int) (v2 : List R_ii) (v3 N : Nat) : (Zag L0 a1 N).Ok Tryz.prog Zt (.h1m1 v2 v3 : ZF) (ZcL L0 a1 N (.h1m1 v2 v3 : ZF)) := by
 show (Zag L0 a1 N).Ok Tryz.prog Zt (.h1m1 v2 v3 : ZF) (ZeD L0 a1 N v2 v3)
 unfold ZeD
 refine Mach.ok_ite (fun g0 => ?_) (fun g0 => ?_)
 ·
  refine Mach.ok_ite (fun g1 => ?_) (fun g1 => ?_)
  ·
   refine Mach.ok_bind (fun z2 c2 => ?_)
   cases z2 with
   | r0 y2_0 =>
    refine Mach.ok_ite (fun g3 => ?_) (fun g3 => ?_)
    ·
     exact Mach.ok_next (M := Zag L0 a1 N) (cd := 1000000) (cm := 0) (y := (.h1m1 (v2) ((v3 + 1)) : ZF)) (fu := 4000) (orc := (Zi [(0, true), (1, true)] [(0, (((v3 + 1) : Nat) : Int))] [(0, v3)] [(0, [.i (L0.getD v3 RB.z).a0, .i (L0.getD v3 RB.z).a1, .i (L0.getD v3 RB.z).a2, .i (L0.getD v3 RB.z).a3])] [(0, (Zei (v2) ((L0.getD v3 RB.z).a0) ((L0.getD v3 RB.z).a1) ((L0.getD v3 RB.z).a2) ((L0.getD v3 RB.z).a3) ((v3 : Int))  y2_0 1 2))])) (live := [0, 1]) (tv := fun _ => [some (vs 0 0 L0.length L0.length), some (vi a1), some (vs 1 0 v2.length v2.length), some (vi (((v3 + 1) : Nat) : Int))]) (bl := [some (.cells (Zd Ze L0) 54), some (.cells (Zd E_ii v2) 102)]) (ob := [((IntKind.i64.wrap ((v3 : Int) + (1 : Int))) == (((v3 + 1) : Nat) : Int), true), (dP (Zdk #[vs 1 0 v2.length v2.length, Value.agg #[vi (L0.getD v3 RB.z).a0, vi (L0.getD v3 RB.z).a1, vi (L0.getD v3 RB.z).a2, vi (L0.getD v3 RB.z).a3], vi (v3 : Int)] (v2) ((L0.getD v3 RB.z).a0) ((L0.getD v3 RB.z).a1) ((L0.getD v3 RB.z).a2) ((L0.getD v3 RB.z).a3) ((v3 : Int))  y2_0 1 2), true), (dS (Zd E_ii v2), true), (Z8 (Zp 4 (List.drop (0 + (v3 * 4)) (Zd Ze L0))) [.i (L0.getD v3 RB.z).a0, .i (L0.getD v3 RB.z).a1, .i (L0.getD v3 RB.z).a2, .i (L0.getD v3 RB.z).a3], true), (Nat.blt v3 L0.length, true), ((v3 : Int) == Int.ofNat v3, true), ((decide ((v3 : Int) < (L0.length : Int))), true), ((decide ((v3 : Int) < a1)), true)]) rfl (show 1 ∈ Zu (ZdS 1) from by decide +kernel) (fun gv => by kernel_rfl) (Zb (beq_iff_eq.2 ((wrap_i64 ltA).trans (by first | rfl | omega))) <| Zb (Zg (Zej #[vs 1 0 v2.length v2.length, Value.agg #[vi (L0.getD v3 RB.z).a0, vi (L0.getD v3 RB.z).a1, vi (L0.getD v3 RB.z).a2, vi (L0.getD v3 RB.z).a3], vi (v3 : Int)] (v2) ((L0.getD v3 RB.z).a0) ((L0.getD v3 RB.z).a1) ((L0.getD v3 RB.z).a2) ((L0.getD v3 RB.z).a3) ((v3 : Int))  y2_0 N c2 1 2 rfl (by decide) (by decide))) <| oR <| Zb (Zo (E := Ze) (L := L0) (i := v3) (q := 0) (by omega) (show (0 + (v3 * 4)) = v3 * 4 + 0 from by omega) (show 0 + 4 ≤ 4 from by decide) rfl rfl) <| oB <| oI <| oY <| oY Zf) rfl (by decide) (by rfl) (fun _ => ⟨rr, ⟨rr, ⟨rr, ⟨rr, trivial⟩⟩⟩⟩) ⟨(Zh (E := Ze) (α := RB) _ L0 _), ⟨(Zh (E := E_ii) (α := R_ii) _ v2 _), trivial⟩⟩
    ·
     exact Mach.ok_none
   | r1 y2_0 =>
    refine Mach.ok_ite (fun g3 => ?_) (fun g3 => ?_)
    ·
     exact Mach.ok_next (M := Zag L0 a1 N) (cd := 1000000) (cm := 0) (y := (.h1m1 (y2_0) ((v3 + 1)) : ZF)) (fu := 4000) (orc := (Zi [(0, true), (1, true)] [(0, (((v3 + 1) : Nat) : Int))] [(0, v3)] [(0, [.i (L0.getD v3 RB.z).a0, .i (L0.getD v3 RB.z).a1, .i (L0.getD v3 RB.z).a2, .i (L0.getD v3 RB.z).a3])] [(0, (ZfF (v2) ((L0.getD v3 RB.z).a0) ((L0.getD v3 RB.z).a1) ((L0.getD v3 RB.z).a2) ((L0.getD v3 RB.z).a3) ((v3 : Int))  y2_0 1 2))])) (live := [0, 2]) (tv := fun _ => [some (vs 0 0 L0.length L0.length), some (vi a1), some (vs 2 0 y2_0.length y2_0.length), some (vi (((v3 + 1) : Nat) : Int))]) (bl := [some (.cells (Zd Ze L0) 54), some (.cells (Zd E_ii y2_0) 102)]) (ob := [((IntKind.i64.wrap ((v3 : Int) + (1 : Int))) == (((v3 + 1) : Nat) : Int), true), (dP (Zek #[vs 1 0 v2.length v2.length, Value.agg #[vi (L0.getD v3 RB.z).a0, vi (L0.getD v3 RB.z).a1, vi (L0.getD v3 RB.z).a2, vi (L0.getD v3 RB.z).a3], vi (v3 : Int)] (v2) ((L0.getD v3 RB.z).a0) ((L0.getD v3 RB.z).a1) ((L0.getD v3 RB.z).a2) ((L0.getD v3 RB.z).a3) ((v3 : Int))  y2_0 1 2), true), (dS (Zd E_ii v2), true), (Z8 (Zp 4 (List.drop (0 + (v3 * 4)) (Zd Ze L0))) [.i (L0.getD v3 RB.z).a0, .i (L0.getD v3 RB.z).a1, .i (L0.getD v3 RB.z).a2, .i (L0.getD v3 RB.z).a3], true), (Nat.blt v3 L0.length, true), ((v3 : Int) == Int.ofNat v3, true), ((decide ((v3 : Int) < (L0.length : Int))), true), ((decide ((v3 : Int) < a1)), true)]) rfl (show 1 ∈ Zu (ZdS 1) from by decide +kernel) (fun gv => by kernel_rfl) (Zb (beq_iff_eq.2 ((wrap_i64 ltA).trans (by first | rfl | omega))) <| Zb (Zg (ZfG #[vs 1 0 v2.length v2.length, Value.agg #[vi (L0.getD v3 RB.z).a0, vi (L0.getD v3 RB.z).a1, vi (L0.getD v3 RB.z).a2, vi (L0.getD v3 RB.z).a3], vi (v3 : Int)] (v2) ((L0.getD v3 RB.z).a0) ((L0.getD v3 RB.z).a1) ((L0.getD v3 RB.z).a2) ((L0.getD v3 RB.z).a3) ((v3 : Int))  y2_0 N c2 1 2 rfl (by decide) (by decide))) <| oR <| Zb (Zo (E := Ze) (L := L0) (i := v3) (q := 0) (by omega) (show (0 + (v3 * 4)) = v3 * 4 + 0 from by omega) (show 0 + 4 ≤ 4 from by decide) rfl rfl) <| oB <| oI <| oY <| oY Zf) rfl (by decide) (by rfl) (fun _ => ⟨rr, ⟨rr, ⟨rr, ⟨rr, trivial⟩⟩⟩⟩) ⟨(Zh (E := Ze) (α := RB) _ L0 _), ⟨(Zh (E := E_ii) (α := R_ii) _ y2_0 _), trivial⟩⟩
    ·
     exact Mach.ok_none
   | r2 =>
    refine Mach.ok_ite (fun g3 => ?_) (fun g3 => ?_)
    ·
     exact Mach.ok_next (M := Zag L0 a1 N) (cd := 1000000) (cm := 0) (y := (.h1m1 ((v2.take (v2.length - 1))) ((v3 + 1)) : ZF)) (fu := 4000) (orc := (Zi [(0, true), (1, true)] [(0, (((v3 + 1) : Nat) : Int))] [(0, v3)] [(0, [.i (L0.getD v3 RB.z).a0, .i (L0.getD v3 RB.z).a1, .i (L0.getD v3 RB.z).a2, .i (L0.getD v3 RB.z).a3])] [(0, (ZfH (v2) ((L0.getD v3 RB.z).a0) ((L0.getD v3 RB.z).a1) ((L0.getD v3 RB.z).a2) ((L0.getD v3 RB.z).a3) ((v3 : Int))   1 2))])) (live := [0, 2]) (tv := fun _ => [some (vs 0 0 L0.length L0.length), some (vi a1), some (vs 2 0 (v2.take (v2.length - 1)).length (v2.take (v2.length - 1)).length), some (vi (((v3 + 1) : Nat) : Int))]) (bl := [some (.cells (Zd Ze L0) 54), some (.cells (Zd E_ii (v2.take (v2.length - 1))) 102)]) (ob := [((IntKind.i64.wrap ((v3 : Int) + (1 : Int))) == (((v3 + 1) : Nat) : Int), true), (dP (Zel #[vs 1 0 v2.length v2.length, Value.agg #[vi (L0.getD v3 RB.z).a0, vi (L0.getD v3 RB.z).a1, vi (L0.getD v3 RB.z).a2, vi (L0.getD v3 RB.z).a3], vi (v3 : Int)] (v2) ((L0.getD v3 RB.z).a0) ((L0.getD v3 RB.z).a1) ((L0.getD v3 RB.z).a2) ((L0.getD v3 RB.z).a3) ((v3 : Int))   1 2), true), (dS (Zd E_ii v2), true), (Z8 (Zp 4 (List.drop (0 + (v3 * 4)) (Zd Ze L0))) [.i (L0.getD v3 RB.z).a0, .i (L0.getD v3 RB.z).a1, .i (L0.getD v3 RB.z).a2, .i (L0.getD v3 RB.z).a3], true), (Nat.blt v3 L0.length, true), ((v3 : Int) == Int.ofNat v3, true), ((decide ((v3 : Int) < (L0.length : Int))), true), ((decide ((v3 : Int) < a1)), true)]) rfl (show 1 ∈ Zu (ZdS 1) from by decide +kernel) (fun gv => by kernel_rfl) (Zb (beq_iff_eq.2 ((wrap_i64 ltA).trans (by first | rfl | omega))) <| Zb (Zg (ZfI #[vs 1 0 v2.length v2.length, Value.agg #[vi (L0.getD v3 RB.z).a0, vi (L0.getD v3 RB.z).a1, vi (L0.getD v3 RB.z).a2, vi (L0.getD v3 RB.z).a3], vi (v3 : Int)] (v2) ((L0.getD v3 RB.z).a0) ((L0.getD v3 RB.z).a1) ((L0.getD v3 RB.z).a2) ((L0.getD v3 RB.z).a3) ((v3 : Int))   N c2 1 2 rfl (by decide) (by decide))) <| oR <| Zb (Zo (E := Ze) (L := L0) (i := v3) (q := 0) (by omega) (show (0 + (v3 * 4)) = v3 * 4 + 0 from by omega) (show 0 + 4 ≤ 4 from by decide) rfl rfl) <| oB <| oI <| oY <| oY Zf) rfl (by decide) (by rfl) (fun _ => ⟨rr, ⟨rr, ⟨rr, ⟨rr, trivial⟩⟩⟩⟩) ⟨(Zh (E := Ze) (α := RB) _ L0 _), ⟨(Zh (E := E_ii) (α := R_ii) _ (v2.take (v2.length - 1)) _), trivial⟩⟩
    ·
     exact Mach.ok_none
  ·
   exact Mach.ok_fin (M := Zag L0 a1 N) (cd := 1000000) (cm := 0) (r := (.r1 (v2) : Zaf)) (fu := 4000) (orc := (Zi [(0, true), (1, false)] [] [] [] [])) (live := [0, 1]) (u := vs 1 0 v2.length v2.length) (bl := [some (.cells (Zd Ze L0) 54), some (.cells (Zd E_ii v2) 102)]) (ob := [((decide ((v3 : Int) < (L0.length : Int))), false), ((decide ((v3 : Int) < a1)), true)]) (fun gv => by kernel_rfl) (oN <| oY Zf) rfl (by decide) (by rfl) rr ⟨(Zh (E := Ze) (α := RB) _ L0 _), ⟨(Zh (E := E_ii) (α := R_ii) _ v2 _), trivial⟩⟩
 ·
  exact Mach.ok_fin (M := Zag L0 a1 N) (cd := 1000000) (cm := 0) (r := (.r1 (v2) : Zaf)) (fu := 4000) (orc := (Zi [(0, false)] [] [] [] [])) (live := [0, 1]) (u := vs 1 0 v2.length v2.length) (bl := [some (.cells (Zd Ze L0) 54), some (.cells (Zd E_ii v2) 102)]) (ob := [((decide ((v3 : Int) < a1)), false)]) (fun gv => by kernel_rfl) (oN Zf) rfl (by decide) (by rfl) rr ⟨(Zh (E := Ze) (α := RB) _ L0 _), ⟨(Zh (E := E_ii) (α := R_ii) _ v2 _), trivial⟩⟩

theorem Zm3 (L0 : List RB) (a1 : Int) (N : Nat) : (Zag L0 a1 N).Enter Tryz.prog Zt #[vs 0 0 L0.length L0.length, vi a1] (Zgn L0 a1 N) := by
 unfold Zgn
 exact Mach.en_head (bK := Zc4 1) (M := Zag L0 a1 N) (cd := 1000000) (cm := 0) (y := (.h1m0 (0) : ZF)) (fu := 4000) (orc := (Zi [] [] [] [] [])) (live := [0]) (tv := [some (vs 0 0 L0.length L0.length), some (vi a1), some (vn), some (vq)]) (bl := [some (.cells (Zd Ze L0) 54)]) (ob := []) rfl rfl (show Zu (Zc4 1).2 = [] from rfl) (by kernel_rfl) Zf rfl (by decide) (by rfl) ⟨rr, ⟨rr, ⟨rr, ⟨⟨Eq.trans (show (vi ((0 : Nat) : Int) : Value) = vq from (congrArg (Value.int .i64) (by first | rfl | omega))) (by rfl), by rfl⟩, trivial⟩⟩⟩⟩ ⟨(Zh (E := Ze) (α := RB) _ L0 _), trivial⟩

theorem Zhc (L0 : List RB) (a1 : Int) (N : Nat) (r : Zaf) (h : ZfN L0 a1 N = some r) : LSpec Tryz.prog 45 #[vs 0 0 L0.length L0.length, vi a1] [.cells (Zd Ze L0) 54] (ZjC L0 a1 r) (ZiC L0 a1 r) :=
 Mach.spec Za7 (Zag L0 a1 N) Tryz.func45 (by kernel_rfl) (by kernel_rfl) (fun x => by cases x <;> exact ZQ _ rfl) (fun r => by cases r <;> exact ZQ _ rfl) (fun x => by
  cases x with
  | h1m0 _ => exact fun _ => (show ¬ (1 ∈ Zu (Zc4 1).2) from by decide +kernel)
  | h1m1 _ _ => exact fun _ => (show ¬ (1 ∈ Zu (Zc4 1).2) from by decide +kernel)
  ) (fun x => (show (Zag L0 a1 N).Ok Tryz.prog Zt x (ZcL L0 a1 N x) from by
  cases x with
  | h1m0 v2 => exact Zko L0 a1 v2 N
  | h1m1 v2 v3 => exact Zkp L0 a1 v2 v3 N
  )) (Zm3 L0 a1 N) (n := N) h

noncomputable def Znx (L0 : List RB) (a1 : Int) (k0 n : Nat) : Za8 := .call [(k0, .cells (Zd Ze L0) 54)] (vn) [] 0
def ZiE (A : Array Value) (L0 : List RB) (a1 : Int) (k0 n : Nat) : Prop := ZD Tryz.prog 45 A [(k0, .cells (Zd Ze L0) 54)] (vn) [] n 0

theorem Zny (A : Array Value) (L0 : List RB) (a1 : Int) (N : Nat) (h : ZfN L0 a1 N = some (.r0)) (k0 n : Nat) (hA : A = #[vs k0 0 L0.length L0.length, vi a1]) (hnd : ([k0] : List Nat).Nodup) (hlt : ∀ k ∈ ([k0] : List Nat), k < n) : ZiE A L0 a1 k0 n :=
 ZT hA (LSpec.callL (show LSpec Tryz.prog 45 #[vs 0 0 L0.length L0.length, vi a1] [.cells (Zd Ze L0) 54] (vn) [some (.cells (Zd Ze L0) 54)] from Zhc L0 a1 N _ h) [k0] n [] rfl hnd hlt (show 1 ≤ 1 from by decide) (show ∀ j ∈ ([] : List Nat), j < 1 from by decide) (by rfl) ⟨(Z5 _ _ _), trivial⟩ (by rfl) ⟨(Z5 _ _ _), trivial⟩ ⟨.inr rfl, trivial⟩ rfl rfl rfl (Za (ZC rfl (Zad _ _ _)) rfl) rfl)

noncomputable def ZiF (L0 : List RB) (a1 : Int) (w1 : List R_ii) (k0 n : Nat) : Za8 := .call [(k0, .cells (Zd Ze L0) 54)] (vs n 0 w1.length w1.length) [(n, some (.cells (Zd E_ii w1) 102))] 1
def Zgr (A : Array Value) (L0 : List RB) (a1 : Int) (w1 : List R_ii) (k0 n : Nat) : Prop := ZD Tryz.prog 45 A [(k0, .cells (Zd Ze L0) 54)] (vs n 0 w1.length w1.length) [(n, some (.cells (Zd E_ii w1) 102))] n 1

theorem ZiG (A : Array Value) (L0 : List RB) (a1 : Int) (w1 : List R_ii) (N : Nat) (h : ZfN L0 a1 N = some (.r1 w1)) (k0 n : Nat) (hA : A = #[vs k0 0 L0.length L0.length, vi a1]) (hnd : ([k0] : List Nat).Nodup) (hlt : ∀ k ∈ ([k0] : List Nat), k < n) : Zgr A L0 a1 w1 k0 n :=
 ZT hA (LSpec.callL (show LSpec Tryz.prog 45 #[vs 0 0 L0.length L0.length, vi a1] [.cells (Zd Ze L0) 54] (vs 1 0 w1.length w1.length) [some (.cells (Zd Ze L0) 54), some (.cells (Zd E_ii w1) 102)] from Zhc L0 a1 N _ h) [k0] n [1] rfl hnd hlt (show 1 ≤ 2 from by decide) (show ∀ j ∈ ([1] : List Nat), j < 2 from by decide) (by rfl) ⟨(Z5 _ _ _), trivial⟩ (by rfl) ⟨(Z5 _ _ _), ⟨(Z5 _ _ _), trivial⟩⟩ ⟨.inr rfl, ⟨(by decide), trivial⟩⟩ rfl rfl rfl (Za (ZC rfl (Zad _ _ _)) rfl) (Za (ZC rfl (ZbH (Zad _ _ _))) rfl))

noncomputable def ZiH (L0 : List RB) (a1 : Int) : Zbc → Value
 | .r0 w1 w2 => Value.agg #[vi w1, vi w2]
noncomputable def ZhU (L0 : List RB) (a1 : Int) : Zbc → List (Option AObj)
 | .r0 w1 w2 => [some (.cells (Zd Ze L0) 54)]

theorem ZlV (L0 : List RB) (a1 : Int) (N : Nat) : Fx Tryz.prog Zt Tryz.f46 [.cells (Zd Ze L0) 54] #[vs 0 0 L0.length L0.length, vi a1] (ZiH L0 a1) (ZhU L0 a1) (Zc1 L0 a1 N) := by
 unfold Zc1
 refine ZeS (fun z0 c0 => ?_)
 cases z0 with
 | r0 =>
  exact Zq (r := (.r0 ((-1 : Int)) ((0 : Int)) : Zbc)) (fu := 4000) (orc := (Zi [] [] [] [] [(0, (Znx (L0) (a1)   0 2))])) (live := [0]) (u := Value.agg #[vi (-1 : Int), vq]) (bl := [some (.cells (Zd Ze L0) 54)]) (ob := [(dP (ZiE #[vs 0 0 L0.length L0.length, vi a1] (L0) (a1)   0 2), true), (dS (Zd Ze L0), true)]) (by kernel_rfl) (Zb (Zg (Zny #[vs 0 0 L0.length L0.length, vi a1] (L0) (a1)   N c0 0 2 rfl (by decide) (by decide))) <| oR Zf) rfl (by decide) (by rfl) rr ⟨(Zh (E := Ze) (α := RB) _ L0 _), trivial⟩
 | r1 y0_0 =>
  refine Zv (fun g1 => ?_) (fun g1 => ?_)
  ·
   exact Zq (r := (.r0 ((-1 : Int)) ((0 : Int)) : Zbc)) (fu := 4000) (orc := (Zi [(0, true)] [] [] [] [(0, (ZiF (L0) (a1)  y0_0 0 2))])) (live := [0]) (u := Value.agg #[vi (-1 : Int), vq]) (bl := [some (.cells (Zd Ze L0) 54)]) (ob := [(((y0_0.length : Int) == (0 : Int)), true), (dP (Zgr #[vs 0 0 L0.length L0.length, vi a1] (L0) (a1)  y0_0 0 2), true), (dS (Zd Ze L0), true)]) (by kernel_rfl) (oT <| Zb (Zg (ZiG #[vs 0 0 L0.length L0.length, vi a1] (L0) (a1)  y0_0 N c0 0 2 rfl (by decide) (by decide))) <| oR Zf) rfl (by decide) (by rfl) rr ⟨(Zh (E := Ze) (α := RB) _ L0 _), trivial⟩
  ·
   refine Zv (fun g2 => ?_) (fun g2 => ?_)
   ·
    exact Zq (r := (.r0 ((y0_0.getD (y0_0.length - 1) R_ii.z).a0) ((y0_0.getD (y0_0.length - 1) R_ii.z).a1) : Zbc)) (fu := 4000) (orc := (Zi [(0, false)] [(0, (((y0_0.length - 1) : Nat) : Int))] [(0, (y0_0.length - 1))] [(0, [.i (y0_0.getD (y0_0.length - 1) R_ii.z).a0, .i (y0_0.getD (y0_0.length - 1) R_ii.z).a1])] [(0, (ZiF (L0) (a1)  y0_0 0 2))])) (live := [0]) (u := Value.agg #[vi (y0_0.getD (y0_0.length - 1) R_ii.z).a0, vi (y0_0.getD (y0_0.length - 1) R_ii.z).a1]) (bl := [some (.cells (Zd Ze L0) 54)]) (ob := [(Z8 (Zp 2 (List.drop (0 + ((y0_0.length - 1) * 2)) (Zd E_ii y0_0))) [.i (y0_0.getD (y0_0.length - 1) R_ii.z).a0, .i (y0_0.getD (y0_0.length - 1) R_ii.z).a1], true), (Nat.blt (y0_0.length - 1) y0_0.length, true), ((((y0_0.length - 1) : Nat) : Int) == Int.ofNat (y0_0.length - 1), true), ((IntKind.i64.wrap ((y0_0.length : Int) - (1 : Int))) == (((y0_0.length - 1) : Nat) : Int), true), (((y0_0.length : Int) == (0 : Int)), false), (dP (Zgr #[vs 0 0 L0.length L0.length, vi a1] (L0) (a1)  y0_0 0 2), true), (dS (Zd Ze L0), true)]) (by kernel_rfl) (Zb (Zo (E := E_ii) (L := y0_0) (i := (y0_0.length - 1)) (q := 0) (by omega) (show (0 + ((y0_0.length - 1) * 2)) = (y0_0.length - 1) * 2 + 0 from by omega) (show 0 + 2 ≤ 2 from by decide) rfl rfl) <| oB <| oI <| Zb (beq_iff_eq.2 ((wrap_i64 ltA).trans (by first | rfl | omega))) <| oF <| Zb (Zg (ZiG #[vs 0 0 L0.length L0.length, vi a1] (L0) (a1)  y0_0 N c0 0 2 rfl (by decide) (by decide))) <| oR Zf) rfl (by decide) (by rfl) rr ⟨(Zh (E := Ze) (α := RB) _ L0 _), trivial⟩
   ·
    exact ZeR

theorem Zkq (L0 : List RB) (a1 : Int) (N : Nat) (r : Zbc) (h : Zc1 L0 a1 N = some r) : LSpec Tryz.prog 46 #[vs 0 0 L0.length L0.length, vi a1] [.cells (Zd Ze L0) 54] (ZiH L0 a1 r) (ZhU L0 a1 r) :=
 Zcq Za7 Tryz.func46 (by kernel_rfl) (by kernel_rfl) (fun r => by cases r <;> exact ZQ _ rfl) (ZlV L0 a1 N) h

noncomputable def Zdm (L0 : List RB) (a1 w1 w2 : Int) (k0 n : Nat) : Za8 := .call [(k0, .cells (Zd Ze L0) 54)] (Value.agg #[vi w1, vi w2]) [] 0
def Zcs (A : Array Value) (L0 : List RB) (a1 w1 w2 : Int) (k0 n : Nat) : Prop := ZD Tryz.prog 46 A [(k0, .cells (Zd Ze L0) 54)] (Value.agg #[vi w1, vi w2]) [] n 0

theorem Zdn (A : Array Value) (L0 : List RB) (a1 w1 w2 : Int) (N : Nat) (h : Zc1 L0 a1 N = some (.r0 w1 w2)) (k0 n : Nat) (hA : A = #[vs k0 0 L0.length L0.length, vi a1]) (hnd : ([k0] : List Nat).Nodup) (hlt : ∀ k ∈ ([k0] : List Nat), k < n) : Zcs A L0 a1 w1 w2 k0 n :=
 ZT hA (LSpec.callL (show LSpec Tryz.prog 46 #[vs 0 0 L0.length L0.length, vi a1] [.cells (Zd Ze L0) 54] (Value.agg #[vi w1, vi w2]) [some (.cells (Zd Ze L0) 54)] from Zkq L0 a1 N _ h) [k0] n [] rfl hnd hlt (show 1 ≤ 1 from by decide) (show ∀ j ∈ ([] : List Nat), j < 1 from by decide) (by rfl) ⟨(Z5 _ _ _), trivial⟩ (by rfl) ⟨(Z5 _ _ _), trivial⟩ ⟨.inr rfl, trivial⟩ rfl rfl rfl (Za (ZC rfl (Zad _ _ _)) rfl) rfl)

noncomputable def ZjD (L0 : List RB) : Z3 → Value
 | .r0 w1 => vi w1
noncomputable def ZiI (L0 : List RB) : Z3 → List (Option AObj)
 | .r0 w1 => [some (.cells (Zd Ze L0) 54)]

def Znz : Z0 → Nat
 | .h1m0 v1 => 1
 | .h1m1 v1 v2 => 1
 | .h2m0 v1 => 2
noncomputable def ZoX (L0 : List RB) : Z0 → List (Nat × Value)
 | .h1m0 v1 => [(0, vs 0 0 L0.length L0.length), (3, vn), (4, vi (v1 : Int))]
 | .h1m1 v1 v2 => [(0, vs 0 0 L0.length L0.length), (3, vs 1 0 v1.length v1.length), (4, vi (v2 : Int))]
 | .h2m0 v1 => [(0, vs 0 0 L0.length L0.length), (7, vi (v1 : Int))]
noncomputable def ZoY (L0 : List RB) : Z0 → List (Option AObj)
 | .h1m0 v1 => [some (.cells (Zd Ze L0) 54)]
 | .h1m1 v1 v2 => [some (.cells (Zd Ze L0) 54), some (.cells (Zd E_ii v1) 102)]
 | .h2m0 v1 => [some (.cells (Zd Ze L0) 54)]

noncomputable def ZaN : Nat → Code × List Zar
 | 1 => ZaJ [1, 1, 1, 0, 1, 3] (Zb3 Tryz.f44) []
 | 2 => ZaJ [1, 1, 1, 1, 1, 0, 1, 3] (Zb3 Tryz.f44) []
 | _ => (.skip, [])
def ZiJ : Nat → Bool
 | 1 => true
 | 2 => true
 | _ => true
noncomputable def ZbD (i : Nat) : List Zar := match ZiJ i with | true => .rnd i :: (ZaN i).2 | false => (ZaN i).2

noncomputable def ZA (L0 : List RB) (N : Nat) : Mach := ⟨Tryz.f44, [.cells (Zd Ze L0) 54], Z0, Z3, Zca L0 N, Znz, ZaN, ZiJ, ZoX L0, ZoY L0, ZjD L0, ZiI L0⟩

theorem Zkr (L0 : List RB) (v1 N : Nat) : (ZA L0 N).Ok Tryz.prog Zt (.h1m0 v1 : Z0) (Zca L0 N (.h1m0 v1 : Z0)) := by
 show (ZA L0 N).Ok Tryz.prog Zt (.h1m0 v1 : Z0) (ZeE L0 N v1)
 unfold ZeE
 refine Mach.ok_ite (fun g0 => ?_) (fun g0 => ?_)
 ·
  refine Mach.ok_bind (fun z1 c1 => ?_)
  cases z1 with
  | r0 =>
   refine Mach.ok_bind (fun z2 c2 => ?_)
   cases z2 with
   | r0 y2_0 =>
    refine Mach.ok_ite (fun g3 => ?_) (fun g3 => ?_)
    ·
     exact Mach.ok_fin (M := ZA L0 N) (cd := 1000000) (cm := 0) (r := (.r0 ((v1 : Int)) : Z3)) (fu := 4000) (orc := (Zi [(0, true), (1, true)] [] [(0, v1), (1, v1)] [(0, [.i (L0.getD v1 RB.z).a0, .i (L0.getD v1 RB.z).a1, .i (L0.getD v1 RB.z).a2, .i (L0.getD v1 RB.z).a3]), (1, [.i (L0.getD v1 RB.z).a0, .i (L0.getD v1 RB.z).a1, .i (L0.getD v1 RB.z).a2, .i (L0.getD v1 RB.z).a3])] [(0, (Zha ((L0.getD v1 RB.z).a0) ((L0.getD v1 RB.z).a1) ((L0.getD v1 RB.z).a2) ((L0.getD v1 RB.z).a3) ((v1 : Int))    1)), (1, (Zbs ((L0.getD v1 RB.z).a0) ((L0.getD v1 RB.z).a1) ((L0.getD v1 RB.z).a2) ((L0.getD v1 RB.z).a3)  y2_0  2))])) (live := [0]) (u := vi (v1 : Int)) (bl := [some (.cells (Zd Ze L0) 54)]) (ob := [((!y2_0), true), (dP (Zbk #[Value.agg #[vi (L0.getD v1 RB.z).a0, vi (L0.getD v1 RB.z).a1, vi (L0.getD v1 RB.z).a2, vi (L0.getD v1 RB.z).a3]] ((L0.getD v1 RB.z).a0) ((L0.getD v1 RB.z).a1) ((L0.getD v1 RB.z).a2) ((L0.getD v1 RB.z).a3)  y2_0  2), true), (Z8 (Zp 4 (List.drop (0 + (v1 * 4)) (Zd Ze L0))) [.i (L0.getD v1 RB.z).a0, .i (L0.getD v1 RB.z).a1, .i (L0.getD v1 RB.z).a2, .i (L0.getD v1 RB.z).a3], true), (Nat.blt v1 L0.length, true), ((v1 : Int) == Int.ofNat v1, true), (dP (Zfz #[vn, Value.agg #[vi (L0.getD v1 RB.z).a0, vi (L0.getD v1 RB.z).a1, vi (L0.getD v1 RB.z).a2, vi (L0.getD v1 RB.z).a3], vi (v1 : Int)] ((L0.getD v1 RB.z).a0) ((L0.getD v1 RB.z).a1) ((L0.getD v1 RB.z).a2) ((L0.getD v1 RB.z).a3) ((v1 : Int))    1), true), (Z8 (Zp 4 (List.drop (0 + (v1 * 4)) (Zd Ze L0))) [.i (L0.getD v1 RB.z).a0, .i (L0.getD v1 RB.z).a1, .i (L0.getD v1 RB.z).a2, .i (L0.getD v1 RB.z).a3], true), (Nat.blt v1 L0.length, true), ((v1 : Int) == Int.ofNat v1, true), ((decide ((v1 : Int) < (L0.length : Int))), true)]) (fun gv => by kernel_rfl) (Zb (Zfe (by first | assumption | simp_all)) <| Zb (Zg (Zbt #[Value.agg #[vi (L0.getD v1 RB.z).a0, vi (L0.getD v1 RB.z).a1, vi (L0.getD v1 RB.z).a2, vi (L0.getD v1 RB.z).a3]] ((L0.getD v1 RB.z).a0) ((L0.getD v1 RB.z).a1) ((L0.getD v1 RB.z).a2) ((L0.getD v1 RB.z).a3)  y2_0 N c2  2 rfl (by decide) (by decide))) <| Zb (Zo (E := Ze) (L := L0) (i := v1) (q := 0) (by omega) (show (0 + (v1 * 4)) = v1 * 4 + 0 from by omega) (show 0 + 4 ≤ 4 from by decide) rfl rfl) <| oB <| oI <| Zb (Zg (Zhb #[vn, Value.agg #[vi (L0.getD v1 RB.z).a0, vi (L0.getD v1 RB.z).a1, vi (L0.getD v1 RB.z).a2, vi (L0.getD v1 RB.z).a3], vi (v1 : Int)] ((L0.getD v1 RB.z).a0) ((L0.getD v1 RB.z).a1) ((L0.getD v1 RB.z).a2) ((L0.getD v1 RB.z).a3) ((v1 : Int))   N c1  1 rfl (by decide) (by decide))) <| Zb (Zo (E := Ze) (L := L0) (i := v1) (q := 0) (by omega) (show (0 + (v1 * 4)) = v1 * 4 + 0 from by omega) (show 0 + 4 ≤ 4 from by decide) rfl rfl) <| oB <| oI <| oY Zf) rfl (by decide) (by rfl) rr ⟨(Zh (E := Ze) (α := RB) _ L0 _), trivial⟩
    ·
     refine Mach.ok_ite (fun g4 => ?_) (fun g4 => ?_)
     ·
      exact Mach.ok_next (M := ZA L0 N) (cd := 1000000) (cm := 0) (y := (.h1m1 (([(⟨(v1 : Int), (0 : Int)⟩ : R_ii)] : List R_ii)) ((v1 + 1)) : Z0)) (fu := 4000) (orc := (Zi [(0, true), (1, false)] [(0, (((v1 + 1) : Nat) : Int))] [(0, v1), (1, v1)] [(0, [.i (L0.getD v1 RB.z).a0, .i (L0.getD v1 RB.z).a1, .i (L0.getD v1 RB.z).a2, .i (L0.getD v1 RB.z).a3]), (1, [.i (L0.getD v1 RB.z).a0, .i (L0.getD v1 RB.z).a1, .i (L0.getD v1 RB.z).a2, .i (L0.getD v1 RB.z).a3])] [(0, (Zha ((L0.getD v1 RB.z).a0) ((L0.getD v1 RB.z).a1) ((L0.getD v1 RB.z).a2) ((L0.getD v1 RB.z).a3) ((v1 : Int))    1)), (1, (Zbs ((L0.getD v1 RB.z).a0) ((L0.getD v1 RB.z).a1) ((L0.getD v1 RB.z).a2) ((L0.getD v1 RB.z).a3)  y2_0  2))])) (live := [0, 1]) (tv := fun _ => [some (vs 0 0 L0.length L0.length), some (vs 1 0 1 1), some (vi (((v1 + 1) : Nat) : Int))]) (bl := [some (.cells (Zd Ze L0) 54), some (.cells (Zd E_ii ([(⟨(v1 : Int), (0 : Int)⟩ : R_ii)] : List R_ii)) 102)]) (ob := [((IntKind.i64.wrap ((v1 : Int) + (1 : Int))) == (((v1 + 1) : Nat) : Int), true), ((!y2_0), false), (dP (Zbk #[Value.agg #[vi (L0.getD v1 RB.z).a0, vi (L0.getD v1 RB.z).a1, vi (L0.getD v1 RB.z).a2, vi (L0.getD v1 RB.z).a3]] ((L0.getD v1 RB.z).a0) ((L0.getD v1 RB.z).a1) ((L0.getD v1 RB.z).a2) ((L0.getD v1 RB.z).a3)  y2_0  2), true), (Z8 (Zp 4 (List.drop (0 + (v1 * 4)) (Zd Ze L0))) [.i (L0.getD v1 RB.z).a0, .i (L0.getD v1 RB.z).a1, .i (L0.getD v1 RB.z).a2, .i (L0.getD v1 RB.z).a3], true), (Nat.blt v1 L0.length, true), ((v1 : Int) == Int.ofNat v1, true), (dP (Zfz #[vn, Value.agg #[vi (L0.getD v1 RB.z).a0, vi (L0.getD v1 RB.z).a1, vi (L0.getD v1 RB.z).a2, vi (L0.getD v1 RB.z).a3], vi (v1 : Int)] ((L0.getD v1 RB.z).a0) ((L0.getD v1 RB.z).a1) ((L0.getD v1 RB.z).a2) ((L0.getD v1 RB.z).a3) ((v1 : Int))    1), true), (Z8 (Zp 4 (List.drop (0 + (v1 * 4)) (Zd Ze L0))) [.i (L0.getD v1 RB.z).a0, .i (L0.getD v1 RB.z).a1, .i (L0.getD v1 RB.z).a2, .i (L0.getD v1 RB.z).a3], true), (Nat.blt v1 L0.length, true), ((v1 : Int) == Int.ofNat v1, true), ((decide ((v1 : Int) < (L0.length : Int))), true)]) rfl (show 1 ∈ Zu (ZbD 1) from by decide +kernel) (fun gv => by kernel_rfl) (Zb (beq_iff_eq.2 ((wrap_i64 ltA).trans (by first | rfl | omega))) <| Zb (Zdg (by first | assumption | exact Decidable.not_not.1 (by assumption) | simp_all)) <| Zb (Zg (Zbt #[Value.agg #[vi (L0.getD v1 RB.z).a0, vi (L0.getD v1 RB.z).a1, vi (L0.getD v1 RB.z).a2, vi (L0.getD v1 RB.z).a3]] ((L0.getD v1 RB.z).a0) ((L0.getD v1 RB.z).a1) ((L0.getD v1 RB.z).a2) ((L0.getD v1 RB.z).a3)  y2_0 N c2  2 rfl (by decide) (by decide))) <| Zb (Zo (E := Ze) (L := L0) (i := v1) (q := 0) (by omega) (show (0 + (v1 * 4)) = v1 * 4 + 0 from by omega) (show 0 + 4 ≤ 4 from by decide) rfl rfl) <| oB <| oI <| Zb (Zg (Zhb #[vn, Value.agg #[vi (L0.getD v1 RB.z).a0, vi (L0.getD v1 RB.z).a1, vi (L0.getD v1 RB.z).a2, vi (L0.getD v1 RB.z).a3], vi (v1 : Int)] ((L0.getD v1 RB.z).a0) ((L0.getD v1 RB.z).a1) ((L0.getD v1 RB.z).a2) ((L0.getD v1 RB.z).a3) ((v1 : Int))   N c1  1 rfl (by decide) (by decide))) <| Zb (Zo (E := Ze) (L := L0) (i := v1) (q := 0) (by omega) (show (0 + (v1 * 4)) = v1 * 4 + 0 from by omega) (show 0 + 4 ≤ 4 from by decide) rfl rfl) <| oB <| oI <| oY Zf) rfl (by decide) (by rfl) (fun _ => ⟨rr, ⟨⟨Eq.trans (show (vs 1 0 ([(⟨(v1 : Int), (0 : Int)⟩ : R_ii)] : List R_ii).length ([(⟨(v1 : Int), (0 : Int)⟩ : R_ii)] : List R_ii).length : Value) = vs 1 0 1 1 from (ZaL rfl eqA eqA)) (by rfl), by rfl⟩, ⟨rr, trivial⟩⟩⟩) ⟨(Zh (E := Ze) (α := RB) _ L0 _), ⟨(Zh (E := E_ii) (α := R_ii) _ ([(⟨(v1 : Int), (0 : Int)⟩ : R_ii)] : List R_ii) _), trivial⟩⟩
     ·
      exact Mach.ok_none
  | r1 y1_0 =>
   refine Mach.ok_bind (fun z2 c2 => ?_)
   cases z2 with
   | r0 y2_0 =>
    refine Mach.ok_ite (fun g3 => ?_) (fun g3 => ?_)
    ·
     exact Mach.ok_fin (M := ZA L0 N) (cd := 1000000) (cm := 0) (r := (.r0 ((v1 : Int)) : Z3)) (fu := 4000) (orc := (Zi [(0, true), (1, true)] [] [(0, v1), (1, v1)] [(0, [.i (L0.getD v1 RB.z).a0, .i (L0.getD v1 RB.z).a1, .i (L0.getD v1 RB.z).a2, .i (L0.getD v1 RB.z).a3]), (1, [.i (L0.getD v1 RB.z).a0, .i (L0.getD v1 RB.z).a1, .i (L0.getD v1 RB.z).a2, .i (L0.getD v1 RB.z).a3])] [(0, (Zf0 ((L0.getD v1 RB.z).a0) ((L0.getD v1 RB.z).a1) ((L0.getD v1 RB.z).a2) ((L0.getD v1 RB.z).a3) ((v1 : Int))  y1_0  1)), (1, (Zbs ((L0.getD v1 RB.z).a0) ((L0.getD v1 RB.z).a1) ((L0.getD v1 RB.z).a2) ((L0.getD v1 RB.z).a3)  y2_0  1))])) (live := [0]) (u := vi (v1 : Int)) (bl := [some (.cells (Zd Ze L0) 54)]) (ob := [((!y2_0), true), (dP (Zbk #[Value.agg #[vi (L0.getD v1 RB.z).a0, vi (L0.getD v1 RB.z).a1, vi (L0.getD v1 RB.z).a2, vi (L0.getD v1 RB.z).a3]] ((L0.getD v1 RB.z).a0) ((L0.getD v1 RB.z).a1) ((L0.getD v1 RB.z).a2) ((L0.getD v1 RB.z).a3)  y2_0  1), true), (Z8 (Zp 4 (List.drop (0 + (v1 * 4)) (Zd Ze L0))) [.i (L0.getD v1 RB.z).a0, .i (L0.getD v1 RB.z).a1, .i (L0.getD v1 RB.z).a2, .i (L0.getD v1 RB.z).a3], true), (Nat.blt v1 L0.length, true), ((v1 : Int) == Int.ofNat v1, true), (dP (ZdR #[vn, Value.agg #[vi (L0.getD v1 RB.z).a0, vi (L0.getD v1 RB.z).a1, vi (L0.getD v1 RB.z).a2, vi (L0.getD v1 RB.z).a3], vi (v1 : Int)] ((L0.getD v1 RB.z).a0) ((L0.getD v1 RB.z).a1) ((L0.getD v1 RB.z).a2) ((L0.getD v1 RB.z).a3) ((v1 : Int))  y1_0  1), true), (Z8 (Zp 4 (List.drop (0 + (v1 * 4)) (Zd Ze L0))) [.i (L0.getD v1 RB.z).a0, .i (L0.getD v1 RB.z).a1, .i (L0.getD v1 RB.z).a2, .i (L0.getD v1 RB.z).a3], true), (Nat.blt v1 L0.length, true), ((v1 : Int) == Int.ofNat v1, true), ((decide ((v1 : Int) < (L0.length : Int))), true)]) (fun gv => by kernel_rfl) (Zb (Zfe (by first | assumption | simp_all)) <| Zb (Zg (Zbt #[Value.agg #[vi (L0.getD v1 RB.z).a0, vi (L0.getD v1 RB.z).a1, vi (L0.getD v1 RB.z).a2, vi (L0.getD v1 RB.z).a3]] ((L0.getD v1 RB.z).a0) ((L0.getD v1 RB.z).a1) ((L0.getD v1 RB.z).a2) ((L0.getD v1 RB.z).a3)  y2_0 N c2  1 rfl (by decide) (by decide))) <| Zb (Zo (E := Ze) (L := L0) (i := v1) (q := 0) (by omega) (show (0 + (v1 * 4)) = v1 * 4 + 0 from by omega) (show 0 + 4 ≤ 4 from by decide) rfl rfl) <| oB <| oI <| Zb (Zg (Zf1 #[vn, Value.agg #[vi (L0.getD v1 RB.z).a0, vi (L0.getD v1 RB.z).a1, vi (L0.getD v1 RB.z).a2, vi (L0.getD v1 RB.z).a3], vi (v1 : Int)] ((L0.getD v1 RB.z).a0) ((L0.getD v1 RB.z).a1) ((L0.getD v1 RB.z).a2) ((L0.getD v1 RB.z).a3) ((v1 : Int))  y1_0 N c1  1 rfl (by decide) (by decide))) <| Zb (Zo (E := Ze) (L := L0) (i := v1) (q := 0) (by omega) (show (0 + (v1 * 4)) = v1 * 4 + 0 from by omega) (show 0 + 4 ≤ 4 from by decide) rfl rfl) <| oB <| oI <| oY Zf) rfl (by decide) (by rfl) rr ⟨(Zh (E := Ze) (α := RB) _ L0 _), trivial⟩
    ·
     refine Mach.ok_ite (fun g4 => ?_) (fun g4 => ?_)
     ·
      exact Mach.ok_fin (M := ZA L0 N) (cd := 1000000) (cm := 0) (r := (.r0 ((v1 : Int)) : Z3)) (fu := 4000) (orc := (Zi [(0, true), (1, false), (2, true)] [] [(0, v1), (1, v1)] [(0, [.i (L0.getD v1 RB.z).a0, .i (L0.getD v1 RB.z).a1, .i (L0.getD v1 RB.z).a2, .i (L0.getD v1 RB.z).a3]), (1, [.i (L0.getD v1 RB.z).a0, .i (L0.getD v1 RB.z).a1, .i (L0.getD v1 RB.z).a2, .i (L0.getD v1 RB.z).a3])] [(0, (Zf0 ((L0.getD v1 RB.z).a0) ((L0.getD v1 RB.z).a1) ((L0.getD v1 RB.z).a2) ((L0.getD v1 RB.z).a3) ((v1 : Int))  y1_0  1)), (1, (Zbs ((L0.getD v1 RB.z).a0) ((L0.getD v1 RB.z).a1) ((L0.getD v1 RB.z).a2) ((L0.getD v1 RB.z).a3)  y2_0  1))])) (live := [0]) (u := vi (v1 : Int)) (bl := [some (.cells (Zd Ze L0) 54)]) (ob := [((!y1_0), true), ((!y2_0), false), (dP (Zbk #[Value.agg #[vi (L0.getD v1 RB.z).a0, vi (L0.getD v1 RB.z).a1, vi (L0.getD v1 RB.z).a2, vi (L0.getD v1 RB.z).a3]] ((L0.getD v1 RB.z).a0) ((L0.getD v1 RB.z).a1) ((L0.getD v1 RB.z).a2) ((L0.getD v1 RB.z).a3)  y2_0  1), true), (Z8 (Zp 4 (List.drop (0 + (v1 * 4)) (Zd Ze L0))) [.i (L0.getD v1 RB.z).a0, .i (L0.getD v1 RB.z).a1, .i (L0.getD v1 RB.z).a2, .i (L0.getD v1 RB.z).a3], true), (Nat.blt v1 L0.length, true), ((v1 : Int) == Int.ofNat v1, true), (dP (ZdR #[vn, Value.agg #[vi (L0.getD v1 RB.z).a0, vi (L0.getD v1 RB.z).a1, vi (L0.getD v1 RB.z).a2, vi (L0.getD v1 RB.z).a3], vi (v1 : Int)] ((L0.getD v1 RB.z).a0) ((L0.getD v1 RB.z).a1) ((L0.getD v1 RB.z).a2) ((L0.getD v1 RB.z).a3) ((v1 : Int))  y1_0  1), true), (Z8 (Zp 4 (List.drop (0 + (v1 * 4)) (Zd Ze L0))) [.i (L0.getD v1 RB.z).a0, .i (L0.getD v1 RB.z).a1, .i (L0.getD v1 RB.z).a2, .i (L0.getD v1 RB.z).a3], true), (Nat.blt v1 L0.length, true), ((v1 : Int) == Int.ofNat v1, true), ((decide ((v1 : Int) < (L0.length : Int))), true)]) (fun gv => by kernel_rfl) (Zb (Zfe (by first | assumption | simp_all)) <| Zb (Zdg (by first | assumption | exact Decidable.not_not.1 (by assumption) | simp_all)) <| Zb (Zg (Zbt #[Value.agg #[vi (L0.getD v1 RB.z).a0, vi (L0.getD v1 RB.z).a1, vi (L0.getD v1 RB.z).a2, vi (L0.getD v1 RB.z).a3]] ((L0.getD v1 RB.z).a0) ((L0.getD v1 RB.z).a1) ((L0.getD v1 RB.z).a2) ((L0.getD v1 RB.z).a3)  y2_0 N c2  1 rfl (by decide) (by decide))) <| Zb (Zo (E := Ze) (L := L0) (i := v1) (q := 0) (by omega) (show (0 + (v1 * 4)) = v1 * 4 + 0 from by omega) (show 0 + 4 ≤ 4 from by decide) rfl rfl) <| oB <| oI <| Zb (Zg (Zf1 #[vn, Value.agg #[vi (L0.getD v1 RB.z).a0, vi (L0.getD v1 RB.z).a1, vi (L0.getD v1 RB.z).a2, vi (L0.getD v1 RB.z).a3], vi (v1 : Int)] ((L0.getD v1 RB.z).a0) ((L0.getD v1 RB.z).a1) ((L0.getD v1 RB.z).a2) ((L0.getD v1 RB.z).a3) ((v1 : Int))  y1_0 N c1  1 rfl (by decide) (by decide))) <| Zb (Zo (E := Ze) (L := L0) (i := v1) (q := 0) (by omega) (show (0 + (v1 * 4)) = v1 * 4 + 0 from by omega) (show 0 + 4 ≤ 4 from by decide) rfl rfl) <| oB <| oI <| oY Zf) rfl (by decide) (by rfl) rr ⟨(Zh (E := Ze) (α := RB) _ L0 _), trivial⟩
     ·
      refine Mach.ok_ite (fun g5 => ?_) (fun g5 => ?_)
      ·
       exact Mach.ok_next (M := ZA L0 N) (cd := 1000000) (cm := 0) (y := (.h1m0 ((v1 + 1)) : Z0)) (fu := 4000) (orc := (Zi [(0, true), (1, false), (2, false)] [(0, (((v1 + 1) : Nat) : Int))] [(0, v1), (1, v1)] [(0, [.i (L0.getD v1 RB.z).a0, .i (L0.getD v1 RB.z).a1, .i (L0.getD v1 RB.z).a2, .i (L0.getD v1 RB.z).a3]), (1, [.i (L0.getD v1 RB.z).a0, .i (L0.getD v1 RB.z).a1, .i (L0.getD v1 RB.z).a2, .i (L0.getD v1 RB.z).a3])] [(0, (Zf0 ((L0.getD v1 RB.z).a0) ((L0.getD v1 RB.z).a1) ((L0.getD v1 RB.z).a2) ((L0.getD v1 RB.z).a3) ((v1 : Int))  y1_0  1)), (1, (Zbs ((L0.getD v1 RB.z).a0) ((L0.getD v1 RB.z).a1) ((L0.getD v1 RB.z).a2) ((L0.getD v1 RB.z).a3)  y2_0  1))])) (live := [0]) (tv := fun _ => [some (vs 0 0 L0.length L0.length), some (vn), some (vi (((v1 + 1) : Nat) : Int))]) (bl := [some (.cells (Zd Ze L0) 54)]) (ob := [((IntKind.i64.wrap ((v1 : Int) + (1 : Int))) == (((v1 + 1) : Nat) : Int), true), ((!y1_0), false), ((!y2_0), false), (dP (Zbk #[Value.agg #[vi (L0.getD v1 RB.z).a0, vi (L0.getD v1 RB.z).a1, vi (L0.getD v1 RB.z).a2, vi (L0.getD v1 RB.z).a3]] ((L0.getD v1 RB.z).a0) ((L0.getD v1 RB.z).a1) ((L0.getD v1 RB.z).a2) ((L0.getD v1 RB.z).a3)  y2_0  1), true), (Z8 (Zp 4 (List.drop (0 + (v1 * 4)) (Zd Ze L0))) [.i (L0.getD v1 RB.z).a0, .i (L0.getD v1 RB.z).a1, .i (L0.getD v1 RB.z).a2, .i (L0.getD v1 RB.z).a3], true), (Nat.blt v1 L0.length, true), ((v1 : Int) == Int.ofNat v1, true), (dP (ZdR #[vn, Value.agg #[vi (L0.getD v1 RB.z).a0, vi (L0.getD v1 RB.z).a1, vi (L0.getD v1 RB.z).a2, vi (L0.getD v1 RB.z).a3], vi (v1 : Int)] ((L0.getD v1 RB.z).a0) ((L0.getD v1 RB.z).a1) ((L0.getD v1 RB.z).a2) ((L0.getD v1 RB.z).a3) ((v1 : Int))  y1_0  1), true), (Z8 (Zp 4 (List.drop (0 + (v1 * 4)) (Zd Ze L0))) [.i (L0.getD v1 RB.z).a0, .i (L0.getD v1 RB.z).a1, .i (L0.getD v1 RB.z).a2, .i (L0.getD v1 RB.z).a3], true), (Nat.blt v1 L0.length, true), ((v1 : Int) == Int.ofNat v1, true), ((decide ((v1 : Int) < (L0.length : Int))), true)]) rfl (show 1 ∈ Zu (ZbD 1) from by decide +kernel) (fun gv => by kernel_rfl) (Zb (beq_iff_eq.2 ((wrap_i64 ltA).trans (by first | rfl | omega))) <| Zb (Zdg (by first | assumption | exact Decidable.not_not.1 (by assumption) | simp_all)) <| Zb (Zdg (by first | assumption | exact Decidable.not_not.1 (by assumption) | simp_all)) <| Zb (Zg (Zbt #[Value.agg #[vi (L0.getD v1 RB.z).a0, vi (L0.getD v1 RB.z).a1, vi (L0.getD v1 RB.z).a2, vi (L0.getD v1 RB.z).a3]] ((L0.getD v1 RB.z).a0) ((L0.getD v1 RB.z).a1) ((L0.getD v1 RB.z).a2) ((L0.getD v1 RB.z).a3)  y2_0 N c2  1 rfl (by decide) (by decide))) <| Zb (Zo (E := Ze) (L := L0) (i := v1) (q := 0) (by omega) (show (0 + (v1 * 4)) = v1 * 4 + 0 from by omega) (show 0 + 4 ≤ 4 from by decide) rfl rfl) <| oB <| oI <| Zb (Zg (Zf1 #[vn, Value.agg #[vi (L0.getD v1 RB.z).a0, vi (L0.getD v1 RB.z).a1, vi (L0.getD v1 RB.z).a2, vi (L0.getD v1 RB.z).a3], vi (v1 : Int)] ((L0.getD v1 RB.z).a0) ((L0.getD v1 RB.z).a1) ((L0.getD v1 RB.z).a2) ((L0.getD v1 RB.z).a3) ((v1 : Int))  y1_0 N c1  1 rfl (by decide) (by decide))) <| Zb (Zo (E := Ze) (L := L0) (i := v1) (q := 0) (by omega) (show (0 + (v1 * 4)) = v1 * 4 + 0 from by omega) (show 0 + 4 ≤ 4 from by decide) rfl rfl) <| oB <| oI <| oY Zf) rfl (by decide) (by rfl) (fun _ => ⟨rr, ⟨rr, ⟨rr, trivial⟩⟩⟩) ⟨(Zh (E := Ze) (α := RB) _ L0 _), trivial⟩
      ·
       exact Mach.ok_none
 ·
  exact Mach.ok_head (bK := ZaN 2) (M := ZA L0 N) (cd := 1000000) (cm := 0) (y := (.h2m0 (0) : Z0)) (fu := 4000) (orc := (Zi [(0, false)] [] [] [] [])) (live := [0]) (tv := fun _ => [some (vs 0 0 L0.length L0.length), some (vq)]) (bl := [some (.cells (Zd Ze L0) 54)]) (ob := [((decide ((v1 : Int) < (L0.length : Int))), false)]) rfl rfl (show ∀ j ∈ Zu (ZaN 2).2, j ∈ Zu (ZbD 1) from by decide +kernel) (fun gv => by kernel_rfl) (oN Zf) rfl (by decide) (by rfl) (fun _ => ⟨rr, ⟨⟨Eq.trans (show (vi ((0 : Nat) : Int) : Value) = vq from (congrArg (Value.int .i64) (by first | rfl | omega))) (by rfl), by rfl⟩, trivial⟩⟩) ⟨(Zh (E := Ze) (α := RB) _ L0 _), trivial⟩

theorem Zks (L0 : List RB) (v1 : List R_ii) (v2 N : Nat) : (ZA L0 N).Ok Tryz.prog Zt (.h1m1 v1 v2 : Z0) (Zca L0 N (.h1m1 v1 v2 : Z0)) := by
 show (ZA L0 N).Ok Tryz.prog Zt (.h1m1 v1 v2 : Z0) (ZeF L0 N v1 v2)
 unfold ZeF
 refine Mach.ok_ite (fun g0 => ?_) (fun g0 => ?_)
 ·
  refine Mach.ok_bind (fun z1 c1 => ?_)
  cases z1 with
  | r0 y1_0 =>
   refine Mach.ok_bind (fun z2 c2 => ?_)
   cases z2 with
   | r0 y2_0 =>
    refine Mach.ok_ite (fun g3 => ?_) (fun g3 => ?_)
    ·
     exact Mach.ok_fin (M := ZA L0 N) (cd := 1000000) (cm := 0) (r := (.r0 ((v2 : Int)) : Z3)) (fu := 4000) (orc := (Zi [(0, true), (1, true)] [] [(0, v2), (1, v2)] [(0, [.i (L0.getD v2 RB.z).a0, .i (L0.getD v2 RB.z).a1, .i (L0.getD v2 RB.z).a2, .i (L0.getD v2 RB.z).a3]), (1, [.i (L0.getD v2 RB.z).a0, .i (L0.getD v2 RB.z).a1, .i (L0.getD v2 RB.z).a2, .i (L0.getD v2 RB.z).a3])] [(0, (Zei (v1) ((L0.getD v2 RB.z).a0) ((L0.getD v2 RB.z).a1) ((L0.getD v2 RB.z).a2) ((L0.getD v2 RB.z).a3) ((v2 : Int))  y1_0 1 2)), (1, (Zbs ((L0.getD v2 RB.z).a0) ((L0.getD v2 RB.z).a1) ((L0.getD v2 RB.z).a2) ((L0.getD v2 RB.z).a3)  y2_0  2))])) (live := [0]) (u := vi (v2 : Int)) (bl := [some (.cells (Zd Ze L0) 54)]) (ob := [((!y2_0), true), (dP (Zbk #[Value.agg #[vi (L0.getD v2 RB.z).a0, vi (L0.getD v2 RB.z).a1, vi (L0.getD v2 RB.z).a2, vi (L0.getD v2 RB.z).a3]] ((L0.getD v2 RB.z).a0) ((L0.getD v2 RB.z).a1) ((L0.getD v2 RB.z).a2) ((L0.getD v2 RB.z).a3)  y2_0  2), true), (Z8 (Zp 4 (List.drop (0 + (v2 * 4)) (Zd Ze L0))) [.i (L0.getD v2 RB.z).a0, .i (L0.getD v2 RB.z).a1, .i (L0.getD v2 RB.z).a2, .i (L0.getD v2 RB.z).a3], true), (Nat.blt v2 L0.length, true), ((v2 : Int) == Int.ofNat v2, true), (dP (Zdk #[vs 1 0 v1.length v1.length, Value.agg #[vi (L0.getD v2 RB.z).a0, vi (L0.getD v2 RB.z).a1, vi (L0.getD v2 RB.z).a2, vi (L0.getD v2 RB.z).a3], vi (v2 : Int)] (v1) ((L0.getD v2 RB.z).a0) ((L0.getD v2 RB.z).a1) ((L0.getD v2 RB.z).a2) ((L0.getD v2 RB.z).a3) ((v2 : Int))  y1_0 1 2), true), (dS (Zd E_ii v1), true), (Z8 (Zp 4 (List.drop (0 + (v2 * 4)) (Zd Ze L0))) [.i (L0.getD v2 RB.z).a0, .i (L0.getD v2 RB.z).a1, .i (L0.getD v2 RB.z).a2, .i (L0.getD v2 RB.z).a3], true), (Nat.blt v2 L0.length, true), ((v2 : Int) == Int.ofNat v2, true), ((decide ((v2 : Int) < (L0.length : Int))), true)]) (fun gv => by kernel_rfl) (Zb (Zfe (by first | assumption | simp_all)) <| Zb (Zg (Zbt #[Value.agg #[vi (L0.getD v2 RB.z).a0, vi (L0.getD v2 RB.z).a1, vi (L0.getD v2 RB.z).a2, vi (L0.getD v2 RB.z).a3]] ((L0.getD v2 RB.z).a0) ((L0.getD v2 RB.z).a1) ((L0.getD v2 RB.z).a2) ((L0.getD v2 RB.z).a3)  y2_0 N c2  2 rfl (by decide) (by decide))) <| Zb (Zo (E := Ze) (L := L0) (i := v2) (q := 0) (by omega) (show (0 + (v2 * 4)) = v2 * 4 + 0 from by omega) (show 0 + 4 ≤ 4 from by decide) rfl rfl) <| oB <| oI <| Zb (Zg (Zej #[vs 1 0 v1.length v1.length, Value.agg #[vi (L0.getD v2 RB.z).a0, vi (L0.getD v2 RB.z).a1, vi (L0.getD v2 RB.z).a2, vi (L0.getD v2 RB.z).a3], vi (v2 : Int)] (v1) ((L0.getD v2 RB.z).a0) ((L0.getD v2 RB.z).a1) ((L0.getD v2 RB.z).a2) ((L0.getD v2 RB.z).a3) ((v2 : Int))  y1_0 N c1 1 2 rfl (by decide) (by decide))) <| oR <| Zb (Zo (E := Ze) (L := L0) (i := v2) (q := 0) (by omega) (show (0 + (v2 * 4)) = v2 * 4 + 0 from by omega) (show 0 + 4 ≤ 4 from by decide) rfl rfl) <| oB <| oI <| oY Zf) rfl (by decide) (by rfl) rr ⟨(Zh (E := Ze) (α := RB) _ L0 _), trivial⟩
    ·
     refine Mach.ok_ite (fun g4 => ?_) (fun g4 => ?_)
     ·
      exact Mach.ok_fin (M := ZA L0 N) (cd := 1000000) (cm := 0) (r := (.r0 ((v2 : Int)) : Z3)) (fu := 4000) (orc := (Zi [(0, true), (1, false), (2, true)] [] [(0, v2), (1, v2)] [(0, [.i (L0.getD v2 RB.z).a0, .i (L0.getD v2 RB.z).a1, .i (L0.getD v2 RB.z).a2, .i (L0.getD v2 RB.z).a3]), (1, [.i (L0.getD v2 RB.z).a0, .i (L0.getD v2 RB.z).a1, .i (L0.getD v2 RB.z).a2, .i (L0.getD v2 RB.z).a3])] [(0, (Zei (v1) ((L0.getD v2 RB.z).a0) ((L0.getD v2 RB.z).a1) ((L0.getD v2 RB.z).a2) ((L0.getD v2 RB.z).a3) ((v2 : Int))  y1_0 1 2)), (1, (Zbs ((L0.getD v2 RB.z).a0) ((L0.getD v2 RB.z).a1) ((L0.getD v2 RB.z).a2) ((L0.getD v2 RB.z).a3)  y2_0  2))])) (live := [0]) (u := vi (v2 : Int)) (bl := [some (.cells (Zd Ze L0) 54)]) (ob := [((!y1_0), true), ((!y2_0), false), (dP (Zbk #[Value.agg #[vi (L0.getD v2 RB.z).a0, vi (L0.getD v2 RB.z).a1, vi (L0.getD v2 RB.z).a2, vi (L0.getD v2 RB.z).a3]] ((L0.getD v2 RB.z).a0) ((L0.getD v2 RB.z).a1) ((L0.getD v2 RB.z).a2) ((L0.getD v2 RB.z).a3)  y2_0  2), true), (Z8 (Zp 4 (List.drop (0 + (v2 * 4)) (Zd Ze L0))) [.i (L0.getD v2 RB.z).a0, .i (L0.getD v2 RB.z).a1, .i (L0.getD v2 RB.z).a2, .i (L0.getD v2 RB.z).a3], true), (Nat.blt v2 L0.length, true), ((v2 : Int) == Int.ofNat v2, true), (dP (Zdk #[vs 1 0 v1.length v1.length, Value.agg #[vi (L0.getD v2 RB.z).a0, vi (L0.getD v2 RB.z).a1, vi (L0.getD v2 RB.z).a2, vi (L0.getD v2 RB.z).a3], vi (v2 : Int)] (v1) ((L0.getD v2 RB.z).a0) ((L0.getD v2 RB.z).a1) ((L0.getD v2 RB.z).a2) ((L0.getD v2 RB.z).a3) ((v2 : Int))  y1_0 1 2), true), (dS (Zd E_ii v1), true), (Z8 (Zp 4 (List.drop (0 + (v2 * 4)) (Zd Ze L0))) [.i (L0.getD v2 RB.z).a0, .i (L0.getD v2 RB.z).a1, .i (L0.getD v2 RB.z).a2, .i (L0.getD v2 RB.z).a3], true), (Nat.blt v2 L0.length, true), ((v2 : Int) == Int.ofNat v2, true), ((decide ((v2 : Int) < (L0.length : Int))), true)]) (fun gv => by kernel_rfl) (Zb (Zfe (by first | assumption | simp_all)) <| Zb (Zdg (by first | assumption | exact Decidable.not_not.1 (by assumption) | simp_all)) <| Zb (Zg (Zbt #[Value.agg #[vi (L0.getD v2 RB.z).a0, vi (L0.getD v2 RB.z).a1, vi (L0.getD v2 RB.z).a2, vi (L0.getD v2 RB.z).a3]] ((L0.getD v2 RB.z).a0) ((L0.getD v2 RB.z).a1) ((L0.getD v2 RB.z).a2) ((L0.getD v2 RB.z).a3)  y2_0 N c2  2 rfl (by decide) (by decide))) <| Zb (Zo (E := Ze) (L := L0) (i := v2) (q := 0) (by omega) (show (0 + (v2 * 4)) = v2 * 4 + 0 from by omega) (show 0 + 4 ≤ 4 from by decide) rfl rfl) <| oB <| oI <| Zb (Zg (Zej #[vs 1 0 v1.length v1.length, Value.agg #[vi (L0.getD v2 RB.z).a0, vi (L0.getD v2 RB.z).a1, vi (L0.getD v2 RB.z).a2, vi (L0.getD v2 RB.z).a3], vi (v2 : Int)] (v1) ((L0.getD v2 RB.z).a0) ((L0.getD v2 RB.z).a1) ((L0.getD v2 RB.z).a2) ((L0.getD v2 RB.z).a3) ((v2 : Int))  y1_0 N c1 1 2 rfl (by decide) (by decide))) <| oR <| Zb (Zo (E := Ze) (L := L0) (i := v2) (q := 0) (by omega) (show (0 + (v2 * 4)) = v2 * 4 + 0 from by omega) (show 0 + 4 ≤ 4 from by decide) rfl rfl) <| oB <| oI <| oY Zf) rfl (by decide) (by rfl) rr ⟨(Zh (E := Ze) (α := RB) _ L0 _), trivial⟩
     ·
      refine Mach.ok_ite (fun g5 => ?_) (fun g5 => ?_)
      ·
       exact Mach.ok_next (M := ZA L0 N) (cd := 1000000) (cm := 0) (y := (.h1m1 (v1) ((v2 + 1)) : Z0)) (fu := 4000) (orc := (Zi [(0, true), (1, false), (2, false)] [(0, (((v2 + 1) : Nat) : Int))] [(0, v2), (1, v2)] [(0, [.i (L0.getD v2 RB.z).a0, .i (L0.getD v2 RB.z).a1, .i (L0.getD v2 RB.z).a2, .i (L0.getD v2 RB.z).a3]), (1, [.i (L0.getD v2 RB.z).a0, .i (L0.getD v2 RB.z).a1, .i (L0.getD v2 RB.z).a2, .i (L0.getD v2 RB.z).a3])] [(0, (Zei (v1) ((L0.getD v2 RB.z).a0) ((L0.getD v2 RB.z).a1) ((L0.getD v2 RB.z).a2) ((L0.getD v2 RB.z).a3) ((v2 : Int))  y1_0 1 2)), (1, (Zbs ((L0.getD v2 RB.z).a0) ((L0.getD v2 RB.z).a1) ((L0.getD v2 RB.z).a2) ((L0.getD v2 RB.z).a3)  y2_0  2))])) (live := [0, 1]) (tv := fun _ => [some (vs 0 0 L0.length L0.length), some (vs 1 0 v1.length v1.length), some (vi (((v2 + 1) : Nat) : Int))]) (bl := [some (.cells (Zd Ze L0) 54), some (.cells (Zd E_ii v1) 102)]) (ob := [((IntKind.i64.wrap ((v2 : Int) + (1 : Int))) == (((v2 + 1) : Nat) : Int), true), ((!y1_0), false), ((!y2_0), false), (dP (Zbk #[Value.agg #[vi (L0.getD v2 RB.z).a0, vi (L0.getD v2 RB.z).a1, vi (L0.getD v2 RB.z).a2, vi (L0.getD v2 RB.z).a3]] ((L0.getD v2 RB.z).a0) ((L0.getD v2 RB.z).a1) ((L0.getD v2 RB.z).a2) ((L0.getD v2 RB.z).a3)  y2_0  2), true), (Z8 (Zp 4 (List.drop (0 + (v2 * 4)) (Zd Ze L0))) [.i (L0.getD v2 RB.z).a0, .i (L0.getD v2 RB.z).a1, .i (L0.getD v2 RB.z).a2, .i (L0.getD v2 RB.z).a3], true), (Nat.blt v2 L0.length, true), ((v2 : Int) == Int.ofNat v2, true), (dP (Zdk #[vs 1 0 v1.length v1.length, Value.agg #[vi (L0.getD v2 RB.z).a0, vi (L0.getD v2 RB.z).a1, vi (L0.getD v2 RB.z).a2, vi (L0.getD v2 RB.z).a3], vi (v2 : Int)] (v1) ((L0.getD v2 RB.z).a0) ((L0.getD v2 RB.z).a1) ((L0.getD v2 RB.z).a2) ((L0.getD v2 RB.z).a3) ((v2 : Int))  y1_0 1 2), true), (dS (Zd E_ii v1), true), (Z8 (Zp 4 (List.drop (0 + (v2 * 4)) (Zd Ze L0))) [.i (L0.getD v2 RB.z).a0, .i (L0.getD v2 RB.z).a1, .i (L0.getD v2 RB.z).a2, .i (L0.getD v2 RB.z).a3], true), (Nat.blt v2 L0.length, true), ((v2 : Int) == Int.ofNat v2, true), ((decide ((v2 : Int) < (L0.length : Int))), true)]) rfl (show 1 ∈ Zu (ZbD 1) from by decide +kernel) (fun gv => by kernel_rfl) (Zb (beq_iff_eq.2 ((wrap_i64 ltA).trans (by first | rfl | omega))) <| Zb (Zdg (by first | assumption | exact Decidable.not_not.1 (by assumption) | simp_all)) <| Zb (Zdg (by first | assumption | exact Decidable.not_not.1 (by assumption) | simp_all)) <| Zb (Zg (Zbt #[Value.agg #[vi (L0.getD v2 RB.z).a0, vi (L0.getD v2 RB.z).a1, vi (L0.getD v2 RB.z).a2, vi (L0.getD v2 RB.z).a3]] ((L0.getD v2 RB.z).a0) ((L0.getD v2 RB.z).a1) ((L0.getD v2 RB.z).a2) ((L0.getD v2 RB.z).a3)  y2_0 N c2  2 rfl (by decide) (by decide))) <| Zb (Zo (E := Ze) (L := L0) (i := v2) (q := 0) (by omega) (show (0 + (v2 * 4)) = v2 * 4 + 0 from by omega) (show 0 + 4 ≤ 4 from by decide) rfl rfl) <| oB <| oI <| Zb (Zg (Zej #[vs 1 0 v1.length v1.length, Value.agg #[vi (L0.getD v2 RB.z).a0, vi (L0.getD v2 RB.z).a1, vi (L0.getD v2 RB.z).a2, vi (L0.getD v2 RB.z).a3], vi (v2 : Int)] (v1) ((L0.getD v2 RB.z).a0) ((L0.getD v2 RB.z).a1) ((L0.getD v2 RB.z).a2) ((L0.getD v2 RB.z).a3) ((v2 : Int))  y1_0 N c1 1 2 rfl (by decide) (by decide))) <| oR <| Zb (Zo (E := Ze) (L := L0) (i := v2) (q := 0) (by omega) (show (0 + (v2 * 4)) = v2 * 4 + 0 from by omega) (show 0 + 4 ≤ 4 from by decide) rfl rfl) <| oB <| oI <| oY Zf) rfl (by decide) (by rfl) (fun _ => ⟨rr, ⟨rr, ⟨rr, trivial⟩⟩⟩) ⟨(Zh (E := Ze) (α := RB) _ L0 _), ⟨(Zh (E := E_ii) (α := R_ii) _ v1 _), trivial⟩⟩
      ·
       exact Mach.ok_none
  | r1 y1_0 =>
   refine Mach.ok_bind (fun z2 c2 => ?_)
   cases z2 with
   | r0 y2_0 =>
    refine Mach.ok_ite (fun g3 => ?_) (fun g3 => ?_)
    ·
     exact Mach.ok_fin (M := ZA L0 N) (cd := 1000000) (cm := 0) (r := (.r0 ((v2 : Int)) : Z3)) (fu := 4000) (orc := (Zi [(0, true), (1, true)] [] [(0, v2), (1, v2)] [(0, [.i (L0.getD v2 RB.z).a0, .i (L0.getD v2 RB.z).a1, .i (L0.getD v2 RB.z).a2, .i (L0.getD v2 RB.z).a3]), (1, [.i (L0.getD v2 RB.z).a0, .i (L0.getD v2 RB.z).a1, .i (L0.getD v2 RB.z).a2, .i (L0.getD v2 RB.z).a3])] [(0, (ZfF (v1) ((L0.getD v2 RB.z).a0) ((L0.getD v2 RB.z).a1) ((L0.getD v2 RB.z).a2) ((L0.getD v2 RB.z).a3) ((v2 : Int))  y1_0 1 2)), (1, (Zbs ((L0.getD v2 RB.z).a0) ((L0.getD v2 RB.z).a1) ((L0.getD v2 RB.z).a2) ((L0.getD v2 RB.z).a3)  y2_0  3))])) (live := [0]) (u := vi (v2 : Int)) (bl := [some (.cells (Zd Ze L0) 54)]) (ob := [((!y2_0), true), (dP (Zbk #[Value.agg #[vi (L0.getD v2 RB.z).a0, vi (L0.getD v2 RB.z).a1, vi (L0.getD v2 RB.z).a2, vi (L0.getD v2 RB.z).a3]] ((L0.getD v2 RB.z).a0) ((L0.getD v2 RB.z).a1) ((L0.getD v2 RB.z).a2) ((L0.getD v2 RB.z).a3)  y2_0  3), true), (Z8 (Zp 4 (List.drop (0 + (v2 * 4)) (Zd Ze L0))) [.i (L0.getD v2 RB.z).a0, .i (L0.getD v2 RB.z).a1, .i (L0.getD v2 RB.z).a2, .i (L0.getD v2 RB.z).a3], true), (Nat.blt v2 L0.length, true), ((v2 : Int) == Int.ofNat v2, true), (dP (Zek #[vs 1 0 v1.length v1.length, Value.agg #[vi (L0.getD v2 RB.z).a0, vi (L0.getD v2 RB.z).a1, vi (L0.getD v2 RB.z).a2, vi (L0.getD v2 RB.z).a3], vi (v2 : Int)] (v1) ((L0.getD v2 RB.z).a0) ((L0.getD v2 RB.z).a1) ((L0.getD v2 RB.z).a2) ((L0.getD v2 RB.z).a3) ((v2 : Int))  y1_0 1 2), true), (dS (Zd E_ii v1), true), (Z8 (Zp 4 (List.drop (0 + (v2 * 4)) (Zd Ze L0))) [.i (L0.getD v2 RB.z).a0, .i (L0.getD v2 RB.z).a1, .i (L0.getD v2 RB.z).a2, .i (L0.getD v2 RB.z).a3], true), (Nat.blt v2 L0.length, true), ((v2 : Int) == Int.ofNat v2, true), ((decide ((v2 : Int) < (L0.length : Int))), true)]) (fun gv => by kernel_rfl) (Zb (Zfe (by first | assumption | simp_all)) <| Zb (Zg (Zbt #[Value.agg #[vi (L0.getD v2 RB.z).a0, vi (L0.getD v2 RB.z).a1, vi (L0.getD v2 RB.z).a2, vi (L0.getD v2 RB.z).a3]] ((L0.getD v2 RB.z).a0) ((L0.getD v2 RB.z).a1) ((L0.getD v2 RB.z).a2) ((L0.getD v2 RB.z).a3)  y2_0 N c2  3 rfl (by decide) (by decide))) <| Zb (Zo (E := Ze) (L := L0) (i := v2) (q := 0) (by omega) (show (0 + (v2 * 4)) = v2 * 4 + 0 from by omega) (show 0 + 4 ≤ 4 from by decide) rfl rfl) <| oB <| oI <| Zb (Zg (ZfG #[vs 1 0 v1.length v1.length, Value.agg #[vi (L0.getD v2 RB.z).a0, vi (L0.getD v2 RB.z).a1, vi (L0.getD v2 RB.z).a2, vi (L0.getD v2 RB.z).a3], vi (v2 : Int)] (v1) ((L0.getD v2 RB.z).a0) ((L0.getD v2 RB.z).a1) ((L0.getD v2 RB.z).a2) ((L0.getD v2 RB.z).a3) ((v2 : Int))  y1_0 N c1 1 2 rfl (by decide) (by decide))) <| oR <| Zb (Zo (E := Ze) (L := L0) (i := v2) (q := 0) (by omega) (show (0 + (v2 * 4)) = v2 * 4 + 0 from by omega) (show 0 + 4 ≤ 4 from by decide) rfl rfl) <| oB <| oI <| oY Zf) rfl (by decide) (by rfl) rr ⟨(Zh (E := Ze) (α := RB) _ L0 _), trivial⟩
    ·
     refine Mach.ok_ite (fun g4 => ?_) (fun g4 => ?_)
     ·
      exact Mach.ok_next (M := ZA L0 N) (cd := 1000000) (cm := 0) (y := (.h1m1 (y1_0) ((v2 + 1)) : Z0)) (fu := 4000) (orc := (Zi [(0, true), (1, false)] [(0, (((v2 + 1) : Nat) : Int))] [(0, v2), (1, v2)] [(0, [.i (L0.getD v2 RB.z).a0, .i (L0.getD v2 RB.z).a1, .i (L0.getD v2 RB.z).a2, .i (L0.getD v2 RB.z).a3]), (1, [.i (L0.getD v2 RB.z).a0, .i (L0.getD v2 RB.z).a1, .i (L0.getD v2 RB.z).a2, .i (L0.getD v2 RB.z).a3])] [(0, (ZfF (v1) ((L0.getD v2 RB.z).a0) ((L0.getD v2 RB.z).a1) ((L0.getD v2 RB.z).a2) ((L0.getD v2 RB.z).a3) ((v2 : Int))  y1_0 1 2)), (1, (Zbs ((L0.getD v2 RB.z).a0) ((L0.getD v2 RB.z).a1) ((L0.getD v2 RB.z).a2) ((L0.getD v2 RB.z).a3)  y2_0  3))])) (live := [0, 2]) (tv := fun _ => [some (vs 0 0 L0.length L0.length), some (vs 2 0 y1_0.length y1_0.length), some (vi (((v2 + 1) : Nat) : Int))]) (bl := [some (.cells (Zd Ze L0) 54), some (.cells (Zd E_ii y1_0) 102)]) (ob := [((IntKind.i64.wrap ((v2 : Int) + (1 : Int))) == (((v2 + 1) : Nat) : Int), true), ((!y2_0), false), (dP (Zbk #[Value.agg #[vi (L0.getD v2 RB.z).a0, vi (L0.getD v2 RB.z).a1, vi (L0.getD v2 RB.z).a2, vi (L0.getD v2 RB.z).a3]] ((L0.getD v2 RB.z).a0) ((L0.getD v2 RB.z).a1) ((L0.getD v2 RB.z).a2) ((L0.getD v2 RB.z).a3)  y2_0  3), true), (Z8 (Zp 4 (List.drop (0 + (v2 * 4)) (Zd Ze L0))) [.i (L0.getD v2 RB.z).a0, .i (L0.getD v2 RB.z).a1, .i (L0.getD v2 RB.z).a2, .i (L0.getD v2 RB.z).a3], true), (Nat.blt v2 L0.length, true), ((v2 : Int) == Int.ofNat v2, true), (dP (Zek #[vs 1 0 v1.length v1.length, Value.agg #[vi (L0.getD v2 RB.z).a0, vi (L0.getD v2 RB.z).a1, vi (L0.getD v2 RB.z).a2, vi (L0.getD v2 RB.z).a3], vi (v2 : Int)] (v1) ((L0.getD v2 RB.z).a0) ((L0.getD v2 RB.z).a1) ((L0.getD v2 RB.z).a2) ((L0.getD v2 RB.z).a3) ((v2 : Int))  y1_0 1 2), true), (dS (Zd E_ii v1), true), (Z8 (Zp 4 (List.drop (0 + (v2 * 4)) (Zd Ze L0))) [.i (L0.getD v2 RB.z).a0, .i (L0.getD v2 RB.z).a1, .i (L0.getD v2 RB.z).a2, .i (L0.getD v2 RB.z).a3], true), (Nat.blt v2 L0.length, true), ((v2 : Int) == Int.ofNat v2, true), ((decide ((v2 : Int) < (L0.length : Int))), true)]) rfl (show 1 ∈ Zu (ZbD 1) from by decide +kernel) (fun gv => by kernel_rfl) (Zb (beq_iff_eq.2 ((wrap_i64 ltA).trans (by first | rfl | omega))) <| Zb (Zdg (by first | assumption | exact Decidable.not_not.1 (by assumption) | simp_all)) <| Zb (Zg (Zbt #[Value.agg #[vi (L0.getD v2 RB.z).a0, vi (L0.getD v2 RB.z).a1, vi (L0.getD v2 RB.z).a2, vi (L0.getD v2 RB.z).a3]] ((L0.getD v2 RB.z).a0) ((L0.getD v2 RB.z).a1) ((L0.getD v2 RB.z).a2) ((L0.getD v2 RB.z).a3)  y2_0 N c2  3 rfl (by decide) (by decide))) <| Zb (Zo (E := Ze) (L := L0) (i := v2) (q := 0) (by omega) (show (0 + (v2 * 4)) = v2 * 4 + 0 from by omega) (show 0 + 4 ≤ 4 from by decide) rfl rfl) <| oB <| oI <| Zb (Zg (ZfG #[vs 1 0 v1.length v1.length, Value.agg #[vi (L0.getD v2 RB.z).a0, vi (L0.getD v2 RB.z).a1, vi (L0.getD v2 RB.z).a2, vi (L0.getD v2 RB.z).a3], vi (v2 : Int)] (v1) ((L0.getD v2 RB.z).a0) ((L0.getD v2 RB.z).a1) ((L0.getD v2 RB.z).a2) ((L0.getD v2 RB.z).a3) ((v2 : Int))  y1_0 N c1 1 2 rfl (by decide) (by decide))) <| oR <| Zb (Zo (E := Ze) (L := L0) (i := v2) (q := 0) (by omega) (show (0 + (v2 * 4)) = v2 * 4 + 0 from by omega) (show 0 + 4 ≤ 4 from by decide) rfl rfl) <| oB <| oI <| oY Zf) rfl (by decide) (by rfl) (fun _ => ⟨rr, ⟨rr, ⟨rr, trivial⟩⟩⟩) ⟨(Zh (E := Ze) (α := RB) _ L0 _), ⟨(Zh (E := E_ii) (α := R_ii) _ y1_0 _), trivial⟩⟩
     ·
      exact Mach.ok_none
  | r2 =>
   refine Mach.ok_bind (fun z2 c2 => ?_)
   cases z2 with
   | r0 y2_0 =>
    refine Mach.ok_ite (fun g3 => ?_) (fun g3 => ?_)
    ·
     exact Mach.ok_fin (M := ZA L0 N) (cd := 1000000) (cm := 0) (r := (.r0 ((v2 : Int)) : Z3)) (fu := 4000) (orc := (Zi [(0, true), (1, true)] [] [(0, v2), (1, v2)] [(0, [.i (L0.getD v2 RB.z).a0, .i (L0.getD v2 RB.z).a1, .i (L0.getD v2 RB.z).a2, .i (L0.getD v2 RB.z).a3]), (1, [.i (L0.getD v2 RB.z).a0, .i (L0.getD v2 RB.z).a1, .i (L0.getD v2 RB.z).a2, .i (L0.getD v2 RB.z).a3])] [(0, (ZfH (v1) ((L0.getD v2 RB.z).a0) ((L0.getD v2 RB.z).a1) ((L0.getD v2 RB.z).a2) ((L0.getD v2 RB.z).a3) ((v2 : Int))   1 2)), (1, (Zbs ((L0.getD v2 RB.z).a0) ((L0.getD v2 RB.z).a1) ((L0.getD v2 RB.z).a2) ((L0.getD v2 RB.z).a3)  y2_0  3))])) (live := [0]) (u := vi (v2 : Int)) (bl := [some (.cells (Zd Ze L0) 54)]) (ob := [((!y2_0), true), (dP (Zbk #[Value.agg #[vi (L0.getD v2 RB.z).a0, vi (L0.getD v2 RB.z).a1, vi (L0.getD v2 RB.z).a2, vi (L0.getD v2 RB.z).a3]] ((L0.getD v2 RB.z).a0) ((L0.getD v2 RB.z).a1) ((L0.getD v2 RB.z).a2) ((L0.getD v2 RB.z).a3)  y2_0  3), true), (Z8 (Zp 4 (List.drop (0 + (v2 * 4)) (Zd Ze L0))) [.i (L0.getD v2 RB.z).a0, .i (L0.getD v2 RB.z).a1, .i (L0.getD v2 RB.z).a2, .i (L0.getD v2 RB.z).a3], true), (Nat.blt v2 L0.length, true), ((v2 : Int) == Int.ofNat v2, true), (dP (Zel #[vs 1 0 v1.length v1.length, Value.agg #[vi (L0.getD v2 RB.z).a0, vi (L0.getD v2 RB.z).a1, vi (L0.getD v2 RB.z).a2, vi (L0.getD v2 RB.z).a3], vi (v2 : Int)] (v1) ((L0.getD v2 RB.z).a0) ((L0.getD v2 RB.z).a1) ((L0.getD v2 RB.z).a2) ((L0.getD v2 RB.z).a3) ((v2 : Int))   1 2), true), (dS (Zd E_ii v1), true), (Z8 (Zp 4 (List.drop (0 + (v2 * 4)) (Zd Ze L0))) [.i (L0.getD v2 RB.z).a0, .i (L0.getD v2 RB.z).a1, .i (L0.getD v2 RB.z).a2, .i (L0.getD v2 RB.z).a3], true), (Nat.blt v2 L0.length, true), ((v2 : Int) == Int.ofNat v2, true), ((decide ((v2 : Int) < (L0.length : Int))), true)]) (fun gv => by kernel_rfl) (Zb (Zfe (by first | assumption | simp_all)) <| Zb (Zg (Zbt #[Value.agg #[vi (L0.getD v2 RB.z).a0, vi (L0.getD v2 RB.z).a1, vi (L0.getD v2 RB.z).a2, vi (L0.getD v2 RB.z).a3]] ((L0.getD v2 RB.z).a0) ((L0.getD v2 RB.z).a1) ((L0.getD v2 RB.z).a2) ((L0.getD v2 RB.z).a3)  y2_0 N c2  3 rfl (by decide) (by decide))) <| Zb (Zo (E := Ze) (L := L0) (i := v2) (q := 0) (by omega) (show (0 + (v2 * 4)) = v2 * 4 + 0 from by omega) (show 0 + 4 ≤ 4 from by decide) rfl rfl) <| oB <| oI <| Zb (Zg (ZfI #[vs 1 0 v1.length v1.length, Value.agg #[vi (L0.getD v2 RB.z).a0, vi (L0.getD v2 RB.z).a1, vi (L0.getD v2 RB.z).a2, vi (L0.getD v2 RB.z).a3], vi (v2 : Int)] (v1) ((L0.getD v2 RB.z).a0) ((L0.getD v2 RB.z).a1) ((L0.getD v2 RB.z).a2) ((L0.getD v2 RB.z).a3) ((v2 : Int))   N c1 1 2 rfl (by decide) (by decide))) <| oR <| Zb (Zo (E := Ze) (L := L0) (i := v2) (q := 0) (by omega) (show (0 + (v2 * 4)) = v2 * 4 + 0 from by omega) (show 0 + 4 ≤ 4 from by decide) rfl rfl) <| oB <| oI <| oY Zf) rfl (by decide) (by rfl) rr ⟨(Zh (E := Ze) (α := RB) _ L0 _), trivial⟩
    ·
     refine Mach.ok_ite (fun g4 => ?_) (fun g4 => ?_)
     ·
      exact Mach.ok_next (M := ZA L0 N) (cd := 1000000) (cm := 0) (y := (.h1m1 ((v1.take (v1.length - 1))) ((v2 + 1)) : Z0)) (fu := 4000) (orc := (Zi [(0, true), (1, false)] [(0, (((v2 + 1) : Nat) : Int))] [(0, v2), (1, v2)] [(0, [.i (L0.getD v2 RB.z).a0, .i (L0.getD v2 RB.z).a1, .i (L0.getD v2 RB.z).a2, .i (L0.getD v2 RB.z).a3]), (1, [.i (L0.getD v2 RB.z).a0, .i (L0.getD v2 RB.z).a1, .i (L0.getD v2 RB.z).a2, .i (L0.getD v2 RB.z).a3])] [(0, (ZfH (v1) ((L0.getD v2 RB.z).a0) ((L0.getD v2 RB.z).a1) ((L0.getD v2 RB.z).a2) ((L0.getD v2 RB.z).a3) ((v2 : Int))   1 2)), (1, (Zbs ((L0.getD v2 RB.z).a0) ((L0.getD v2 RB.z).a1) ((L0.getD v2 RB.z).a2) ((L0.getD v2 RB.z).a3)  y2_0  3))])) (live := [0, 2]) (tv := fun _ => [some (vs 0 0 L0.length L0.length), some (vs 2 0 (v1.take (v1.length - 1)).length (v1.take (v1.length - 1)).length), some (vi (((v2 + 1) : Nat) : Int))]) (bl := [some (.cells (Zd Ze L0) 54), some (.cells (Zd E_ii (v1.take (v1.length - 1))) 102)]) (ob := [((IntKind.i64.wrap ((v2 : Int) + (1 : Int))) == (((v2 + 1) : Nat) : Int), true), ((!y2_0), false), (dP (Zbk #[Value.agg #[vi (L0.getD v2 RB.z).a0, vi (L0.getD v2 RB.z).a1, vi (L0.getD v2 RB.z).a2, vi (L0.getD v2 RB.z).a3]] ((L0.getD v2 RB.z).a0) ((L0.getD v2 RB.z).a1) ((L0.getD v2 RB.z).a2) ((L0.getD v2 RB.z).a3)  y2_0  3), true), (Z8 (Zp 4 (List.drop (0 + (v2 * 4)) (Zd Ze L0))) [.i (L0.getD v2 RB.z).a0, .i (L0.getD v2 RB.z).a1, .i (L0.getD v2 RB.z).a2, .i (L0.getD v2 RB.z).a3], true), (Nat.blt v2 L0.length, true), ((v2 : Int) == Int.ofNat v2, true), (dP (Zel #[vs 1 0 v1.length v1.length, Value.agg #[vi (L0.getD v2 RB.z).a0, vi (L0.getD v2 RB.z).a1, vi (L0.getD v2 RB.z).a2, vi (L0.getD v2 RB.z).a3], vi (v2 : Int)] (v1) ((L0.getD v2 RB.z).a0) ((L0.getD v2 RB.z).a1) ((L0.getD v2 RB.z).a2) ((L0.getD v2 RB.z).a3) ((v2 : Int))   1 2), true), (dS (Zd E_ii v1), true), (Z8 (Zp 4 (List.drop (0 + (v2 * 4)) (Zd Ze L0))) [.i (L0.getD v2 RB.z).a0, .i (L0.getD v2 RB.z).a1, .i (L0.getD v2 RB.z).a2, .i (L0.getD v2 RB.z).a3], true), (Nat.blt v2 L0.length, true), ((v2 : Int) == Int.ofNat v2, true), ((decide ((v2 : Int) < (L0.length : Int))), true)]) rfl (show 1 ∈ Zu (ZbD 1) from by decide +kernel) (fun gv => by kernel_rfl) (Zb (beq_iff_eq.2 ((wrap_i64 ltA).trans (by first | rfl | omega))) <| Zb (Zdg (by first | assumption | exact Decidable.not_not.1 (by assumption) | simp_all)) <| Zb (Zg (Zbt #[Value.agg #[vi (L0.getD v2 RB.z).a0, vi (L0.getD v2 RB.z).a1, vi (L0.getD v2 RB.z).a2, vi (L0.getD v2 RB.z).a3]] ((L0.getD v2 RB.z).a0) ((L0.getD v2 RB.z).a1) ((L0.getD v2 RB.z).a2) ((L0.getD v2 RB.z).a3)  y2_0 N c2  3 rfl (by decide) (by decide))) <| Zb (Zo (E := Ze) (L := L0) (i := v2) (q := 0) (by omega) (show (0 + (v2 * 4)) = v2 * 4 + 0 from by omega) (show 0 + 4 ≤ 4 from by decide) rfl rfl) <| oB <| oI <| Zb (Zg (ZfI #[vs 1 0 v1.length v1.length, Value.agg #[vi (L0.getD v2 RB.z).a0, vi (L0.getD v2 RB.z).a1, vi (L0.getD v2 RB.z).a2, vi (L0.getD v2 RB.z).a3], vi (v2 : Int)] (v1) ((L0.getD v2 RB.z).a0) ((L0.getD v2 RB.z).a1) ((L0.getD v2 RB.z).a2) ((L0.getD v2 RB.z).a3) ((v2 : Int))   N c1 1 2 rfl (by decide) (by decide))) <| oR <| Zb (Zo (E := Ze) (L := L0) (i := v2) (q := 0) (by omega) (show (0 + (v2 * 4)) = v2 * 4 + 0 from by omega) (show 0 + 4 ≤ 4 from by decide) rfl rfl) <| oB <| oI <| oY Zf) rfl (by decide) (by rfl) (fun _ => ⟨rr, ⟨rr, ⟨rr, trivial⟩⟩⟩) ⟨(Zh (E := Ze) (α := RB) _ L0 _), ⟨(Zh (E := E_ii) (α := R_ii) _ (v1.take (v1.length - 1)) _), trivial⟩⟩
     ·
      exact Mach.ok_none
 ·
  refine Mach.ok_ite (fun g1 => ?_) (fun g1 => ?_)
  ·
   exact Mach.ok_fin (M := ZA L0 N) (cd := 1000000) (cm := 0) (r := (.r0 ((L0.length : Int)) : Z3)) (fu := 4000) (orc := (Zi [(0, false), (1, true)] [] [] [] [])) (live := [0]) (u := vi (L0.length : Int)) (bl := [some (.cells (Zd Ze L0) 54)]) (ob := [((decide ((v1.length : Int) > (0 : Int))), true), ((decide ((v2 : Int) < (L0.length : Int))), false)]) (fun gv => by kernel_rfl) (oY <| oN Zf) rfl (by decide) (by rfl) rr ⟨(Zh (E := Ze) (α := RB) _ L0 _), trivial⟩
  ·
   exact Mach.ok_head (bK := ZaN 2) (M := ZA L0 N) (cd := 1000000) (cm := 0) (y := (.h2m0 (0) : Z0)) (fu := 4000) (orc := (Zi [(0, false), (1, false)] [] [] [] [])) (live := [0]) (tv := fun _ => [some (vs 0 0 L0.length L0.length), some (vq)]) (bl := [some (.cells (Zd Ze L0) 54)]) (ob := [((decide ((v1.length : Int) > (0 : Int))), false), ((decide ((v2 : Int) < (L0.length : Int))), false)]) rfl rfl (show ∀ j ∈ Zu (ZaN 2).2, j ∈ Zu (ZbD 1) from by decide +kernel) (fun gv => by kernel_rfl) (oN <| oN Zf) rfl (by decide) (by rfl) (fun _ => ⟨rr, ⟨⟨Eq.trans (show (vi ((0 : Nat) : Int) : Value) = vq from (congrArg (Value.int .i64) (by first | rfl | omega))) (by rfl), by rfl⟩, trivial⟩⟩) ⟨(Zh (E := Ze) (α := RB) _ L0 _), trivial⟩

theorem Zkt (L0 : List RB) (v1 N : Nat) : (ZA L0 N).Ok Tryz.prog Zt (.h2m0 v1 : Z0) (Zca L0 N (.h2m0 v1 : Z0)) := by
 show (ZA L0 N).Ok Tryz.prog Zt (.h2m0 v1 : Z0) (ZeG L0 N v1)
 unfold ZeG
 refine Mach.ok_ite (fun g0 => ?_) (fun g0 => ?_)
 ·
  refine Mach.ok_bind (fun z1 c1 => ?_)
  cases z1 with
  | r0 y1_0 y1_1 =>
   refine Mach.ok_ite (fun g2 => ?_) (fun g2 => ?_)
   ·
    subst g2
    refine Mach.ok_ite (fun g3 => ?_) (fun g3 => ?_)
    ·
     exact Mach.ok_fin (M := ZA L0 N) (cd := 1000000) (cm := 0) (r := (.r0 ((v1 : Int)) : Z3)) (fu := 4000) (orc := (Zi [(0, true), (1, true)] [] [(0, v1)] [(0, [.i (L0.getD v1 RB.z).a0, .i (L0.getD v1 RB.z).a1, .i (L0.getD v1 RB.z).a2, .i (L0.getD v1 RB.z).a3])] [(0, (Zem ((L0.getD v1 RB.z).a0) ((L0.getD v1 RB.z).a1) ((L0.getD v1 RB.z).a2) ((L0.getD v1 RB.z).a3)  y1_0 true  1))])) (live := [0]) (u := vi (v1 : Int)) (bl := [some (.cells (Zd Ze L0) 54)]) (ob := [((decide (y1_0 > (L0.length : Int))), true), (dP (Zdl #[Value.agg #[vi (L0.getD v1 RB.z).a0, vi (L0.getD v1 RB.z).a1, vi (L0.getD v1 RB.z).a2, vi (L0.getD v1 RB.z).a3]] ((L0.getD v1 RB.z).a0) ((L0.getD v1 RB.z).a1) ((L0.getD v1 RB.z).a2) ((L0.getD v1 RB.z).a3)  y1_0 true  1), true), (Z8 (Zp 4 (List.drop (0 + (v1 * 4)) (Zd Ze L0))) [.i (L0.getD v1 RB.z).a0, .i (L0.getD v1 RB.z).a1, .i (L0.getD v1 RB.z).a2, .i (L0.getD v1 RB.z).a3], true), (Nat.blt v1 L0.length, true), ((v1 : Int) == Int.ofNat v1, true), ((decide ((v1 : Int) < (L0.length : Int))), true)]) (fun gv => by kernel_rfl) (oY <| Zb (Zg (Zen #[Value.agg #[vi (L0.getD v1 RB.z).a0, vi (L0.getD v1 RB.z).a1, vi (L0.getD v1 RB.z).a2, vi (L0.getD v1 RB.z).a3]] ((L0.getD v1 RB.z).a0) ((L0.getD v1 RB.z).a1) ((L0.getD v1 RB.z).a2) ((L0.getD v1 RB.z).a3)  y1_0 true N c1  1 rfl (by decide) (by decide))) <| Zb (Zo (E := Ze) (L := L0) (i := v1) (q := 0) (by omega) (show (0 + (v1 * 4)) = v1 * 4 + 0 from by omega) (show 0 + 4 ≤ 4 from by decide) rfl rfl) <| oB <| oI <| oY Zf) rfl (by decide) (by rfl) rr ⟨(Zh (E := Ze) (α := RB) _ L0 _), trivial⟩
    ·
     refine Mach.ok_bind (fun z4 c4 => ?_)
     cases z4 with
     | r0 y4_0 y4_1 =>
      refine Mach.ok_bind (fun z5 c5 => ?_)
      cases z5 with
      | r0 y5_0 y5_1 =>
       refine Mach.ok_ite (fun g6 => ?_) (fun g6 => ?_)
       ·
        exact Mach.ok_fin (M := ZA L0 N) (cd := 1000000) (cm := 0) (r := (.r0 ((v1 : Int)) : Z3)) (fu := 4000) (orc := (Zi [(0, true), (1, false), (2, true)] [] [(0, v1)] [(0, [.i (L0.getD v1 RB.z).a0, .i (L0.getD v1 RB.z).a1, .i (L0.getD v1 RB.z).a2, .i (L0.getD v1 RB.z).a3])] [(0, (Zem ((L0.getD v1 RB.z).a0) ((L0.getD v1 RB.z).a1) ((L0.getD v1 RB.z).a2) ((L0.getD v1 RB.z).a3)  y1_0 true  1)), (1, (Zdm (L0) (y1_0)  y4_0 y4_1 0 1)), (2, (Zdm (L0) ((v1 : Int))  y5_0 y5_1 0 1))])) (live := [0]) (u := vi (v1 : Int)) (bl := [some (.cells (Zd Ze L0) 54)]) (ob := [((!((y4_0 == y5_0) && ((y4_1 == y5_1) && true))), true), (dP (Zcs #[vs 0 0 L0.length L0.length, vi (v1 : Int)] (L0) ((v1 : Int))  y5_0 y5_1 0 1), true), (dS (Zd Ze L0), true), (dP (Zcs #[vs 0 0 L0.length L0.length, vi y1_0] (L0) (y1_0)  y4_0 y4_1 0 1), true), (dS (Zd Ze L0), true), ((decide (y1_0 > (L0.length : Int))), false), (dP (Zdl #[Value.agg #[vi (L0.getD v1 RB.z).a0, vi (L0.getD v1 RB.z).a1, vi (L0.getD v1 RB.z).a2, vi (L0.getD v1 RB.z).a3]] ((L0.getD v1 RB.z).a0) ((L0.getD v1 RB.z).a1) ((L0.getD v1 RB.z).a2) ((L0.getD v1 RB.z).a3)  y1_0 true  1), true), (Z8 (Zp 4 (List.drop (0 + (v1 * 4)) (Zd Ze L0))) [.i (L0.getD v1 RB.z).a0, .i (L0.getD v1 RB.z).a1, .i (L0.getD v1 RB.z).a2, .i (L0.getD v1 RB.z).a3], true), (Nat.blt v1 L0.length, true), ((v1 : Int) == Int.ofNat v1, true), ((decide ((v1 : Int) < (L0.length : Int))), true)]) (fun gv => by kernel_rfl) (Zb (by rw [Bool.not_eq_true']; exact Bool.eq_false_iff.2 (by simp only [ne_eq, Bool.and_true, Bool.and_eq_true, beq_iff_eq]; first | omega | (intro hh; simp_all; done) | (intro hh; grind))) <| Zb (Zg (Zdn #[vs 0 0 L0.length L0.length, vi (v1 : Int)] (L0) ((v1 : Int))  y5_0 y5_1 N c5 0 1 rfl (by decide) (by decide))) <| oR <| Zb (Zg (Zdn #[vs 0 0 L0.length L0.length, vi y1_0] (L0) (y1_0)  y4_0 y4_1 N c4 0 1 rfl (by decide) (by decide))) <| oR <| oN <| Zb (Zg (Zen #[Value.agg #[vi (L0.getD v1 RB.z).a0, vi (L0.getD v1 RB.z).a1, vi (L0.getD v1 RB.z).a2, vi (L0.getD v1 RB.z).a3]] ((L0.getD v1 RB.z).a0) ((L0.getD v1 RB.z).a1) ((L0.getD v1 RB.z).a2) ((L0.getD v1 RB.z).a3)  y1_0 true N c1  1 rfl (by decide) (by decide))) <| Zb (Zo (E := Ze) (L := L0) (i := v1) (q := 0) (by omega) (show (0 + (v1 * 4)) = v1 * 4 + 0 from by omega) (show 0 + 4 ≤ 4 from by decide) rfl rfl) <| oB <| oI <| oY Zf) rfl (by decide) (by rfl) rr ⟨(Zh (E := Ze) (α := RB) _ L0 _), trivial⟩
       ·
        refine Mach.ok_ite (fun g7 => ?_) (fun g7 => ?_)
        ·
         exact Mach.ok_next (M := ZA L0 N) (cd := 1000000) (cm := 0) (y := (.h2m0 ((v1 + 1)) : Z0)) (fu := 4000) (orc := (Zi [(0, true), (1, false), (2, false)] [(0, (((v1 + 1) : Nat) : Int))] [(0, v1)] [(0, [.i (L0.getD v1 RB.z).a0, .i (L0.getD v1 RB.z).a1, .i (L0.getD v1 RB.z).a2, .i (L0.getD v1 RB.z).a3])] [(0, (Zem ((L0.getD v1 RB.z).a0) ((L0.getD v1 RB.z).a1) ((L0.getD v1 RB.z).a2) ((L0.getD v1 RB.z).a3)  y1_0 true  1)), (1, (Zdm (L0) (y1_0)  y4_0 y4_1 0 1)), (2, (Zdm (L0) ((v1 : Int))  y5_0 y5_1 0 1))])) (live := [0]) (tv := fun _ => [some (vs 0 0 L0.length L0.length), some (vi (((v1 + 1) : Nat) : Int))]) (bl := [some (.cells (Zd Ze L0) 54)]) (ob := [((IntKind.i64.wrap ((v1 : Int) + (1 : Int))) == (((v1 + 1) : Nat) : Int), true), ((!((y4_0 == y5_0) && ((y4_1 == y5_1) && true))), false), (dP (Zcs #[vs 0 0 L0.length L0.length, vi (v1 : Int)] (L0) ((v1 : Int))  y5_0 y5_1 0 1), true), (dS (Zd Ze L0), true), (dP (Zcs #[vs 0 0 L0.length L0.length, vi y1_0] (L0) (y1_0)  y4_0 y4_1 0 1), true), (dS (Zd Ze L0), true), ((decide (y1_0 > (L0.length : Int))), false), (dP (Zdl #[Value.agg #[vi (L0.getD v1 RB.z).a0, vi (L0.getD v1 RB.z).a1, vi (L0.getD v1 RB.z).a2, vi (L0.getD v1 RB.z).a3]] ((L0.getD v1 RB.z).a0) ((L0.getD v1 RB.z).a1) ((L0.getD v1 RB.z).a2) ((L0.getD v1 RB.z).a3)  y1_0 true  1), true), (Z8 (Zp 4 (List.drop (0 + (v1 * 4)) (Zd Ze L0))) [.i (L0.getD v1 RB.z).a0, .i (L0.getD v1 RB.z).a1, .i (L0.getD v1 RB.z).a2, .i (L0.getD v1 RB.z).a3], true), (Nat.blt v1 L0.length, true), ((v1 : Int) == Int.ofNat v1, true), ((decide ((v1 : Int) < (L0.length : Int))), true)]) rfl (show 2 ∈ Zu (ZbD 2) from by decide +kernel) (fun gv => by kernel_rfl) (Zb (beq_iff_eq.2 ((wrap_i64 ltA).trans (by first | rfl | omega))) <| Zb (by rw [Bool.not_eq_false']; first | (simp only [beq_self_eq_true, Bool.and_self]; done) | (simp only [Bool.and_true, Bool.and_eq_true, beq_iff_eq] <;> first | omega | (simp_all; done) | grind)) <| Zb (Zg (Zdn #[vs 0 0 L0.length L0.length, vi (v1 : Int)] (L0) ((v1 : Int))  y5_0 y5_1 N c5 0 1 rfl (by decide) (by decide))) <| oR <| Zb (Zg (Zdn #[vs 0 0 L0.length L0.length, vi y1_0] (L0) (y1_0)  y4_0 y4_1 N c4 0 1 rfl (by decide) (by decide))) <| oR <| oN <| Zb (Zg (Zen #[Value.agg #[vi (L0.getD v1 RB.z).a0, vi (L0.getD v1 RB.z).a1, vi (L0.getD v1 RB.z).a2, vi (L0.getD v1 RB.z).a3]] ((L0.getD v1 RB.z).a0) ((L0.getD v1 RB.z).a1) ((L0.getD v1 RB.z).a2) ((L0.getD v1 RB.z).a3)  y1_0 true N c1  1 rfl (by decide) (by decide))) <| Zb (Zo (E := Ze) (L := L0) (i := v1) (q := 0) (by omega) (show (0 + (v1 * 4)) = v1 * 4 + 0 from by omega) (show 0 + 4 ≤ 4 from by decide) rfl rfl) <| oB <| oI <| oY Zf) rfl (by decide) (by rfl) (fun _ => ⟨rr, ⟨rr, trivial⟩⟩) ⟨(Zh (E := Ze) (α := RB) _ L0 _), trivial⟩
        ·
         exact Mach.ok_none
   ·
    obtain rfl : y1_1 = false := by simpa using g2
    refine Mach.ok_ite (fun g3 => ?_) (fun g3 => ?_)
    ·
     exact Mach.ok_next (M := ZA L0 N) (cd := 1000000) (cm := 0) (y := (.h2m0 ((v1 + 1)) : Z0)) (fu := 4000) (orc := (Zi [(0, true)] [(0, (((v1 + 1) : Nat) : Int))] [(0, v1)] [(0, [.i (L0.getD v1 RB.z).a0, .i (L0.getD v1 RB.z).a1, .i (L0.getD v1 RB.z).a2, .i (L0.getD v1 RB.z).a3])] [(0, (Zem ((L0.getD v1 RB.z).a0) ((L0.getD v1 RB.z).a1) ((L0.getD v1 RB.z).a2) ((L0.getD v1 RB.z).a3)  y1_0 false  1))])) (live := [0]) (tv := fun _ => [some (vs 0 0 L0.length L0.length), some (vi (((v1 + 1) : Nat) : Int))]) (bl := [some (.cells (Zd Ze L0) 54)]) (ob := [((IntKind.i64.wrap ((v1 : Int) + (1 : Int))) == (((v1 + 1) : Nat) : Int), true), (dP (Zdl #[Value.agg #[vi (L0.getD v1 RB.z).a0, vi (L0.getD v1 RB.z).a1, vi (L0.getD v1 RB.z).a2, vi (L0.getD v1 RB.z).a3]] ((L0.getD v1 RB.z).a0) ((L0.getD v1 RB.z).a1) ((L0.getD v1 RB.z).a2) ((L0.getD v1 RB.z).a3)  y1_0 false  1), true), (Z8 (Zp 4 (List.drop (0 + (v1 * 4)) (Zd Ze L0))) [.i (L0.getD v1 RB.z).a0, .i (L0.getD v1 RB.z).a1, .i (L0.getD v1 RB.z).a2, .i (L0.getD v1 RB.z).a3], true), (Nat.blt v1 L0.length, true), ((v1 : Int) == Int.ofNat v1, true), ((decide ((v1 : Int) < (L0.length : Int))), true)]) rfl (show 2 ∈ Zu (ZbD 2) from by decide +kernel) (fun gv => by kernel_rfl) (Zb (beq_iff_eq.2 ((wrap_i64 ltA).trans (by first | rfl | omega))) <| Zb (Zg (Zen #[Value.agg #[vi (L0.getD v1 RB.z).a0, vi (L0.getD v1 RB.z).a1, vi (L0.getD v1 RB.z).a2, vi (L0.getD v1 RB.z).a3]] ((L0.getD v1 RB.z).a0) ((L0.getD v1 RB.z).a1) ((L0.getD v1 RB.z).a2) ((L0.getD v1 RB.z).a3)  y1_0 false N c1  1 rfl (by decide) (by decide))) <| Zb (Zo (E := Ze) (L := L0) (i := v1) (q := 0) (by omega) (show (0 + (v1 * 4)) = v1 * 4 + 0 from by omega) (show 0 + 4 ≤ 4 from by decide) rfl rfl) <| oB <| oI <| oY Zf) rfl (by decide) (by rfl) (fun _ => ⟨rr, ⟨rr, trivial⟩⟩) ⟨(Zh (E := Ze) (α := RB) _ L0 _), trivial⟩
    ·
     exact Mach.ok_none
 ·
  exact Mach.ok_fin (M := ZA L0 N) (cd := 1000000) (cm := 0) (r := (.r0 ((-1 : Int)) : Z3)) (fu := 4000) (orc := (Zi [(0, false)] [] [] [] [])) (live := [0]) (u := vi (-1 : Int)) (bl := [some (.cells (Zd Ze L0) 54)]) (ob := [((decide ((v1 : Int) < (L0.length : Int))), false)]) (fun gv => by kernel_rfl) (oN Zf) rfl (by decide) (by rfl) rr ⟨(Zh (E := Ze) (α := RB) _ L0 _), trivial⟩

theorem Zm4 (L0 : List RB) (N : Nat) : (ZA L0 N).Enter Tryz.prog Zt #[vs 0 0 L0.length L0.length] (Zgo L0 N) := by
 unfold Zgo
 refine Mach.en_ite (fun g0 => ?_) (fun g0 => ?_)
 ·
  exact Mach.en_fin (M := ZA L0 N) (cd := 1000000) (cm := 0) (r := (.r0 ((0 : Int)) : Z3)) (fu := 4000) (orc := (Zi [(0, true)] [] [] [] [])) (live := [0]) (u := vq) (bl := [some (.cells (Zd Ze L0) 54)]) (ob := [((decide ((L0.length : Int) < (1 : Int))), true)]) (by kernel_rfl) (oY Zf) rfl (by decide) (by rfl) rr ⟨(Zh (E := Ze) (α := RB) _ L0 _), trivial⟩
 ·
  refine Mach.en_ite (fun g1 => ?_) (fun g1 => ?_)
  ·
   exact Mach.en_fin (M := ZA L0 N) (cd := 1000000) (cm := 0) (r := (.r0 ((0 : Int)) : Z3)) (fu := 4000) (orc := (Zi [(0, false), (1, true)] [] [] [] [])) (live := [0]) (u := vq) (bl := [some (.cells (Zd Ze L0) 54)]) (ob := [((decide ((L0.length : Int) > (512 : Int))), true), ((decide ((L0.length : Int) < (1 : Int))), false)]) (by kernel_rfl) (oY <| oN Zf) rfl (by decide) (by rfl) rr ⟨(Zh (E := Ze) (α := RB) _ L0 _), trivial⟩
  ·
   exact Mach.en_head (bK := ZaN 1) (M := ZA L0 N) (cd := 1000000) (cm := 0) (y := (.h1m0 (0) : Z0)) (fu := 4000) (orc := (Zi [(0, false), (1, false)] [] [] [] [])) (live := [0]) (tv := [some (vs 0 0 L0.length L0.length), some (vn), some (vq)]) (bl := [some (.cells (Zd Ze L0) 54)]) (ob := [((decide ((L0.length : Int) > (512 : Int))), false), ((decide ((L0.length : Int) < (1 : Int))), false)]) rfl rfl (show Zu (ZaN 1).2 = [] from rfl) (by kernel_rfl) (oN <| oN Zf) rfl (by decide) (by rfl) ⟨rr, ⟨rr, ⟨⟨Eq.trans (show (vi ((0 : Nat) : Int) : Value) = vq from (congrArg (Value.int .i64) (by first | rfl | omega))) (by rfl), by rfl⟩, trivial⟩⟩⟩ ⟨(Zh (E := Ze) (α := RB) _ L0 _), trivial⟩

theorem Zlf (L0 : List RB) (N : Nat) (r : Z3) (h : Zh7 L0 N = some r) : LSpec Tryz.prog 44 #[vs 0 0 L0.length L0.length] [.cells (Zd Ze L0) 54] (ZjD L0 r) (ZiI L0 r) :=
 Mach.spec Za7 (ZA L0 N) Tryz.func44 (by kernel_rfl) (by kernel_rfl) (fun x => by cases x <;> exact ZQ _ rfl) (fun r => by cases r <;> exact ZQ _ rfl) (fun x => by
  cases x with
  | h1m0 _ => exact fun _ => (show ¬ (1 ∈ Zu (ZaN 1).2) from by decide +kernel)
  | h1m1 _ _ => exact fun _ => (show ¬ (1 ∈ Zu (ZaN 1).2) from by decide +kernel)
  | h2m0 _ => exact fun _ => (show ¬ (2 ∈ Zu (ZaN 2).2) from by decide +kernel)
  ) (fun x => (show (ZA L0 N).Ok Tryz.prog Zt x (Zca L0 N x) from by
  cases x with
  | h1m0 v1 => exact Zkr L0 v1 N
  | h1m1 v1 v2 => exact Zks L0 v1 v2 N
  | h2m0 v1 => exact Zkt L0 v1 N
  )) (Zm4 L0 N) (n := N) h

noncomputable def Zd4 (L0 : List RB) (w1 : Int) (k0 n : Nat) : Za8 := .call [(k0, .cells (Zd Ze L0) 54)] (vi w1) [] 0
def Zc8 (A : Array Value) (L0 : List RB) (w1 : Int) (k0 n : Nat) : Prop := ZD Tryz.prog 44 A [(k0, .cells (Zd Ze L0) 54)] (vi w1) [] n 0

theorem Zd5 (A : Array Value) (L0 : List RB) (w1 : Int) (N : Nat) (h : Zh7 L0 N = some (.r0 w1)) (k0 n : Nat) (hA : A = #[vs k0 0 L0.length L0.length]) (hnd : ([k0] : List Nat).Nodup) (hlt : ∀ k ∈ ([k0] : List Nat), k < n) : Zc8 A L0 w1 k0 n :=
 ZT hA (LSpec.callL (show LSpec Tryz.prog 44 #[vs 0 0 L0.length L0.length] [.cells (Zd Ze L0) 54] (vi w1) [some (.cells (Zd Ze L0) 54)] from Zlf L0 N _ h) [k0] n [] rfl hnd hlt (show 1 ≤ 1 from by decide) (show ∀ j ∈ ([] : List Nat), j < 1 from by decide) (by rfl) ⟨(Z5 _ _ _), trivial⟩ (by rfl) ⟨(Z5 _ _ _), trivial⟩ ⟨.inr rfl, trivial⟩ rfl rfl rfl (Za (ZC rfl (Zad _ _ _)) rfl) rfl)

noncomputable def ZjE (L0 : List RB) : Za1 → Value
 | .r0 w1 => vi w1
noncomputable def ZiK (L0 : List RB) : Za1 → List (Option AObj)
 | .r0 w1 => [some (.cells (Zd Ze L0) 54)]

theorem Zm5 (L0 : List RB) (N : Nat) : Fx Tryz.prog Zt Tryz.f29 [.cells (Zd Ze L0) 54] #[vs 0 0 L0.length L0.length] (ZjE L0) (ZiK L0) (Zey L0 N) := by
 unfold Zey
 refine ZeS (fun z0 c0 => ?_)
 cases z0 with
 | r0 y0_0 =>
  refine Zv (fun g1 => ?_) (fun g1 => ?_)
  ·
   exact Zq (r := (.r0 ((0 : Int)) : Za1)) (fu := 4000) (orc := (Zi [(0, true)] [] [] [] [(0, (Zd4 (L0)  y0_0 0 1))])) (live := [0]) (u := vq) (bl := [some (.cells (Zd Ze L0) 54)]) (ob := [((decide (y0_0 < (0 : Int))), true), (dP (Zc8 #[vs 0 0 L0.length L0.length] (L0)  y0_0 0 1), true), (dS (Zd Ze L0), true)]) (by kernel_rfl) (oY <| Zb (Zg (Zd5 #[vs 0 0 L0.length L0.length] (L0)  y0_0 N c0 0 1 rfl (by decide) (by decide))) <| oR Zf) rfl (by decide) (by rfl) rr ⟨(Zh (E := Ze) (α := RB) _ L0 _), trivial⟩
  ·
   refine Zv (fun g2 => ?_) (fun g2 => ?_)
   ·
    refine Zv (fun g3 => ?_) (fun g3 => ?_)
    ·
     refine Zv (fun g4 => ?_) (fun g4 => ?_)
     ·
      exact Zq (r := (.r0 ((140 : Int)) : Za1)) (fu := 4000) (orc := (Zi [(0, false), (1, true), (2, true), (3, true)] [] [(0, (y0_0).toNat)] [(0, [.i (L0.getD (y0_0).toNat RB.z).a0, .i (L0.getD (y0_0).toNat RB.z).a1, .i (L0.getD (y0_0).toNat RB.z).a2, .i (L0.getD (y0_0).toNat RB.z).a3])] [(0, (Zd4 (L0)  y0_0 0 1))])) (live := [0]) (u := vi (140 : Int)) (bl := [some (.cells (Zd Ze L0) 54)]) (ob := [((((L0.getD (y0_0).toNat RB.z).a0 == (15 : Int)) && (((L0.getD (y0_0).toNat RB.z).a1 == (0 : Int)) && (((L0.getD (y0_0).toNat RB.z).a2 == (0 : Int)) && (((L0.getD (y0_0).toNat RB.z).a3 == (0 : Int)) && true)))), true), (Z8 (Zp 4 (List.drop (0 + ((y0_0).toNat * 4)) (Zd Ze L0))) [.i (L0.getD (y0_0).toNat RB.z).a0, .i (L0.getD (y0_0).toNat RB.z).a1, .i (L0.getD (y0_0).toNat RB.z).a2, .i (L0.getD (y0_0).toNat RB.z).a3], true), (Nat.blt (y0_0).toNat L0.length, true), (y0_0 == Int.ofNat (y0_0).toNat, true), ((decide ((L0.length : Int) ≤ (512 : Int))), true), ((decide (y0_0 < (L0.length : Int))), true), ((decide (y0_0 < (0 : Int))), false), (dP (Zc8 #[vs 0 0 L0.length L0.length] (L0)  y0_0 0 1), true), (dS (Zd Ze L0), true)]) (by kernel_rfl) (Zb (by first | (simp only [beq_self_eq_true, Bool.and_self]; done) | (simp only [Bool.and_true, Bool.and_eq_true, beq_iff_eq] <;> first | omega | (simp_all; done) | grind)) <| Zb (Zo (E := Ze) (L := L0) (i := (y0_0).toNat) (q := 0) (by omega) (show (0 + ((y0_0).toNat * 4)) = (y0_0).toNat * 4 + 0 from by omega) (show 0 + 4 ≤ 4 from by decide) rfl rfl) <| oB <| oI <| oY <| oY <| oN <| Zb (Zg (Zd5 #[vs 0 0 L0.length L0.length] (L0)  y0_0 N c0 0 1 rfl (by decide) (by decide))) <| oR Zf) rfl (by decide) (by rfl) rr ⟨(Zh (E := Ze) (α := RB) _ L0 _), trivial⟩
     ·
      exact Zq (r := (.r0 ((120 : Int)) : Za1)) (fu := 4000) (orc := (Zi [(0, false), (1, true), (2, true), (3, false)] [] [(0, (y0_0).toNat)] [(0, [.i (L0.getD (y0_0).toNat RB.z).a0, .i (L0.getD (y0_0).toNat RB.z).a1, .i (L0.getD (y0_0).toNat RB.z).a2, .i (L0.getD (y0_0).toNat RB.z).a3])] [(0, (Zd4 (L0)  y0_0 0 1))])) (live := [0]) (u := vi (120 : Int)) (bl := [some (.cells (Zd Ze L0) 54)]) (ob := [((((L0.getD (y0_0).toNat RB.z).a0 == (15 : Int)) && (((L0.getD (y0_0).toNat RB.z).a1 == (0 : Int)) && (((L0.getD (y0_0).toNat RB.z).a2 == (0 : Int)) && (((L0.getD (y0_0).toNat RB.z).a3 == (0 : Int)) && true)))), false), (Z8 (Zp 4 (List.drop (0 + ((y0_0).toNat * 4)) (Zd Ze L0))) [.i (L0.getD (y0_0).toNat RB.z).a0, .i (L0.getD (y0_0).toNat RB.z).a1, .i (L0.getD (y0_0).toNat RB.z).a2, .i (L0.getD (y0_0).toNat RB.z).a3], true), (Nat.blt (y0_0).toNat L0.length, true), (y0_0 == Int.ofNat (y0_0).toNat, true), ((decide ((L0.length : Int) ≤ (512 : Int))), true), ((decide (y0_0 < (L0.length : Int))), true), ((decide (y0_0 < (0 : Int))), false), (dP (Zc8 #[vs 0 0 L0.length L0.length] (L0)  y0_0 0 1), true), (dS (Zd Ze L0), true)]) (by kernel_rfl) (Zb (Bool.eq_false_iff.2 (by simp only [ne_eq, Bool.and_true, Bool.and_eq_true, beq_iff_eq]; first | omega | (intro hh; simp_all; done) | (intro hh; grind))) <| Zb (Zo (E := Ze) (L := L0) (i := (y0_0).toNat) (q := 0) (by omega) (show (0 + ((y0_0).toNat * 4)) = (y0_0).toNat * 4 + 0 from by omega) (show 0 + 4 ≤ 4 from by decide) rfl rfl) <| oB <| oI <| oY <| oY <| oN <| Zb (Zg (Zd5 #[vs 0 0 L0.length L0.length] (L0)  y0_0 N c0 0 1 rfl (by decide) (by decide))) <| oR Zf) rfl (by decide) (by rfl) rr ⟨(Zh (E := Ze) (α := RB) _ L0 _), trivial⟩
    ·
     exact Zq (r := (.r0 ((120 : Int)) : Za1)) (fu := 4000) (orc := (Zi [(0, false), (1, true), (2, false)] [] [] [] [(0, (Zd4 (L0)  y0_0 0 1))])) (live := [0]) (u := vi (120 : Int)) (bl := [some (.cells (Zd Ze L0) 54)]) (ob := [((decide ((L0.length : Int) ≤ (512 : Int))), false), ((decide (y0_0 < (L0.length : Int))), true), ((decide (y0_0 < (0 : Int))), false), (dP (Zc8 #[vs 0 0 L0.length L0.length] (L0)  y0_0 0 1), true), (dS (Zd Ze L0), true)]) (by kernel_rfl) (oN <| oY <| oN <| Zb (Zg (Zd5 #[vs 0 0 L0.length L0.length] (L0)  y0_0 N c0 0 1 rfl (by decide) (by decide))) <| oR Zf) rfl (by decide) (by rfl) rr ⟨(Zh (E := Ze) (α := RB) _ L0 _), trivial⟩
   ·
    exact Zq (r := (.r0 ((120 : Int)) : Za1)) (fu := 4000) (orc := (Zi [(0, false), (1, false)] [] [] [] [(0, (Zd4 (L0)  y0_0 0 1))])) (live := [0]) (u := vi (120 : Int)) (bl := [some (.cells (Zd Ze L0) 54)]) (ob := [((decide (y0_0 < (L0.length : Int))), false), ((decide (y0_0 < (0 : Int))), false), (dP (Zc8 #[vs 0 0 L0.length L0.length] (L0)  y0_0 0 1), true), (dS (Zd Ze L0), true)]) (by kernel_rfl) (oN <| oN <| Zb (Zg (Zd5 #[vs 0 0 L0.length L0.length] (L0)  y0_0 N c0 0 1 rfl (by decide) (by decide))) <| oR Zf) rfl (by decide) (by rfl) rr ⟨(Zh (E := Ze) (α := RB) _ L0 _), trivial⟩

theorem Zhd (L0 : List RB) (N : Nat) (r : Za1) (h : Zey L0 N = some r) : LSpec Tryz.prog 29 #[vs 0 0 L0.length L0.length] [.cells (Zd Ze L0) 54] (ZjE L0 r) (ZiK L0 r) :=
 Zcq Za7 Tryz.func29 (by kernel_rfl) (by kernel_rfl) (fun r => by cases r <;> exact ZQ _ rfl) (Zm5 L0 N) h

noncomputable def ZiL (L0 : List RB) (w1 : Int) (k0 n : Nat) : Za8 := .call [(k0, .cells (Zd Ze L0) 54)] (vi w1) [] 0
def Zgs (A : Array Value) (L0 : List RB) (w1 : Int) (k0 n : Nat) : Prop := ZD Tryz.prog 29 A [(k0, .cells (Zd Ze L0) 54)] (vi w1) [] n 0

theorem ZiM (A : Array Value) (L0 : List RB) (w1 : Int) (N : Nat) (h : Zey L0 N = some (.r0 w1)) (k0 n : Nat) (hA : A = #[vs k0 0 L0.length L0.length]) (hnd : ([k0] : List Nat).Nodup) (hlt : ∀ k ∈ ([k0] : List Nat), k < n) : Zgs A L0 w1 k0 n :=
 ZT hA (LSpec.callL (show LSpec Tryz.prog 29 #[vs 0 0 L0.length L0.length] [.cells (Zd Ze L0) 54] (vi w1) [some (.cells (Zd Ze L0) 54)] from Zhd L0 N _ h) [k0] n [] rfl hnd hlt (show 1 ≤ 1 from by decide) (show ∀ j ∈ ([] : List Nat), j < 1 from by decide) (by rfl) ⟨(Z5 _ _ _), trivial⟩ (by rfl) ⟨(Z5 _ _ _), trivial⟩ ⟨.inr rfl, trivial⟩ rfl rfl rfl (Za (ZC rfl (Zad _ _ _)) rfl) rfl)

noncomputable def Zm6 : Zee → Value
 | .r0 => vq
noncomputable def ZlW : Zee → List (Option AObj)
 | .r0 => [some cz0]

theorem ZjF (N : Nat) (r : Zee) (h : Zgp N = some r) : LSpec Tryz.prog 29 #[vs 0 0 109 109] [cz0] (Zm6 r) (ZlW r) := by
 cases r
 exact Zqi (by kernel_rfl) (by kernel_rfl) (by kernel_rfl) (by kernel_rfl) (Zhd (([(⟨(1 : Int), (1 : Int), (5 : Int), (0 : Int)⟩ : RB), (⟨(10 : Int), (0 : Int), (0 : Int), (0 : Int)⟩ : RB), (⟨(15 : Int), (0 : Int), (0 : Int), (0 : Int)⟩ : RB), (⟨(13 : Int), (2 : Int), (0 : Int), (2 : Int)⟩ : RB), (⟨(9 : Int), (2 : Int), (27 : Int), (0 : Int)⟩ : RB), (⟨(13 : Int), (3 : Int), (2 : Int), (1 : Int)⟩ : RB), (⟨(6 : Int), (4 : Int), (3 : Int), (1 : Int)⟩ : RB), (⟨(9 : Int), (4 : Int), (24 : Int), (0 : Int)⟩ : RB), (⟨(13 : Int), (5 : Int), (2 : Int), (0 : Int)⟩ : RB), (⟨(9 : Int), (5 : Int), (18 : Int), (0 : Int)⟩ : RB), (⟨(13 : Int), (3 : Int), (5 : Int), (1 : Int)⟩ : RB), (⟨(6 : Int), (4 : Int), (3 : Int), (1 : Int)⟩ : RB), (⟨(9 : Int), (4 : Int), (15 : Int), (0 : Int)⟩ : RB), (⟨(3 : Int), (2 : Int), (5 : Int), (0 : Int)⟩ : RB), (⟨(8 : Int), (8 : Int), (0 : Int), (0 : Int)⟩ : RB), (⟨(7 : Int), (4 : Int), (3 : Int), (1 : Int)⟩ : RB), (⟨(9 : Int), (4 : Int), (18 : Int), (0 : Int)⟩ : RB), (⟨(8 : Int), (33 : Int), (0 : Int), (0 : Int)⟩ : RB), (⟨(11 : Int), (6 : Int), (2 : Int), (1 : Int)⟩ : RB), (⟨(14 : Int), (6 : Int), (1 : Int), (1 : Int)⟩ : RB), (⟨(14 : Int), (6 : Int), (0 : Int), (5 : Int)⟩ : RB), (⟨(14 : Int), (2 : Int), (0 : Int), (6 : Int)⟩ : RB), (⟨(1 : Int), (7 : Int), (1 : Int), (0 : Int)⟩ : RB), (⟨(8 : Int), (34 : Int), (0 : Int), (0 : Int)⟩ : RB), (⟨(7 : Int), (4 : Int), (3 : Int), (1 : Int)⟩ : RB), (⟨(9 : Int), (4 : Int), (27 : Int), (0 : Int)⟩ : RB), (⟨(8 : Int), (33 : Int), (0 : Int), (0 : Int)⟩ : RB), (⟨(11 : Int), (6 : Int), (2 : Int), (1 : Int)⟩ : RB), (⟨(14 : Int), (6 : Int), (1 : Int), (1 : Int)⟩ : RB), (⟨(14 : Int), (6 : Int), (0 : Int), (2 : Int)⟩ : RB), (⟨(14 : Int), (0 : Int), (2 : Int), (6 : Int)⟩ : RB), (⟨(1 : Int), (7 : Int), (1 : Int), (0 : Int)⟩ : RB), (⟨(8 : Int), (34 : Int), (0 : Int), (0 : Int)⟩ : RB), (⟨(1 : Int), (7 : Int), (0 : Int), (0 : Int)⟩ : RB), (⟨(17 : Int), (0 : Int), (0 : Int), (0 : Int)⟩ : RB), (⟨(19 : Int), (7 : Int), (0 : Int), (0 : Int)⟩ : RB), (⟨(1 : Int), (1 : Int), (3 : Int), (0 : Int)⟩ : RB), (⟨(10 : Int), (0 : Int), (0 : Int), (0 : Int)⟩ : RB), (⟨(15 : Int), (0 : Int), (0 : Int), (0 : Int)⟩ : RB), (⟨(13 : Int), (2 : Int), (0 : Int), (2 : Int)⟩ : RB), (⟨(9 : Int), (2 : Int), (63 : Int), (0 : Int)⟩ : RB), (⟨(13 : Int), (3 : Int), (2 : Int), (1 : Int)⟩ : RB), (⟨(6 : Int), (4 : Int), (3 : Int), (1 : Int)⟩ : RB), (⟨(9 : Int), (4 : Int), (60 : Int), (0 : Int)⟩ : RB), (⟨(13 : Int), (5 : Int), (2 : Int), (0 : Int)⟩ : RB), (⟨(9 : Int), (5 : Int), (54 : Int), (0 : Int)⟩ : RB), (⟨(13 : Int), (3 : Int), (5 : Int), (1 : Int)⟩ : RB), (⟨(6 : Int), (4 : Int), (3 : Int), (1 : Int)⟩ : RB), (⟨(9 : Int), (4 : Int), (51 : Int), (0 : Int)⟩ : RB), (⟨(3 : Int), (2 : Int), (5 : Int), (0 : Int)⟩ : RB), (⟨(8 : Int), (44 : Int), (0 : Int), (0 : Int)⟩ : RB), (⟨(7 : Int), (4 : Int), (3 : Int), (1 : Int)⟩ : RB), (⟨(9 : Int), (4 : Int), (54 : Int), (0 : Int)⟩ : RB), (⟨(8 : Int), (69 : Int), (0 : Int), (0 : Int)⟩ : RB), (⟨(11 : Int), (6 : Int), (2 : Int), (1 : Int)⟩ : RB), (⟨(14 : Int), (6 : Int), (1 : Int), (1 : Int)⟩ : RB), (⟨(14 : Int), (6 : Int), (0 : Int), (5 : Int)⟩ : RB), (⟨(14 : Int), (2 : Int), (0 : Int), (6 : Int)⟩ : RB), (⟨(1 : Int), (7 : Int), (1 : Int), (0 : Int)⟩ : RB), (⟨(8 : Int), (70 : Int), (0 : Int), (0 : Int)⟩ : RB), (⟨(7 : Int), (4 : Int), (3 : Int), (1 : Int)⟩ : RB), (⟨(9 : Int), (4 : Int), (63 : Int), (0 : Int)⟩ : RB), (⟨(8 : Int), (69 : Int), (0 : Int), (0 : Int)⟩ : RB), (⟨(11 : Int), (6 : Int), (2 : Int), (1 : Int)⟩ : RB), (⟨(14 : Int), (6 : Int), (1 : Int), (1 : Int)⟩ : RB), (⟨(14 : Int), (6 : Int), (0 : Int), (2 : Int)⟩ : RB), (⟨(14 : Int), (0 : Int), (2 : Int), (6 : Int)⟩ : RB), (⟨(1 : Int), (7 : Int), (1 : Int), (0 : Int)⟩ : RB), (⟨(8 : Int), (70 : Int), (0 : Int), (0 : Int)⟩ : RB), (⟨(1 : Int), (7 : Int), (0 : Int), (0 : Int)⟩ : RB), (⟨(17 : Int), (0 : Int), (0 : Int), (0 : Int)⟩ : RB), (⟨(19 : Int), (7 : Int), (0 : Int), (0 : Int)⟩ : RB), (⟨(1 : Int), (1 : Int), (5 : Int), (0 : Int)⟩ : RB), (⟨(10 : Int), (0 : Int), (0 : Int), (0 : Int)⟩ : RB), (⟨(15 : Int), (0 : Int), (0 : Int), (0 : Int)⟩ : RB), (⟨(13 : Int), (2 : Int), (0 : Int), (2 : Int)⟩ : RB), (⟨(9 : Int), (2 : Int), (99 : Int), (0 : Int)⟩ : RB), (⟨(13 : Int), (3 : Int), (2 : Int), (1 : Int)⟩ : RB), (⟨(6 : Int), (4 : Int), (3 : Int), (1 : Int)⟩ : RB), (⟨(9 : Int), (4 : Int), (96 : Int), (0 : Int)⟩ : RB), (⟨(13 : Int), (5 : Int), (2 : Int), (0 : Int)⟩ : RB), (⟨(9 : Int), (5 : Int), (90 : Int), (0 : Int)⟩ : RB), (⟨(13 : Int), (3 : Int), (5 : Int), (1 : Int)⟩ : RB), (⟨(6 : Int), (4 : Int), (3 : Int), (1 : Int)⟩ : RB), (⟨(9 : Int), (4 : Int), (87 : Int), (0 : Int)⟩ : RB), (⟨(3 : Int), (2 : Int), (5 : Int), (0 : Int)⟩ : RB), (⟨(8 : Int), (80 : Int), (0 : Int), (0 : Int)⟩ : RB), (⟨(7 : Int), (4 : Int), (3 : Int), (1 : Int)⟩ : RB), (⟨(9 : Int), (4 : Int), (90 : Int), (0 : Int)⟩ : RB), (⟨(8 : Int), (105 : Int), (0 : Int), (0 : Int)⟩ : RB), (⟨(11 : Int), (6 : Int), (2 : Int), (1 : Int)⟩ : RB), (⟨(14 : Int), (6 : Int), (1 : Int), (1 : Int)⟩ : RB), (⟨(14 : Int), (6 : Int), (0 : Int), (5 : Int)⟩ : RB), (⟨(14 : Int), (2 : Int), (0 : Int), (6 : Int)⟩ : RB), (⟨(1 : Int), (7 : Int), (1 : Int), (0 : Int)⟩ : RB), (⟨(8 : Int), (106 : Int), (0 : Int), (0 : Int)⟩ : RB), (⟨(7 : Int), (4 : Int), (3 : Int), (1 : Int)⟩ : RB), (⟨(9 : Int), (4 : Int), (99 : Int), (0 : Int)⟩ : RB), (⟨(8 : Int), (105 : Int), (0 : Int), (0 : Int)⟩ : RB), (⟨(11 : Int), (6 : Int), (2 : Int), (1 : Int)⟩ : RB), (⟨(14 : Int), (6 : Int), (1 : Int), (1 : Int)⟩ : RB), (⟨(14 : Int), (6 : Int), (0 : Int), (2 : Int)⟩ : RB), (⟨(14 : Int), (0 : Int), (2 : Int), (6 : Int)⟩ : RB), (⟨(1 : Int), (7 : Int), (1 : Int), (0 : Int)⟩ : RB), (⟨(8 : Int), (106 : Int), (0 : Int), (0 : Int)⟩ : RB), (⟨(1 : Int), (7 : Int), (0 : Int), (0 : Int)⟩ : RB), (⟨(17 : Int), (0 : Int), (0 : Int), (0 : Int)⟩ : RB), (⟨(19 : Int), (7 : Int), (0 : Int), (0 : Int)⟩ : RB), (⟨(20 : Int), (0 : Int), (0 : Int), (0 : Int)⟩ : RB)] : List RB)) 100000 (.r0 ((0 : Int))) (by kernel_rfl))

end Ev
end Go.Proofs.YtnfmhpnogfppiaaGreat
