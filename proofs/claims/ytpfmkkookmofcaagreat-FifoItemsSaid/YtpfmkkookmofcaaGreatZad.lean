/- Part 4. -/
import Derived.Test.YtpfmkkookmofcaaGreatZac
/- How records are written, and which functions are told. -/
namespace Go.Proofs.YtpfmkkookmofcaaGreat
open Go.RowKit
namespace Ev
set_option linter.unusedVariables false
theorem Zqj {P : Program} {f : FuncId} {A A' : Array Value} {pre pre' : List AObj} {v v' : Value} {post post' : List (Option AObj)} (hA : A' = A) (hp : pre' = pre) (hv : v' = v) (hq : post' = post) (h : LSpec P f A' pre' v' post') : LSpec P f A pre v post := by
 subst hA hp hv hq; exact h
theorem ZoM {P : Program} {ext : FuncId → Option Ext} (F : Fit P ext) (p : FuncId → Bool) : Fit P (fun f => bif p f then none else ext f) :=
 have h : ∀ f e, (bif p f then none else ext f) = some e → ext f = some e := fun f e h => by cases hp : p f <;> rw [hp] at h <;> first | cases h; done | exact h
 ⟨F.mixed, F.go, fun f g e => F.fn f g (h _ _ e), fun f g e => F.hp f g (h _ _ e), fun f S e => F.tc f S (h _ _ e), fun f n e => F.mark f n (h _ _ e), fun f k e' he => F.ext f k e' (h _ _ he)⟩
abbrev vq : Value := .int .i64 0
abbrev vf : Value := .bool false
abbrev vT : Value := .bool true
abbrev vn : Value := .slice none 0 0
noncomputable abbrev dS {α : Type} (a : α) : Bool := dP (a = a)
theorem ltA {p : Prop} (h : p := by first | omega | (simp only [List.length_set, List.length_append, List.length_cons, List.length_nil, List.length_replicate, List.length_take, List.length_drop] at * <;> omega)) : p := h
theorem eqA {p : Prop} (h : p := by first | rfl | omega | (simp only [List.length_set, List.length_append, List.length_cons, List.length_nil, List.length_replicate, List.length_take, List.length_drop] at * <;> omega)) : p := h
theorem rr {p q : Prop} (h : p := by rfl) (h2 : q := by rfl) : p ∧ q := ⟨h, h2⟩
section
variable {l : List (Bool × Bool)}
theorem oT {a b : Int} (hl : ∀ q ∈ l, q.1 = q.2) (h : a = b := by omega) : ∀ q ∈ ((a == b), true) :: l, q.1 = q.2 := Zb (bT h) hl
theorem oF {a b : Int} (hl : ∀ q ∈ l, q.1 = q.2) (h : ¬ a = b := by omega) : ∀ q ∈ ((a == b), false) :: l, q.1 = q.2 := Zb (bF h) hl
theorem oD {a b : Int} (hl : ∀ q ∈ l, q.1 = q.2) (h : a ≠ b := by omega) : ∀ q ∈ ((a != b), true) :: l, q.1 = q.2 := Zb (bne_iff_ne.2 h) hl
theorem oE {a b : Int} (hl : ∀ q ∈ l, q.1 = q.2) (h : a = b := by omega) : ∀ q ∈ ((a != b), false) :: l, q.1 = q.2 := Zb (bne_eq_false_iff_eq.2 h) hl
theorem oY {p : Prop} [Decidable p] (hl : ∀ q ∈ l, q.1 = q.2) (h : p := by omega) : ∀ q ∈ (decide p, true) :: l, q.1 = q.2 := Zb (decide_eq_true h) hl
theorem oN {p : Prop} [Decidable p] (hl : ∀ q ∈ l, q.1 = q.2) (h : ¬ p := by omega) : ∀ q ∈ (decide p, false) :: l, q.1 = q.2 := Zb (decide_eq_false h) hl
theorem oR {α : Type} {a b : α} (hl : ∀ q ∈ l, q.1 = q.2) (h : a = b := by rfl) : ∀ q ∈ (dP (a = b), true) :: l, q.1 = q.2 := Zb (Zg h) hl
theorem oB {a b : Nat} (hl : ∀ q ∈ l, q.1 = q.2) (h : a < b := by omega) : ∀ q ∈ (Nat.blt a b, true) :: l, q.1 = q.2 := Zb (Zrx h) hl
theorem oL {a b : Nat} (hl : ∀ q ∈ l, q.1 = q.2) (h : a < b := by first | omega | (simp only [List.length_set, List.length_append, List.length_cons, List.length_nil, List.length_replicate, List.length_take, List.length_drop] at * <;> omega)) : ∀ q ∈ (Nat.blt a b, true) :: l, q.1 = q.2 := Zb (Zrx h) hl
theorem oI {a b : Int} (hl : ∀ q ∈ l, q.1 = q.2) (h : a = b := by first | rfl | exact ZoB (by omega)) : ∀ q ∈ ((a == b), true) :: l, q.1 = q.2 := Zb (bT h) hl
end
def E_ii : Enc R_ii := ⟨fun x => [.i x.a0, .i x.a1], 2, R_ii.z, fun _ => rfl, fun _ => rfl⟩
def Zf : Enc RB := ⟨fun x => [.i x.a0, .i x.a1, .i x.a2, .i x.a3], 4, RB.z, fun _ => rfl, fun _ => rfl⟩
noncomputable def E_iiiiiiiA : Enc R_iiiiiiiA := ⟨fun x => [.i x.a0, .i x.a1, .i x.a2, .i x.a3, .i x.a4, .i x.a5, .i x.a6, (mc E_ii x.a7)], 8, R_iiiiiiiA.z, fun _ => rfl, fun _ => rfl⟩
def ZaS (L : List RA) : List MapEntry := L.map fun x => ⟨.agg #[.int .i64 x.a0, .int .i64 x.a1], .int .i64 x.a2, 0⟩
def Z0 (L : List RA) : Obj := .map (ZaS L).toArray 0
section
variable {P : Program} {kt : TypeId}
theorem Zqk (he : ∀ a b c d : Int, Zkg P kt (.agg #[.int .i64 a, .int .i64 b]) (.agg #[.int .i64 c, .int .i64 d]) = some ((a == c) && ((b == d) && true))) (k l : Int) : ∀ (L : List RA) (i : Nat), ZgP P kt (.agg #[.int .i64 k, .int .i64 l]) (ZaS L) i = some ((L.findIdx? (fun x => k == x.a0 && l == x.a1)).map fun j => (i + j, .int .i64 (Zc L k l)))
 | [], i => rfl
 | x :: L, i => by
  have ih := Zqk he k l L (i + 1)
  simp only [ZaS, List.map_cons, ZgP, he, Bool.and_true]
  simp only [ZaS] at ih
  have hf : ZaU (.agg #[.int .i64 x.a0, .int .i64 x.a1]) = true := rfl
  rw [hf, cond_true, List.findIdx?_cons]
  cases h : (k == x.a0 && l == x.a1) with
  | true => simp [Zc, List.find?_cons, h]
  | false =>
   have hg : Zc (x :: L) k l = Zc L k l := by simp only [Zc, List.find?_cons, h]
   rw [hg]
   simp only [ih, Bool.false_eq_true, if_false]
   cases L.findIdx? (fun x => k == x.a0 && l == x.a1) with
   | none => rfl
   | some j => simp; omega
theorem Zr8 {L : List RA} {k l : Int} : Zda L k l = (L.findIdx? (fun x => k == x.a0 && l == x.a1)).isSome := by
 induction L with
 | nil => rfl
 | cons x L ih =>
  unfold Zda at ih ⊢
  rw [List.any_cons, List.findIdx?_cons, ih]
  cases h : (k == x.a0 && l == x.a1) with
  | true => rfl
  | false => cases L.findIdx? (fun x => k == x.a0 && l == x.a1) <;> rfl
variable {fs : Array Field} (hu : P.underlying kt = some (.struct fs)) (hk : ∀ a b : Int, Zki P #[.int .i64 a, .int .i64 b] fs.toList = true) (he : ∀ a b c d : Int, Zkg P kt (.agg #[.int .i64 a, .int .i64 b]) (.agg #[.int .i64 c, .int .i64 d]) = some ((a == c) && ((b == d) && true)))
include hu hk he
theorem Zle (k l : Int) (L : List RA) : Zbr P kt (.agg #[.int .i64 k, .int .i64 l]) (ZaS L) = some ((L.findIdx? (fun x => k == x.a0 && l == x.a1)).map fun j => (j, .int .i64 (Zc L k l))) := by
 unfold Zbr
 rw [hu]
 show (bif Zki P #[.int .i64 k, .int .i64 l] fs.toList then _ else _) = _
 rw [hk, cond_true, Zqk he]
 simp
theorem ZsB {L : List RA} {k l : Int} (h : Zda L k l = true) : (Zbr P kt (.agg #[.int .i64 k, .int .i64 l]) (ZaS L)).map (Option.map Prod.snd) = some (some (.int .i64 (Zc L k l))) := by
 rw [Zle hu hk he]
 rw [Zr8] at h
 cases hi : L.findIdx? (fun x => k == x.a0 && l == x.a1) with
 | none => rw [hi] at h; cases h
 | some j => rfl
theorem ZsC {L : List RA} {k l : Int} (h : ¬ (Zda L k l = true)) : (Zbr P kt (.agg #[.int .i64 k, .int .i64 l]) (ZaS L)).map (Option.map Prod.snd) = some none := by
 rw [Zle hu hk he]
 rw [Zr8] at h
 cases hi : L.findIdx? (fun x => k == x.a0 && l == x.a1) with
 | none => rfl
 | some j => rw [hi] at h; exact absurd rfl h
omit hu hk he in
theorem Zql (k l v : Int) : ∀ (L : List RA), (match L.findIdx? (fun x => k == x.a0 && l == x.a1) with | none => ZaS L ++ [⟨.agg #[.int .i64 k, .int .i64 l], .int .i64 v, 0⟩] | some j => (ZaS L).modify j fun e => ⟨.agg #[.int .i64 k, .int .i64 l], .int .i64 v, e.born⟩) = ZaS (ZbY L k l v)
 | [] => rfl
 | x :: L => by
  rw [List.findIdx?_cons]
  cases h : (k == x.a0 && l == x.a1) with
  | true =>
   simp only [if_true, ZbY, h]
   simp [ZaS]
  | false =>
   simp only [Bool.false_eq_true, if_false, ZbY, h]
   have ih := Zql k l v L
   cases hi : L.findIdx? (fun x => k == x.a0 && l == x.a1) with
   | none =>
    rw [hi] at ih
    simp only [Option.map_none]
    simp only [ZaS, List.map_cons, List.cons_append] at ih ⊢
    rw [ih]
   | some j =>
    rw [hi] at ih
    simp only [Option.map_some]
    simp only [ZaS, List.map_cons, List.modify_succ_cons] at ih ⊢
    rw [ih]
omit hu hk he in
theorem ZsQ {k l : Int} : ∀ {L : List RA} {j : Nat}, L.findIdx? (fun x => k == x.a0 && l == x.a1) = some j → (((ZaS L)[j]?).map (·.key)).getD (.agg #[.int .i64 k, .int .i64 l]) = .agg #[.int .i64 k, .int .i64 l] := by
 intro L j h
 obtain ⟨hj, hp, _⟩ := List.findIdx?_eq_some_iff_getElem.1 h
 simp only [Bool.and_eq_true, beq_iff_eq] at hp
 simp [ZaS, hj, hp.1, hp.2]
theorem ZsR (L : List RA) (k l v : Int) : putM P kt (.agg #[.int .i64 k, .int .i64 l]) (.int .i64 v) (ZaS L) = some (ZaS (ZbY L k l v)) := by
 unfold putM
 rw [Zle hu hk he]
 have h := Zql k l v L
 cases hi : L.findIdx? (fun x => k == x.a0 && l == x.a1) with
 | none => rw [hi] at h; exact congrArg some h
 | some j =>
  rw [hi] at h
  simp only [Option.map_some]
  rw [ZsQ hi]
  have hs : Instr.sameBits 10000 (.agg #[.int .i64 k, .int .i64 l]) (.agg #[.int .i64 k, .int .i64 l]) = true := by
   simp [Instr.sameBits]
  rw [hs]
  exact congrArg some h
end
theorem ZjA {L : List RA} {k l : Int} (h : Zda L k l = true) : (Zbr Tryz.prog 36 (.agg #[.int .i64 k, .int .i64 l]) (ZaS L)).map (Option.map Prod.snd) = some (some (.int .i64 (Zc L k l))) := ZsB Tryz.underlying36 (fun _ _ => by kernel_rfl) (fun _ _ _ _ => by kernel_rfl) h
theorem Zr9 {L : List RA} {k l : Int} (h : ¬ (Zda L k l = true)) : (Zbr Tryz.prog 36 (.agg #[.int .i64 k, .int .i64 l]) (ZaS L)).map (Option.map Prod.snd) = some none := ZsC Tryz.underlying36 (fun _ _ => by kernel_rfl) (fun _ _ _ _ => by kernel_rfl) h
theorem ZsS (L : List RA) (k l v : Int) : putM Tryz.prog 36 (.agg #[.int .i64 k, .int .i64 l]) (.int .i64 v) (ZaS L) = some (ZaS (ZbY L k l v)) := ZsR Tryz.underlying36 (fun _ _ => by kernel_rfl) (fun _ _ _ _ => by kernel_rfl) L k l v
instance : Inhabited R_ii := ⟨R_ii.z⟩
instance : Inhabited RA := ⟨RA.z⟩
instance : Inhabited RB := ⟨RB.z⟩
instance : Inhabited R_iiiiiiiA := ⟨R_iiiiiiiA.z⟩
def Zsu : FuncId → Bool := fun f => Nat.beq f 11 || Nat.beq f 32 || Nat.beq f 38 || Nat.beq f 4 || Nat.beq f 10 || Nat.beq f 73 || Nat.beq f 61 || Nat.beq f 62 || Nat.beq f 74 || Nat.beq f 23 || Nat.beq f 103 || Nat.beq f 49 || Nat.beq f 51 || Nat.beq f 115 || Nat.beq f 50 || Nat.beq f 60 || Nat.beq f 39 || Nat.beq f 27 || Nat.beq f 13 || Nat.beq f 12
noncomputable def Zw : FuncId → Option Ext := ZqN (Zsb Zo8) Zsu
theorem ZaC : Fit Tryz.prog Zw := fitT (fitS Zm0) (fun f h => by
 simp only [Zsu, Bool.or_eq_true] at h
 simp only [Nat.beq_eq] at h
 rcases h with ((((((((((((((((((rfl | rfl) | rfl) | rfl) | rfl) | rfl) | rfl) | rfl) | rfl) | rfl) | rfl) | rfl) | rfl) | rfl) | rfl) | rfl) | rfl) | rfl) | rfl) | rfl
 ·exact ⟨_, _, Tryz.func11, rfl⟩
 ·exact ⟨_, _, Tryz.func32, rfl⟩
 ·exact ⟨_, _, Tryz.func38, rfl⟩
 ·exact ⟨_, _, Tryz.func4, rfl⟩
 ·exact ⟨_, _, Tryz.func10, rfl⟩
 ·exact ⟨_, _, Tryz.func73, rfl⟩
 ·exact ⟨_, _, Tryz.func61, rfl⟩
 ·exact ⟨_, _, Tryz.func62, rfl⟩
 ·exact ⟨_, _, Tryz.func74, rfl⟩
 ·exact ⟨_, _, Tryz.func23, rfl⟩
 ·exact ⟨_, _, Tryz.func103, rfl⟩
 ·exact ⟨_, _, Tryz.func49, rfl⟩
 ·exact ⟨_, _, Tryz.func51, rfl⟩
 ·exact ⟨_, _, Tryz.func115, rfl⟩
 ·exact ⟨_, _, Tryz.func50, rfl⟩
 ·exact ⟨_, _, Tryz.func60, rfl⟩
 ·exact ⟨_, _, Tryz.func39, rfl⟩
 ·exact ⟨_, _, Tryz.func27, rfl⟩
 ·exact ⟨_, _, Tryz.func13, rfl⟩
 ·exact ⟨_, _, Tryz.func12, rfl⟩
 )
end Ev
end Go.Proofs.YtpfmkkookmofcaaGreat
/- Calls do what the plain functions say. -/
namespace Go.Proofs.YtpfmkkookmofcaaGreat
open Go.RowKit
namespace Ev
set_option linter.unusedVariables false
abbrev cz0 : AObj := .cells [vi (10 : Int), vq, vq, vq, vi (1 : Int), vi (1 : Int), vi (5 : Int), vq, vi (1 : Int), vi (2 : Int), vi (3 : Int), vq, vi (1 : Int), vi (3 : Int), vi (1 : Int), vq, vi (15 : Int), vq, vq, vq, vi (13 : Int), vi (6 : Int), vq, vi (10 : Int), vi (6 : Int), vi (5 : Int), vi (6 : Int), vi (2 : Int), vi (9 : Int), vi (5 : Int), vi (19 : Int), vq, vi (11 : Int), vi (4 : Int), vi (2 : Int), vi (1 : Int), vi (14 : Int), vi (4 : Int), vi (1 : Int), vi (1 : Int), vi (13 : Int), vi (5 : Int), vq, vi (5 : Int), vi (9 : Int), vi (5 : Int), vi (14 : Int), vq, vi (14 : Int), vi (5 : Int), vq, vi (4 : Int), vi (8 : Int), vi (15 : Int), vq, vq, vi (14 : Int), vq, vi (4 : Int), vi (4 : Int), vi (14 : Int), vq, vi (5 : Int), vi (4 : Int), vi (4 : Int), vi (6 : Int), vi (6 : Int), vi (3 : Int), vi (14 : Int), vq, vi (10 : Int), vi (6 : Int), vi (8 : Int), vi (20 : Int), vq, vq, vi (18 : Int), vq, vq, vq, vi (1 : Int), vi (7 : Int), vi (1 : Int), vq, vi (17 : Int), vq, vq, vq, vi (19 : Int), vi (7 : Int), vq, vq, vi (10 : Int), vq, vq, vq, vi (1 : Int), vi (1 : Int), vi (6 : Int), vq, vi (1 : Int), vi (2 : Int), vi (3 : Int), vq, vi (1 : Int), vi (3 : Int), vi (1 : Int), vq, vi (15 : Int), vq, vq, vq, vi (13 : Int), vi (6 : Int), vq, vi (10 : Int), vi (6 : Int), vi (5 : Int), vi (6 : Int), vi (2 : Int), vi (9 : Int), vi (5 : Int), vi (42 : Int), vq, vi (11 : Int), vi (4 : Int), vi (2 : Int), vi (1 : Int), vi (14 : Int), vi (4 : Int), vi (1 : Int), vi (1 : Int), vi (13 : Int), vi (5 : Int), vq, vi (5 : Int), vi (9 : Int), vi (5 : Int), vi (37 : Int), vq, vi (14 : Int), vi (5 : Int), vq, vi (4 : Int), vi (8 : Int), vi (38 : Int), vq, vq, vi (14 : Int), vq, vi (4 : Int), vi (4 : Int), vi (14 : Int), vq, vi (5 : Int), vi (4 : Int), vi (4 : Int), vi (6 : Int), vi (6 : Int), vi (3 : Int), vi (14 : Int), vq, vi (10 : Int), vi (6 : Int), vi (8 : Int), vi (43 : Int), vq, vq, vi (18 : Int), vq, vq, vq, vi (1 : Int), vi (7 : Int), vi (1 : Int), vq, vi (17 : Int), vq, vq, vq, vi (19 : Int), vi (7 : Int), vq, vq, vi (10 : Int), vq, vq, vq, vi (1 : Int), vi (1 : Int), vq, vq, vi (1 : Int), vi (2 : Int), vq, vq, vi (1 : Int), vi (3 : Int), vi (1 : Int), vq, vi (15 : Int), vq, vq, vq, vi (13 : Int), vi (4 : Int), vq, vi (4 : Int), vi (9 : Int), vi (4 : Int), vi (64 : Int), vq, vi (13 : Int), vi (7 : Int), vi (4 : Int), vi (1 : Int), vi (13 : Int), vi (5 : Int), vi (4 : Int), vq, vi (14 : Int), vq, vi (4 : Int), vi (5 : Int), vi (9 : Int), vi (5 : Int), vi (58 : Int), vq, vi (8 : Int), vi (59 : Int), vq, vq, vi (14 : Int), vq, vi (5 : Int), vi (5 : Int), vi (13 : Int), vi (6 : Int), vq, vi (10 : Int), vi (5 : Int), vi (6 : Int), vi (6 : Int), vi (3 : Int), vi (14 : Int), vq, vi (10 : Int), vi (6 : Int), vi (12 : Int), vi (4 : Int), vq, vq, vi (8 : Int), vi (65 : Int), vq, vq, vi (18 : Int), vq, vq, vq, vi (17 : Int), vq, vq, vq, vi (19 : Int), vi (7 : Int), vq, vq, vi (20 : Int), vq, vq, vq] 57
abbrev cz1 : AObj := .cells [vi (-1 : Int), vi (-1 : Int), vi (-1 : Int), vi (-1 : Int), vi (21 : Int), vi (-1 : Int), vi (-1 : Int), vi (-1 : Int), vi (-1 : Int), vi (-1 : Int), vi (-1 : Int), vi (-1 : Int), vi (-1 : Int), vi (-1 : Int), vi (-1 : Int), vi (-1 : Int), vi (-1 : Int), vi (-1 : Int), vi (-1 : Int), vi (-1 : Int), vi (-1 : Int), vi (4 : Int), vi (-1 : Int), vi (-1 : Int), vi (-1 : Int), vi (-1 : Int), vi (-1 : Int), vi (44 : Int), vi (-1 : Int), vi (-1 : Int), vi (-1 : Int), vi (-1 : Int), vi (-1 : Int), vi (-1 : Int), vi (-1 : Int), vi (-1 : Int), vi (-1 : Int), vi (-1 : Int), vi (-1 : Int), vi (-1 : Int), vi (-1 : Int), vi (-1 : Int), vi (-1 : Int), vi (-1 : Int), vi (27 : Int), vi (-1 : Int), vi (-1 : Int), vi (-1 : Int), vi (-1 : Int), vi (-1 : Int), vi (65 : Int), vi (-1 : Int), vi (-1 : Int), vi (-1 : Int), vi (-1 : Int), vi (-1 : Int), vi (-1 : Int), vi (-1 : Int), vi (-1 : Int), vi (-1 : Int), vi (-1 : Int), vi (-1 : Int), vi (-1 : Int), vi (-1 : Int), vi (-1 : Int), vi (50 : Int), vi (-1 : Int), vi (-1 : Int)] 3
abbrev cz2 : AObj := .cells [vi (2 : Int), vq, vi (2 : Int), vq, vi (2 : Int), vq, vi (2 : Int), vq, vi (2 : Int), vi (1048595 : Int), vi (2 : Int), vi (1048595 : Int), vi (2 : Int), vq, vi (2 : Int), vq, vi (1 : Int), vq, vi (1 : Int), vq, vi (1 : Int), vi (1 : Int), vi (1 : Int), vq, vi (1 : Int), vq, vi (1 : Int), vq, vi (1 : Int), vq, vi (1 : Int), vq] 36
abbrev cz3 : AObj := .cells [vi (2 : Int), vq, vi (2 : Int), vq, vi (2 : Int), vq, vi (2 : Int), vq, vi (2 : Int), vi (1048594 : Int), vi (2 : Int), vi (1048594 : Int), vi (2 : Int), vq, vi (2 : Int), vq, vi (1 : Int), vq, vi (1 : Int), vq, vi (1 : Int), vi (1 : Int), vi (1 : Int), vq, vi (1 : Int), vq, vi (1 : Int), vq, vi (1 : Int), vq, vi (1 : Int), vq] 36
abbrev cz4 : AObj := .cells [vi (2 : Int), vq, vi (2 : Int), vq, vi (2 : Int), vq, vi (2 : Int), vq, vi (2 : Int), vi (1048594 : Int), vi (2 : Int), vi (1048595 : Int), vi (2 : Int), vq, vi (2 : Int), vq, vi (1 : Int), vq, vi (1 : Int), vq, vi (1 : Int), vi (2 : Int), vi (1 : Int), vq, vi (1 : Int), vq, vi (1 : Int), vq, vi (1 : Int), vq, vi (1 : Int), vq] 36
abbrev cz5 : AObj := .cells [vi (2 : Int), vi (1048577 : Int), vi (1 : Int), vi (16 : Int), vi (255 : Int), vi (2 : Int), vq, vs 10 0 16 16, vi (2 : Int), vi (1048594 : Int), vi (1 : Int), vi (2 : Int), vi (1 : Int), vi (2 : Int), vq, vs 11 0 2 2, vi (2 : Int), vi (1048595 : Int), vi (1 : Int), vi (2 : Int), vi (1 : Int), vi (2 : Int), vq, vs 12 0 2 2] 42
abbrev cz6 : AObj := .cells [vi (2 : Int), vi (1048577 : Int), vi (1 : Int), vi (16 : Int), vi (255 : Int), vi (2 : Int), vq, vs 10 0 16 16, vi (2 : Int), vi (1048594 : Int), vi (1 : Int), vi (2 : Int), vi (1 : Int), vi (3 : Int), vq, vs 11 0 2 2, vi (2 : Int), vi (1048595 : Int), vi (1 : Int), vi (2 : Int), vi (1 : Int), vi (2 : Int), vq, vs 12 0 2 2] 42
abbrev cz7 : AObj := .cells [vi (2 : Int), vi (1048577 : Int), vi (1 : Int), vi (16 : Int), vi (255 : Int), vi (2 : Int), vq, vs 8 0 16 16, vi (2 : Int), vi (1048594 : Int), vi (1 : Int), vi (2 : Int), vi (1 : Int), vi (3 : Int), vq, vs 9 0 2 2, vi (2 : Int), vi (1048595 : Int), vi (1 : Int), vi (2 : Int), vi (1 : Int), vi (2 : Int), vq, vs 10 0 2 2] 42
abbrev cz8 : AObj := .cells [vi (2 : Int), vq, vi (2 : Int), vq, vi (2 : Int), vq, vi (2 : Int), vq, vi (2 : Int), vq, vi (2 : Int), vq, vi (2 : Int), vq, vi (2 : Int), vq, vi (1 : Int), vq, vi (1 : Int), vq, vi (1 : Int), vq, vi (1 : Int), vq, vi (1 : Int), vq, vi (1 : Int), vq, vi (1 : Int), vq, vi (1 : Int), vq] 36
abbrev cz9 : AObj := .cells [vq, vq, vi (45 : Int), vi (2 : Int), vi (1048577 : Int), vi (1 : Int), vi (6 : Int), vi (1 : Int), vi (3 : Int), vi (1 : Int), vi (1 : Int), vi (2 : Int), vi (1048595 : Int), vi (2 : Int), vi (1048594 : Int), vi (1 : Int), vi (2 : Int), vi (1 : Int), vi (1 : Int), vs 9 0 1 1] 83
abbrev cz10 : AObj := .cells [vi (2 : Int), vq, vi (67 : Int), vi (2 : Int), vi (1048577 : Int), vi (1 : Int), vq, vi (1 : Int), vq, vi (1 : Int), vi (1 : Int), vi (2 : Int), vi (1048594 : Int), vi (2 : Int), vi (1048595 : Int), vi (1 : Int), vi (1 : Int), vi (1 : Int), vi (5 : Int), vs 7 0 3 3] 83
abbrev ZoN : AObj := .cells [vq, vq, vi (22 : Int), vi (2 : Int), vi (1048577 : Int), vi (1 : Int), vi (5 : Int), vi (1 : Int), vi (3 : Int), vi (1 : Int), vi (1 : Int), vi (2 : Int), vi (1048594 : Int), vi (2 : Int), vq, vi (1 : Int), vi (1 : Int), vi (1 : Int), vi (1 : Int), vs 9 0 0 0] 83
abbrev Zlf : AObj := .cells [vq, vq, vi (66 : Int), vi (2 : Int), vi (1048577 : Int), vi (1 : Int), vq, vi (1 : Int), vq, vi (1 : Int), vi (1 : Int), vi (2 : Int), vi (1048594 : Int), vi (2 : Int), vi (1048595 : Int), vi (1 : Int), vi (1 : Int), vi (1 : Int), vi (5 : Int), vs 9 0 2 2] 83
abbrev ZoO : AObj := .cells [vi (2 : Int), vi (1048577 : Int), vi (1 : Int), vi (16 : Int), vi (255 : Int), vi (2 : Int), vq, vs 10 0 16 16, vi (2 : Int), vi (1048594 : Int), vi (1 : Int), vi (2 : Int), vi (1 : Int), vi (2 : Int), vq, vs 11 0 2 2] 42
abbrev Zm2 : AObj := .cells [vq, vq, vq, vi (1 : Int), vq, vi (1 : Int), vq, vi (1 : Int), vq, vi (1 : Int), vq, vi (1 : Int), vq, vi (1 : Int), vq, vi (1 : Int), vq, vi (1 : Int), vq, vn] 83
abbrev ZoP : AObj := .cells [vi (2 : Int), vi (1048577 : Int), vi (1 : Int), vi (16 : Int), vi (255 : Int), vi (2 : Int), vq, vs 8 0 16 16] 42
abbrev ZoQ : AObj := .cells [vi (1 : Int), vi (1 : Int), vi (1 : Int), vi (1 : Int), vi (1 : Int), vi (5 : Int)] 36
abbrev Zd3 : AObj := .cells [vi (2 : Int), vi (1048595 : Int), vi (1 : Int), vi (5 : Int)] 36
set_option maxRecDepth 100000
noncomputable def ZiE (a0 a1 : Int) (L2 : List RA) : Zbg → Value
 | .r0 => Value.tuple #[Value.agg #[vq, vq, vq, vq, vq, vq, vq, vn], vf]
noncomputable def ZhV (a0 a1 : Int) (L2 : List RA) : Zbg → List (Option AObj)
 | .r0 => [some (.cells [Value.map (some 2)] 85), some (.cells [vn] 33), some (.ro (Z0 L2) true)]

theorem ZlR (a0 a1 : Int) (L2 : List RA) (N : Nat) : Fx Tryz.prog Zw Tryz.f32 [.cells [Value.map (some 2)] 85, .cells [vn] 33, .ro (Z0 L2) true] #[Value.agg #[vi a0, vi a1], vp 0 0, vp 1 0] (ZiE a0 a1 L2) (ZhV a0 a1 L2) (Zc1 a0 a1 L2 N) := by
 unfold Zc1
 refine Zy (fun g0 => ?_) (fun g0 => ?_)
 ·
  refine Zy (fun g1 => ?_) (fun g1 => ?_)
  ·
   exact Zt (r := (.r0 : Zbg)) (fu := 4000) (orc := (Zi [(1, true)] [] [] [] [(0, .lk (some (vi (Zc L2 a0 a1))))])) (live := [0, 1, 2]) (u := Value.tuple #[Value.agg #[vq, vq, vq, vq, vq, vq, vq, vn], vf]) (bl := [some (.cells [Value.map (some 2)] 85), some (.cells [vn] 33), some (.ro (Z0 L2) true)]) (ob := [((a0 != (2 : Int)), true), (dP ((Zbr Tryz.prog 36 (Value.agg #[vi a0, vi a1]) (ZaS L2)).map (Option.map Prod.snd) = some (some (vi (Zc L2 a0 a1)))), true)]) (by kernel_rfl) (oD <| Zb (Zg (ZjA (by assumption))) Ze) rfl (by decide) (by rfl) rr ⟨⟨rfl, ⟨[], by rfl⟩, by rfl⟩, ⟨⟨rfl, ⟨[], by rfl⟩, by rfl⟩, ⟨(show Z0 L2 = Z0 L2 from rfl), trivial⟩⟩⟩
  ·
   refine Zy (fun g2 => ?_) (fun g2 => ?_)
   ·
    exact Zt (r := (.r0 : Zbg)) (fu := 4000) (orc := (Zi [(1, false), (2, true)] [] [] [] [(0, .lk (some (vi (Zc L2 a0 a1))))])) (live := [0, 1, 2]) (u := Value.tuple #[Value.agg #[vq, vq, vq, vq, vq, vq, vq, vn], vf]) (bl := [some (.cells [Value.map (some 2)] 85), some (.cells [vn] 33), some (.ro (Z0 L2) true)]) (ob := [(((a0 == (2 : Int)) && ((a1 == (0 : Int)) && true)), true), ((a0 != (2 : Int)), false), (dP ((Zbr Tryz.prog 36 (Value.agg #[vi a0, vi a1]) (ZaS L2)).map (Option.map Prod.snd) = some (some (vi (Zc L2 a0 a1)))), true)]) (by kernel_rfl) (Zb (by first | (simp only [beq_self_eq_true, Bool.and_self]; done) | (simp only [Bool.and_true, Bool.and_eq_true, beq_iff_eq] <;> first | omega | (simp_all; done) | grind)) <| oE <| Zb (Zg (ZjA (by assumption))) Ze) rfl (by decide) (by rfl) rr ⟨⟨rfl, ⟨[], by rfl⟩, by rfl⟩, ⟨⟨rfl, ⟨[], by rfl⟩, by rfl⟩, ⟨(show Z0 L2 = Z0 L2 from rfl), trivial⟩⟩⟩
   ·
    exact ZeT
 ·
  exact Zt (r := (.r0 : Zbg)) (fu := 4000) (orc := (Zi [] [] [] [] [(0, .lk (none))])) (live := [0, 1, 2]) (u := Value.tuple #[Value.agg #[vq, vq, vq, vq, vq, vq, vq, vn], vf]) (bl := [some (.cells [Value.map (some 2)] 85), some (.cells [vn] 33), some (.ro (Z0 L2) true)]) (ob := [(dP ((Zbr Tryz.prog 36 (Value.agg #[vi a0, vi a1]) (ZaS L2)).map (Option.map Prod.snd) = some (none)), true)]) (by kernel_rfl) (Zb (Zg (Zr9 (by assumption))) Ze) rfl (by decide) (by rfl) rr ⟨⟨rfl, ⟨[], by rfl⟩, by rfl⟩, ⟨⟨rfl, ⟨[], by rfl⟩, by rfl⟩, ⟨(show Z0 L2 = Z0 L2 from rfl), trivial⟩⟩⟩

theorem Zkt (a0 a1 : Int) (L2 : List RA) (N : Nat) (r : Zbg) (h : Zc1 a0 a1 L2 N = some r) : LSpec Tryz.prog 32 #[Value.agg #[vi a0, vi a1], vp 0 0, vp 1 0] [.cells [Value.map (some 2)] 85, .cells [vn] 33, .ro (Z0 L2) true] (ZiE a0 a1 L2 r) (ZhV a0 a1 L2 r) :=
 Zcs ZaC Tryz.func32 (by kernel_rfl) (by kernel_rfl) (fun r => by cases r <;> exact ZS _ rfl) (ZlR a0 a1 L2 N) h

noncomputable def Zm3 (a0 a1 : Int) (L2 : List RA) (k0 k1 k2 n : Nat) : ZaD := .call [(k0, .cells [Value.map (some k2)] 85), (k1, .cells [vn] 33), (k2, .ro (Z0 L2) true)] (Value.tuple #[Value.agg #[vq, vq, vq, vq, vq, vq, vq, vn], vf]) [] 0
def ZhW (A : Array Value) (a0 a1 : Int) (L2 : List RA) (k0 k1 k2 n : Nat) : Prop := ZF Tryz.prog 32 A [(k0, .cells [Value.map (some k2)] 85), (k1, .cells [vn] 33), (k2, .ro (Z0 L2) true)] (Value.tuple #[Value.agg #[vq, vq, vq, vq, vq, vq, vq, vn], vf]) [] n 0

theorem Zm4 (A : Array Value) (a0 a1 : Int) (L2 : List RA) (N : Nat) (h : Zc1 a0 a1 L2 N = some (.r0)) (k0 k1 k2 n : Nat) (hA : A = #[Value.agg #[vi a0, vi a1], vp k0 0, vp k1 0]) (hnd : ([k0, k1, k2] : List Nat).Nodup) (hlt : ∀ k ∈ ([k0, k1, k2] : List Nat), k < n) : ZhW A a0 a1 L2 k0 k1 k2 n :=
 ZU hA (LSpec.callL (show LSpec Tryz.prog 32 #[Value.agg #[vi a0, vi a1], vp 0 0, vp 1 0] [.cells [Value.map (some 2)] 85, .cells [vn] 33, .ro (Z0 L2) true] (Value.tuple #[Value.agg #[vq, vq, vq, vq, vq, vq, vq, vn], vf]) [some (.cells [Value.map (some 2)] 85), some (.cells [vn] 33), some (.ro (Z0 L2) true)] from Zkt a0 a1 L2 N _ h) [k0, k1, k2] n [] rfl hnd hlt (show 3 ≤ 3 from by decide) (show ∀ j ∈ ([] : List Nat), j < 3 from by decide) (by rfl) ⟨rfl, ⟨rfl, ⟨rfl, trivial⟩⟩⟩ (by rfl) ⟨rfl, ⟨rfl, ⟨rfl, trivial⟩⟩⟩ ⟨.inr rfl, ⟨.inr rfl, ⟨.inr rfl, trivial⟩⟩⟩ rfl rfl rfl (Za (ZE rfl rfl) (Za (ZE rfl rfl) (Za (ZE rfl rfl) rfl))) rfl)

noncomputable def ZkH (a0 a1 a2 : Int) : Zb7 → Value
 | .r0 => Value.tuple #[vn, vi (240 : Int)]
noncomputable def ZjB (a0 a1 a2 : Int) : Zb7 → List (Option AObj)
 | .r0 => []

def ZoR : fifo_ItemsX → Nat
 | .h1m0 => 1
noncomputable def ZpD (a0 a1 a2 : Int) : fifo_ItemsX → List (Nat × Value)
 | .h1m0 => [(2, vi a2), (3, vp 0 0), (4, vp 1 0), (8, vp 2 0), (9, vi (-1 : Int))]
noncomputable def ZpE (a0 a1 a2 : Int) : fifo_ItemsX → List (Option AObj)
 | .h1m0 => [some (.cells [vn] 33), some (.cells [vi a0, vi a1] 36), some (.cells [Value.map (some 3)] 85), some (.ro (Z0 ([] : List RA)) true)]

noncomputable def ZfQ : Nat → Code × List Zaw
 | 1 => ZaQ [1, 1, 0, 1, 3] (Zb5 Tryz.f11) []
 | _ => (.skip, [])
def ZoS : Nat → Bool
 | 1 => true
 | _ => true
noncomputable def ZcV (a0 a1 a2 : Int) (N : Nat) : Mach := ⟨Tryz.f11, [], fifo_ItemsX, Zb7, Zea a0 a1 a2 N, ZoR, ZfQ, ZoS, ZpD a0 a1 a2, ZpE a0 a1 a2, ZkH a0 a1 a2, ZjB a0 a1 a2⟩

theorem Zlg (a0 a1 a2 : Int) (N : Nat) : (ZcV a0 a1 a2 N).Ok Tryz.prog Zw (.h1m0 : fifo_ItemsX) (Zea a0 a1 a2 N (.h1m0 : fifo_ItemsX)) := by
 show (ZcV a0 a1 a2 N).Ok Tryz.prog Zw (.h1m0 : fifo_ItemsX) (ZcM a0 a1 a2 N)
 unfold ZcM
 refine Mach.ok_bind (fun z0 c0 => ?_)
 cases z0 with
 | r0 =>
  exact Mach.ok_fin (M := ZcV a0 a1 a2 N) (cd := 1000000) (cm := 0) (r := (.r0 : Zb7)) (fu := 4000) (orc := (Zi [] [] [] [] [(0, (Zm3 (a0) (a1) (([] : List RA))   2 0 3 4))])) (live := []) (u := Value.tuple #[vn, vi (240 : Int)]) (bl := []) (ob := [(dP (ZhW #[Value.agg #[vi a0, vi a1], vp 2 0, vp 0 0] (a0) (a1) (([] : List RA))   2 0 3 4), true), (dS [Value.map (some 3)], true), (dS [vn], true), (dS (Z0 ([] : List RA)), true)]) (fun gv => by kernel_rfl) (Zb (Zg (Zm4 #[Value.agg #[vi a0, vi a1], vp 2 0, vp 0 0] (a0) (a1) (([] : List RA))   N c0 2 0 3 4 rfl (by decide) (by decide))) <| Zb (Zg (Za rfl rfl)) <| Zb (Zg (Za rfl rfl)) <| Zb (Zg (congrArg Z0 (by first | rfl | simp))) Ze) rfl (by decide) (by rfl) rr trivial

theorem Znt (a0 a1 a2 : Int) (N : Nat) : (ZcV a0 a1 a2 N).Enter Tryz.prog Zw #[vn, Value.agg #[vi a0, vi a1], vi a2] (ZgY a0 a1 a2 N) := by
 unfold ZgY
 exact Mach.en_head (bK := ZfQ 1) (M := ZcV a0 a1 a2 N) (cd := 1000000) (cm := 0) (y := (.h1m0 : fifo_ItemsX)) (fu := 4000) (orc := (Zi [] [] [] [] [])) (live := [0, 1, 3, 2]) (tv := [some (vi a2), some (vp 0 0), some (vp 1 0), some (vp 3 0), some (vi (-1 : Int))]) (bl := [some (.cells [vn] 33), some (.cells [vi a0, vi a1] 36), some (.cells [Value.map (some 2)] 85), some (.ro (Z0 ([] : List RA)) true)]) (ob := []) rfl rfl (show Zx (ZfQ 1).2 = [] from rfl) (by kernel_rfl) Ze rfl (by decide) (by rfl) ⟨rr, ⟨rr, ⟨rr, ⟨rr, ⟨rr, trivial⟩⟩⟩⟩⟩ ⟨⟨rfl, ⟨[], by rfl⟩, by rfl⟩, ⟨⟨rfl, ⟨[], by rfl⟩, by rfl⟩, ⟨⟨rfl, ⟨[], by rfl⟩, by rfl⟩, ⟨(show Z0 ([] : List RA) = Z0 ([] : List RA) from rfl), trivial⟩⟩⟩⟩

theorem ZlS (a0 a1 a2 : Int) (N : Nat) (r : Zb7) (h : Zg8 a0 a1 a2 N = some r) : LSpec Tryz.prog 11 #[vn, Value.agg #[vi a0, vi a1], vi a2] [] (ZkH a0 a1 a2 r) (ZjB a0 a1 a2 r) :=
 Mach.spec ZaC (ZcV a0 a1 a2 N) Tryz.func11 (by kernel_rfl) (by kernel_rfl) (fun x => by cases x <;> exact ZS _ rfl) (fun r => by cases r <;> exact ZS _ rfl) (fun x => by
  cases x with
  | h1m0 => exact fun _ => (show ¬ (1 ∈ Zx (ZfQ 1).2) from by decide +kernel)
  ) (fun x => (show (ZcV a0 a1 a2 N).Ok Tryz.prog Zw x (Zea a0 a1 a2 N x) from by
  cases x with
  | h1m0 => exact Zlg a0 a1 a2 N
  )) (Znt a0 a1 a2 N) (n := N) h

noncomputable def ZoT (a0 a1 a2 : Int) (n : Nat) : ZaD := .call [] (Value.tuple #[vn, vi (240 : Int)]) [] 0
def ZjC (A : Array Value) (a0 a1 a2 : Int) (n : Nat) : Prop := ZF Tryz.prog 11 A [] (Value.tuple #[vn, vi (240 : Int)]) [] n 0

theorem ZoU (A : Array Value) (a0 a1 a2 : Int) (N : Nat) (h : Zg8 a0 a1 a2 N = some (.r0)) (n : Nat) (hA : A = #[vn, Value.agg #[vi a0, vi a1], vi a2]) (hnd : ([] : List Nat).Nodup) (hlt : ∀ k ∈ ([] : List Nat), k < n) : ZjC A a0 a1 a2  n :=
 ZU hA (LSpec.callL (show LSpec Tryz.prog 11 #[vn, Value.agg #[vi a0, vi a1], vi a2] [] (Value.tuple #[vn, vi (240 : Int)]) [] from ZlS a0 a1 a2 N _ h) [] n [] rfl hnd hlt (show 0 ≤ 0 from by decide) (show ∀ j ∈ ([] : List Nat), j < 0 from by decide) (by rfl) trivial (by rfl) trivial trivial rfl rfl rfl rfl rfl)

noncomputable def ZkI (a0 a1 : Int) : Zb8 → Value
 | .r0 => Value.tuple #[Value.agg #[vq, vq, vq, vq, vq, vq, vq, vn], vf]
noncomputable def ZjD (a0 a1 : Int) : Zb8 → List (Option AObj)
 | .r0 => []

def ZoV : ref16_FindX → Nat
 | .h1m0 => 1
noncomputable def ZpF (a0 a1 : Int) : ref16_FindX → List (Nat × Value)
 | .h1m0 => [(0, vn), (3, vp 0 0), (4, vp 1 0), (6, vq)]
noncomputable def ZpG (a0 a1 : Int) : ref16_FindX → List (Option AObj)
 | .h1m0 => [some (.cells [vi a0, vi a1] 36), some (.cells [vq, vq, vq, vq, vq, vq, vq, vn] 42)]

noncomputable def ZfR : Nat → Code × List Zaw
 | 1 => ZaQ [1, 0, 1, 3] (Zb5 Tryz.f39) []
 | _ => (.skip, [])
def ZoW : Nat → Bool
 | 1 => true
 | _ => true
noncomputable def ZcW (a0 a1 : Int) (N : Nat) : Mach := ⟨Tryz.f39, [], ref16_FindX, Zb8, Zeb a0 a1 N, ZoV, ZfR, ZoW, ZpF a0 a1, ZpG a0 a1, ZkI a0 a1, ZjD a0 a1⟩

theorem Zlh (a0 a1 : Int) (N : Nat) : (ZcW a0 a1 N).Ok Tryz.prog Zw (.h1m0 : ref16_FindX) (Zeb a0 a1 N (.h1m0 : ref16_FindX)) := by
 show (ZcW a0 a1 N).Ok Tryz.prog Zw (.h1m0 : ref16_FindX) (Zfj a0 a1 N)
 unfold Zfj
 exact Mach.ok_fin (M := ZcW a0 a1 N) (cd := 1000000) (cm := 0) (r := (.r0 : Zb8)) (fu := 4000) (orc := (Zi [] [] [] [] [])) (live := []) (u := Value.tuple #[Value.agg #[vq, vq, vq, vq, vq, vq, vq, vn], vf]) (bl := []) (ob := []) (fun gv => by kernel_rfl) Ze rfl (by decide) (by rfl) rr trivial

theorem Znu (a0 a1 : Int) (N : Nat) : (ZcW a0 a1 N).Enter Tryz.prog Zw #[vn, Value.agg #[vi a0, vi a1]] (ZgZ a0 a1 N) := by
 unfold ZgZ
 exact Mach.en_head (bK := ZfR 1) (M := ZcW a0 a1 N) (cd := 1000000) (cm := 0) (y := (.h1m0 : ref16_FindX)) (fu := 4000) (orc := (Zi [] [] [] [] [])) (live := [0, 1]) (tv := [some (vn), some (vp 0 0), some (vp 1 0), some (vq)]) (bl := [some (.cells [vi a0, vi a1] 36), some (.cells [vq, vq, vq, vq, vq, vq, vq, vn] 42)]) (ob := []) rfl rfl (show Zx (ZfR 1).2 = [] from rfl) (by kernel_rfl) Ze rfl (by decide) (by rfl) ⟨rr, ⟨rr, ⟨rr, ⟨rr, trivial⟩⟩⟩⟩ ⟨⟨rfl, ⟨[], by rfl⟩, by rfl⟩, ⟨⟨rfl, ⟨[], by rfl⟩, by rfl⟩, trivial⟩⟩

theorem ZlT (a0 a1 : Int) (N : Nat) (r : Zb8) (h : Zg9 a0 a1 N = some r) : LSpec Tryz.prog 39 #[vn, Value.agg #[vi a0, vi a1]] [] (ZkI a0 a1 r) (ZjD a0 a1 r) :=
 Mach.spec ZaC (ZcW a0 a1 N) Tryz.func39 (by kernel_rfl) (by kernel_rfl) (fun x => by cases x <;> exact ZS _ rfl) (fun r => by cases r <;> exact ZS _ rfl) (fun x => by
  cases x with
  | h1m0 => exact fun _ => (show ¬ (1 ∈ Zx (ZfR 1).2) from by decide +kernel)
  ) (fun x => (show (ZcW a0 a1 N).Ok Tryz.prog Zw x (Zeb a0 a1 N x) from by
  cases x with
  | h1m0 => exact Zlh a0 a1 N
  )) (Znu a0 a1 N) (n := N) h

noncomputable def Zhd (a0 a1 : Int) (n : Nat) : ZaD := .call [] (Value.tuple #[Value.agg #[vq, vq, vq, vq, vq, vq, vq, vn], vf]) [] 0
def Zf1 (A : Array Value) (a0 a1 : Int) (n : Nat) : Prop := ZF Tryz.prog 39 A [] (Value.tuple #[Value.agg #[vq, vq, vq, vq, vq, vq, vq, vn], vf]) [] n 0

theorem Zhe (A : Array Value) (a0 a1 : Int) (N : Nat) (h : Zg9 a0 a1 N = some (.r0)) (n : Nat) (hA : A = #[vn, Value.agg #[vi a0, vi a1]]) (hnd : ([] : List Nat).Nodup) (hlt : ∀ k ∈ ([] : List Nat), k < n) : Zf1 A a0 a1  n :=
 ZU hA (LSpec.callL (show LSpec Tryz.prog 39 #[vn, Value.agg #[vi a0, vi a1]] [] (Value.tuple #[Value.agg #[vq, vq, vq, vq, vq, vq, vq, vn], vf]) [] from ZlT a0 a1 N _ h) [] n [] rfl hnd hlt (show 0 ≤ 0 from by decide) (show ∀ j ∈ ([] : List Nat), j < 0 from by decide) (by rfl) trivial (by rfl) trivial trivial rfl rfl rfl rfl rfl)

noncomputable def ZjE (a0 a1 a2 : Int) : ZbZ → Value
 | .r0 => Value.tuple #[vn, vi (240 : Int)]
noncomputable def ZiF (a0 a1 a2 : Int) : ZbZ → List (Option AObj)
 | .r0 => []

theorem Zm5 (a0 a1 a2 : Int) (N : Nat) : Fx Tryz.prog Zw Tryz.f12 [] #[vn, Value.agg #[vi a0, vi a1], vi a2] (ZjE a0 a1 a2) (ZiF a0 a1 a2) (ZcU a0 a1 a2 N) := by
 unfold ZcU
 refine ZeU (fun z0 c0 => ?_)
 cases z0 with
 | r0 =>
  by_cases g1 : a2 < (0 : Int)
  ·
   exact Zt (r := (.r0 : ZbZ)) (fu := 4000) (orc := (Zi [(0, true)] [] [] [] [(0, (Zhd (a0) (a1)    1))])) (live := []) (u := Value.tuple #[vn, vi (240 : Int)]) (bl := []) (ob := [((decide (a2 < (0 : Int))), true), (dP (Zf1 #[vn, Value.agg #[vi a0, vi a1]] (a0) (a1)    1), true)]) (by kernel_rfl) (oY <| Zb (Zg (Zhe #[vn, Value.agg #[vi a0, vi a1]] (a0) (a1)   N c0  1 rfl (by decide) (by decide))) Ze) rfl (by decide) (by rfl) rr trivial
  ·
   by_cases g2 : (3 : Int) < a2
   ·
    exact Zt (r := (.r0 : ZbZ)) (fu := 4000) (orc := (Zi [(0, false), (1, true)] [] [] [] [(0, (Zhd (a0) (a1)    1))])) (live := []) (u := Value.tuple #[vn, vi (240 : Int)]) (bl := []) (ob := [((decide (a2 > (3 : Int))), true), ((decide (a2 < (0 : Int))), false), (dP (Zf1 #[vn, Value.agg #[vi a0, vi a1]] (a0) (a1)    1), true)]) (by kernel_rfl) (oY <| oN <| Zb (Zg (Zhe #[vn, Value.agg #[vi a0, vi a1]] (a0) (a1)   N c0  1 rfl (by decide) (by decide))) Ze) rfl (by decide) (by rfl) rr trivial
   ·
    exact Zt (r := (.r0 : ZbZ)) (fu := 4000) (orc := (Zi [(0, false), (1, false)] [] [] [] [(0, (Zhd (a0) (a1)    1))])) (live := []) (u := Value.tuple #[vn, vi (240 : Int)]) (bl := []) (ob := [((decide (a2 > (3 : Int))), false), ((decide (a2 < (0 : Int))), false), (dP (Zf1 #[vn, Value.agg #[vi a0, vi a1]] (a0) (a1)    1), true)]) (by kernel_rfl) (oN <| oN <| Zb (Zg (Zhe #[vn, Value.agg #[vi a0, vi a1]] (a0) (a1)   N c0  1 rfl (by decide) (by decide))) Ze) rfl (by decide) (by rfl) rr trivial

theorem Zli (a0 a1 a2 : Int) (N : Nat) (r : ZbZ) (h : ZcU a0 a1 a2 N = some r) : LSpec Tryz.prog 12 #[vn, Value.agg #[vi a0, vi a1], vi a2] [] (ZjE a0 a1 a2 r) (ZiF a0 a1 a2 r) :=
 Zcs ZaC Tryz.func12 (by kernel_rfl) (by kernel_rfl) (fun r => by cases r <;> exact ZS _ rfl) (Zm5 a0 a1 a2 N) h

noncomputable def Znv (a0 a1 a2 : Int) (n : Nat) : ZaD := .call [] (Value.tuple #[vn, vi (240 : Int)]) [] 0
def ZiG (A : Array Value) (a0 a1 a2 : Int) (n : Nat) : Prop := ZF Tryz.prog 12 A [] (Value.tuple #[vn, vi (240 : Int)]) [] n 0

theorem Znw (A : Array Value) (a0 a1 a2 : Int) (N : Nat) (h : ZcU a0 a1 a2 N = some (.r0)) (n : Nat) (hA : A = #[vn, Value.agg #[vi a0, vi a1], vi a2]) (hnd : ([] : List Nat).Nodup) (hlt : ∀ k ∈ ([] : List Nat), k < n) : ZiG A a0 a1 a2  n :=
 ZU hA (LSpec.callL (show LSpec Tryz.prog 12 #[vn, Value.agg #[vi a0, vi a1], vi a2] [] (Value.tuple #[vn, vi (240 : Int)]) [] from Zli a0 a1 a2 N _ h) [] n [] rfl hnd hlt (show 0 ≤ 0 from by decide) (show ∀ j ∈ ([] : List Nat), j < 0 from by decide) (by rfl) trivial (by rfl) trivial trivial rfl rfl rfl rfl rfl)

noncomputable def ZkJ  : Zb9 → Value
 | .r0 => vT
noncomputable def ZjF  : Zb9 → List (Option AObj)
 | .r0 => []

def ZoX : ZaW → Nat
 | .h1m0 => 1
noncomputable def ZpH  : ZaW → List (Nat × Value)
 | .h1m0 => [(0, vn), (1, vn), (5, vq)]
noncomputable def ZpI  : ZaW → List (Option AObj)
 | .h1m0 => []

noncomputable def ZfS : Nat → Code × List Zaw
 | 1 => ZaQ [1, 1, 0, 1, 3] (Zb5 Tryz.f13) []
 | _ => (.skip, [])
def ZoY : Nat → Bool
 | 1 => true
 | _ => true
noncomputable def ZcX  (N : Nat) : Mach := ⟨Tryz.f13, [], ZaW, Zb9, Zec  N, ZoX, ZfS, ZoY, ZpH , ZpI , ZkJ , ZjF ⟩

theorem Zlj  (N : Nat) : (ZcX  N).Ok Tryz.prog Zw (.h1m0 : ZaW) (Zec  N (.h1m0 : ZaW)) := by
 show (ZcX  N).Ok Tryz.prog Zw (.h1m0 : ZaW) (Zfk  N)
 unfold Zfk
 exact Mach.ok_fin (M := ZcX  N) (cd := 1000000) (cm := 0) (r := (.r0 : Zb9)) (fu := 4000) (orc := (Zi [] [] [] [] [])) (live := []) (u := vT) (bl := []) (ob := []) (fun gv => by kernel_rfl) Ze rfl (by decide) (by rfl) rr trivial

theorem Znx  (N : Nat) : (ZcX  N).Enter Tryz.prog Zw #[vn, vn] (Zha  N) := by
 unfold Zha
 exact Mach.en_head (bK := ZfS 1) (M := ZcX  N) (cd := 1000000) (cm := 0) (y := (.h1m0 : ZaW)) (fu := 4000) (orc := (Zi [] [] [] [] [])) (live := []) (tv := [some (vn), some (vn), some (vq)]) (bl := []) (ob := []) rfl rfl (show Zx (ZfS 1).2 = [] from rfl) (by kernel_rfl) Ze rfl (by decide) (by rfl) ⟨rr, ⟨rr, ⟨rr, trivial⟩⟩⟩ trivial

theorem ZlU  (N : Nat) (r : Zb9) (h : Zed  N = some r) : LSpec Tryz.prog 13 #[vn, vn] [] (ZkJ  r) (ZjF  r) :=
 Mach.spec ZaC (ZcX  N) Tryz.func13 (by kernel_rfl) (by kernel_rfl) (fun x => by cases x <;> exact ZS _ rfl) (fun r => by cases r <;> exact ZS _ rfl) (fun x => by
  cases x with
  | h1m0 => exact fun _ => (show ¬ (1 ∈ Zx (ZfS 1).2) from by decide +kernel)
  ) (fun x => (show (ZcX  N).Ok Tryz.prog Zw x (Zec  N x) from by
  cases x with
  | h1m0 => exact Zlj  N
  )) (Znx  N) (n := N) h

noncomputable def ZdP  (n : Nat) : ZaD := .call [] (vT) [] 0
def Zdk (A : Array Value)  (n : Nat) : Prop := ZF Tryz.prog 13 A [] (vT) [] n 0

theorem ZdQ (A : Array Value)  (N : Nat) (h : Zed  N = some (.r0)) (n : Nat) (hA : A = #[vn, vn]) (hnd : ([] : List Nat).Nodup) (hlt : ∀ k ∈ ([] : List Nat), k < n) : Zdk A   n :=
 ZU hA (LSpec.callL (show LSpec Tryz.prog 13 #[vn, vn] [] (vT) [] from ZlU  N _ h) [] n [] rfl hnd hlt (show 0 ≤ 0 from by decide) (show ∀ j ∈ ([] : List Nat), j < 0 from by decide) (by rfl) trivial (by rfl) trivial trivial rfl rfl rfl rfl rfl)

noncomputable def ZkK (a0 a1 a2 a3 a4 : Int) : ZaB → Value
 | .r0 => Value.tuple #[vs 0 0 1 1, vT]
 | .r1 w0 => Value.tuple #[vn, Value.bool w0]
noncomputable def ZjG (a0 a1 a2 a3 a4 : Int) : ZaB → List (Option AObj)
 | .r0 => [some (.cells (Zd E_ii ([(⟨a4, (0 : Int)⟩ : R_ii)] : List R_ii)) 104)]
 | .r1 w0 => []

theorem Zny (a0 a1 a2 a3 a4 : Int) (N : Nat) : Fx Tryz.prog Zw Tryz.f60 [] #[vn, Value.agg #[vi a0, vi a1, vi a2, vi a3], vi a4] (ZkK a0 a1 a2 a3 a4) (ZjG a0 a1 a2 a3 a4) (Zdy a0 a1 a2 a3 a4 N) := by
 unfold Zdy
 refine Zy (fun g0 => ?_) (fun g0 => ?_)
 ·
  exact Zt (r := (.r0 : ZaB)) (fu := 4000) (orc := (Zi [(0, true)] [] [] [] [])) (live := [3]) (u := Value.tuple #[vs 3 0 1 1, vT]) (bl := [some (.cells [vi a4, vq] 104)]) (ob := [((a0 == (15 : Int)), true)]) (by kernel_rfl) (oT Ze) rfl (by decide) (by rfl) rr ⟨(ZcL (E := E_ii) _ (L := ([(⟨a4, (0 : Int)⟩ : R_ii)] : List R_ii)) _ (show ([vi a4, vq] : List Value) = Zd E_ii ([(⟨a4, (0 : Int)⟩ : R_ii)] : List R_ii) from rfl)), trivial⟩
 ·
  refine Zy (fun g1 => ?_) (fun g1 => ?_)
  ·
   exact Zt (r := (.r1 (false) : ZaB)) (fu := 4000) (orc := (Zi [(0, false), (1, true)] [] [] [] [])) (live := []) (u := Value.tuple #[vn, vf]) (bl := []) (ob := [((a0 == (16 : Int)), true), ((a0 == (15 : Int)), false)]) (by kernel_rfl) (oT <| oF Ze) rfl (by decide) (by rfl) rr trivial
  ·
   refine Zy (fun g2 => ?_) (fun g2 => ?_)
   ·
    exact Zt (r := (.r1 (false) : ZaB)) (fu := 4000) (orc := (Zi [(0, false), (1, false), (2, true)] [] [] [] [])) (live := []) (u := Value.tuple #[vn, vf]) (bl := []) (ob := [((a0 == (17 : Int)), true), ((a0 == (16 : Int)), false), ((a0 == (15 : Int)), false)]) (by kernel_rfl) (oT <| oF <| oF Ze) rfl (by decide) (by rfl) rr trivial
   ·
    refine Zy (fun g3 => ?_) (fun g3 => ?_)
    ·
     exact Zt (r := (.r1 (false) : ZaB)) (fu := 4000) (orc := (Zi [(0, false), (1, false), (2, false), (3, true)] [] [] [] [])) (live := []) (u := Value.tuple #[vn, vf]) (bl := []) (ob := [((a0 == (18 : Int)), true), ((a0 == (17 : Int)), false), ((a0 == (16 : Int)), false), ((a0 == (15 : Int)), false)]) (by kernel_rfl) (oT <| oF <| oF <| oF Ze) rfl (by decide) (by rfl) rr trivial
    ·
     by_cases g4 : a0 = (20 : Int)
     ·
      exact Zt (r := (.r1 (true) : ZaB)) (fu := 4000) (orc := (Zi [(0, false), (1, false), (2, false), (3, false), (4, true)] [] [] [] [])) (live := []) (u := Value.tuple #[vn, vT]) (bl := []) (ob := [((a0 == (20 : Int)), true), ((a0 == (18 : Int)), false), ((a0 == (17 : Int)), false), ((a0 == (16 : Int)), false), ((a0 == (15 : Int)), false)]) (by kernel_rfl) (oT <| oF <| oF <| oF <| oF Ze) rfl (by decide) (by rfl) rr trivial
     ·
      exact Zt (r := (.r1 (true) : ZaB)) (fu := 4000) (orc := (Zi [(0, false), (1, false), (2, false), (3, false), (4, false)] [] [] [] [])) (live := []) (u := Value.tuple #[vn, vT]) (bl := []) (ob := [((a0 == (20 : Int)), false), ((a0 == (18 : Int)), false), ((a0 == (17 : Int)), false), ((a0 == (16 : Int)), false), ((a0 == (15 : Int)), false)]) (by kernel_rfl) (oF <| oF <| oF <| oF <| oF Ze) rfl (by decide) (by rfl) rr trivial

theorem Zhx (a0 a1 a2 a3 a4 : Int) (N : Nat) (r : ZaB) (h : Zdy a0 a1 a2 a3 a4 N = some r) : LSpec Tryz.prog 60 #[vn, Value.agg #[vi a0, vi a1, vi a2, vi a3], vi a4] [] (ZkK a0 a1 a2 a3 a4 r) (ZjG a0 a1 a2 a3 a4 r) :=
 Zcs ZaC Tryz.func60 (by kernel_rfl) (by kernel_rfl) (fun r => by cases r <;> exact ZS _ rfl) (Zny a0 a1 a2 a3 a4 N) h

noncomputable def Zhf (a0 a1 a2 a3 a4 : Int) (n : Nat) : ZaD := .call [] (Value.tuple #[vs n 0 1 1, vT]) [(n, some (.cells (Zd E_ii ([(⟨a4, (0 : Int)⟩ : R_ii)] : List R_ii)) 104))] 1
def Zf2 (A : Array Value) (a0 a1 a2 a3 a4 : Int) (n : Nat) : Prop := ZF Tryz.prog 60 A [] (Value.tuple #[vs n 0 1 1, vT]) [(n, some (.cells (Zd E_ii ([(⟨a4, (0 : Int)⟩ : R_ii)] : List R_ii)) 104))] n 1

theorem Zhg (A : Array Value) (a0 a1 a2 a3 a4 : Int) (N : Nat) (h : Zdy a0 a1 a2 a3 a4 N = some (.r0)) (n : Nat) (hA : A = #[vn, Value.agg #[vi a0, vi a1, vi a2, vi a3], vi a4]) (hnd : ([] : List Nat).Nodup) (hlt : ∀ k ∈ ([] : List Nat), k < n) : Zf2 A a0 a1 a2 a3 a4  n :=
 ZU hA (LSpec.callL (show LSpec Tryz.prog 60 #[vn, Value.agg #[vi a0, vi a1, vi a2, vi a3], vi a4] [] (Value.tuple #[vs 0 0 1 1, vT]) [some (.cells (Zd E_ii ([(⟨a4, (0 : Int)⟩ : R_ii)] : List R_ii)) 104)] from Zhx a0 a1 a2 a3 a4 N _ h) [] n [0] rfl hnd hlt (show 0 ≤ 1 from by decide) (show ∀ j ∈ ([0] : List Nat), j < 1 from by decide) (by rfl) trivial (by rfl) ⟨(Z6 _ _ _), trivial⟩ ⟨(by decide), trivial⟩ rfl rfl rfl rfl (Za (ZE rfl (ZbI (Zae _ _ _))) rfl))

noncomputable def Zf3 (a0 a1 a2 a3 a4 : Int) (w0 : Bool) (n : Nat) : ZaD := .call [] (Value.tuple #[vn, Value.bool w0]) [] 0
def ZdR (A : Array Value) (a0 a1 a2 a3 a4 : Int) (w0 : Bool) (n : Nat) : Prop := ZF Tryz.prog 60 A [] (Value.tuple #[vn, Value.bool w0]) [] n 0

theorem Zf4 (A : Array Value) (a0 a1 a2 a3 a4 : Int) (w0 : Bool) (N : Nat) (h : Zdy a0 a1 a2 a3 a4 N = some (.r1 w0)) (n : Nat) (hA : A = #[vn, Value.agg #[vi a0, vi a1, vi a2, vi a3], vi a4]) (hnd : ([] : List Nat).Nodup) (hlt : ∀ k ∈ ([] : List Nat), k < n) : ZdR A a0 a1 a2 a3 a4 w0  n :=
 ZU hA (LSpec.callL (show LSpec Tryz.prog 60 #[vn, Value.agg #[vi a0, vi a1, vi a2, vi a3], vi a4] [] (Value.tuple #[vn, Value.bool w0]) [] from Zhx a0 a1 a2 a3 a4 N _ h) [] n [] rfl hnd hlt (show 0 ≤ 0 from by decide) (show ∀ j ∈ ([] : List Nat), j < 0 from by decide) (by rfl) trivial (by rfl) trivial trivial rfl rfl rfl rfl rfl)

noncomputable def ZlV (a0 : Int) : Z3 → Value
 | .r0 w0 w1 w2 w3 => Value.tuple #[Value.agg #[vi w0, vi w1, vi w2], Value.bool w3]
noncomputable def ZkL (a0 : Int) : Z3 → List (Option AObj)
 | .r0 w0 w1 w2 w3 => []

theorem ZoZ (a0 : Int) (N : Nat) : Fx Tryz.prog Zw Tryz.f73 [] #[vi a0] (ZlV a0) (ZkL a0) (Zgj a0 N) := by
 unfold Zgj
 refine Zy (fun g0 => ?_) (fun g0 => ?_)
 ·
  exact Zt (r := (.r0 ((1 : Int)) ((2 : Int)) ((0 : Int)) (true) : Z3)) (fu := 4000) (orc := (Zi [(0, true)] [] [] [] [])) (live := []) (u := Value.tuple #[Value.agg #[vi (1 : Int), vi (2 : Int), vq], vT]) (bl := []) (ob := [((a0 == (1 : Int)), true)]) (by kernel_rfl) (oT Ze) rfl (by decide) (by rfl) rr trivial
 ·
  refine Zy (fun g1 => ?_) (fun g1 => ?_)
  ·
   exact Zt (r := (.r0 ((1 : Int)) ((0 : Int)) ((0 : Int)) (true) : Z3)) (fu := 4000) (orc := (Zi [(0, false), (1, true)] [] [] [] [])) (live := []) (u := Value.tuple #[Value.agg #[vi (1 : Int), vq, vq], vT]) (bl := []) (ob := [((a0 == (2 : Int)), true), ((a0 == (1 : Int)), false)]) (by kernel_rfl) (oT <| oF Ze) rfl (by decide) (by rfl) rr trivial
  ·
   refine Zy (fun g2 => ?_) (fun g2 => ?_)
   ·
    exact Zt (r := (.r0 ((1 : Int)) ((0 : Int)) ((0 : Int)) (true) : Z3)) (fu := 4000) (orc := (Zi [(0, false), (1, false), (2, true)] [] [] [] [])) (live := []) (u := Value.tuple #[Value.agg #[vi (1 : Int), vq, vq], vT]) (bl := []) (ob := [((a0 == (10 : Int)), true), ((a0 == (2 : Int)), false), ((a0 == (1 : Int)), false)]) (by kernel_rfl) (oT <| oF <| oF Ze) rfl (by decide) (by rfl) rr trivial
   ·
    refine Zy (fun g3 => ?_) (fun g3 => ?_)
    ·
     exact Zt (r := (.r0 ((1 : Int)) ((0 : Int)) ((0 : Int)) (true) : Z3)) (fu := 4000) (orc := (Zi [(0, false), (1, false), (2, false), (3, true)] [] [] [] [])) (live := []) (u := Value.tuple #[Value.agg #[vi (1 : Int), vq, vq], vT]) (bl := []) (ob := [((a0 == (12 : Int)), true), ((a0 == (10 : Int)), false), ((a0 == (2 : Int)), false), ((a0 == (1 : Int)), false)]) (by kernel_rfl) (oT <| oF <| oF <| oF Ze) rfl (by decide) (by rfl) rr trivial
    ·
     refine Zy (fun g4 => ?_) (fun g4 => ?_)
     ·
      exact Zt (r := (.r0 ((1 : Int)) ((0 : Int)) ((0 : Int)) (true) : Z3)) (fu := 4000) (orc := (Zi [(0, false), (1, false), (2, false), (3, false), (4, true)] [] [] [] [])) (live := []) (u := Value.tuple #[Value.agg #[vi (1 : Int), vq, vq], vT]) (bl := []) (ob := [((a0 == (19 : Int)), true), ((a0 == (12 : Int)), false), ((a0 == (10 : Int)), false), ((a0 == (2 : Int)), false), ((a0 == (1 : Int)), false)]) (by kernel_rfl) (oT <| oF <| oF <| oF <| oF Ze) rfl (by decide) (by rfl) rr trivial
     ·
      refine Zy (fun g5 => ?_) (fun g5 => ?_)
      ·
       exact Zt (r := (.r0 ((1 : Int)) ((1 : Int)) ((0 : Int)) (true) : Z3)) (fu := 4000) (orc := (Zi [(0, false), (1, false), (2, false), (3, false), (4, false), (5, true)] [] [] [] [])) (live := []) (u := Value.tuple #[Value.agg #[vi (1 : Int), vi (1 : Int), vq], vT]) (bl := []) (ob := [((a0 == (3 : Int)), true), ((a0 == (19 : Int)), false), ((a0 == (12 : Int)), false), ((a0 == (10 : Int)), false), ((a0 == (2 : Int)), false), ((a0 == (1 : Int)), false)]) (by kernel_rfl) (oT <| oF <| oF <| oF <| oF <| oF Ze) rfl (by decide) (by rfl) rr trivial
      ·
       refine Zy (fun g6 => ?_) (fun g6 => ?_)
       ·
        exact Zt (r := (.r0 ((1 : Int)) ((1 : Int)) ((1 : Int)) (true) : Z3)) (fu := 4000) (orc := (Zi [(0, false), (1, false), (2, false), (3, false), (4, false), (5, false), (6, true)] [] [] [] [])) (live := []) (u := Value.tuple #[Value.agg #[vi (1 : Int), vi (1 : Int), vi (1 : Int)], vT]) (bl := []) (ob := [((a0 == (4 : Int)), true), ((a0 == (3 : Int)), false), ((a0 == (19 : Int)), false), ((a0 == (12 : Int)), false), ((a0 == (10 : Int)), false), ((a0 == (2 : Int)), false), ((a0 == (1 : Int)), false)]) (by kernel_rfl) (oT <| oF <| oF <| oF <| oF <| oF <| oF Ze) rfl (by decide) (by rfl) rr trivial
       ·
        refine Zy (fun g7 => ?_) (fun g7 => ?_)
        ·
         exact Zt (r := (.r0 ((1 : Int)) ((1 : Int)) ((1 : Int)) (true) : Z3)) (fu := 4000) (orc := (Zi [(0, false), (1, false), (2, false), (3, false), (4, false), (5, false), (6, false), (7, true)] [] [] [] [])) (live := []) (u := Value.tuple #[Value.agg #[vi (1 : Int), vi (1 : Int), vi (1 : Int)], vT]) (bl := []) (ob := [((a0 == (5 : Int)), true), ((a0 == (4 : Int)), false), ((a0 == (3 : Int)), false), ((a0 == (19 : Int)), false), ((a0 == (12 : Int)), false), ((a0 == (10 : Int)), false), ((a0 == (2 : Int)), false), ((a0 == (1 : Int)), false)]) (by kernel_rfl) (oT <| oF <| oF <| oF <| oF <| oF <| oF <| oF Ze) rfl (by decide) (by rfl) rr trivial
        ·
         refine Zy (fun g8 => ?_) (fun g8 => ?_)
         ·
          exact Zt (r := (.r0 ((1 : Int)) ((1 : Int)) ((1 : Int)) (true) : Z3)) (fu := 4000) (orc := (Zi [(0, false), (1, false), (2, false), (3, false), (4, false), (5, false), (6, false), (7, false), (8, true)] [] [] [] [])) (live := []) (u := Value.tuple #[Value.agg #[vi (1 : Int), vi (1 : Int), vi (1 : Int)], vT]) (bl := []) (ob := [((a0 == (6 : Int)), true), ((a0 == (5 : Int)), false), ((a0 == (4 : Int)), false), ((a0 == (3 : Int)), false), ((a0 == (19 : Int)), false), ((a0 == (12 : Int)), false), ((a0 == (10 : Int)), false), ((a0 == (2 : Int)), false), ((a0 == (1 : Int)), false)]) (by kernel_rfl) (oT <| oF <| oF <| oF <| oF <| oF <| oF <| oF <| oF Ze) rfl (by decide) (by rfl) rr trivial
         ·
          refine Zy (fun g9 => ?_) (fun g9 => ?_)
          ·
           exact Zt (r := (.r0 ((1 : Int)) ((1 : Int)) ((1 : Int)) (true) : Z3)) (fu := 4000) (orc := (Zi [(0, false), (1, false), (2, false), (3, false), (4, false), (5, false), (6, false), (7, false), (8, false), (9, true)] [] [] [] [])) (live := []) (u := Value.tuple #[Value.agg #[vi (1 : Int), vi (1 : Int), vi (1 : Int)], vT]) (bl := []) (ob := [((a0 == (7 : Int)), true), ((a0 == (6 : Int)), false), ((a0 == (5 : Int)), false), ((a0 == (4 : Int)), false), ((a0 == (3 : Int)), false), ((a0 == (19 : Int)), false), ((a0 == (12 : Int)), false), ((a0 == (10 : Int)), false), ((a0 == (2 : Int)), false), ((a0 == (1 : Int)), false)]) (by kernel_rfl) (oT <| oF <| oF <| oF <| oF <| oF <| oF <| oF <| oF <| oF Ze) rfl (by decide) (by rfl) rr trivial
          ·
           refine Zy (fun g10 => ?_) (fun g10 => ?_)
           ·
            exact Zt (r := (.r0 ((3 : Int)) ((0 : Int)) ((0 : Int)) (true) : Z3)) (fu := 4000) (orc := (Zi [(0, false), (1, false), (2, false), (3, false), (4, false), (5, false), (6, false), (7, false), (8, false), (9, false), (10, true)] [] [] [] [])) (live := []) (u := Value.tuple #[Value.agg #[vi (3 : Int), vq, vq], vT]) (bl := []) (ob := [((a0 == (8 : Int)), true), ((a0 == (7 : Int)), false), ((a0 == (6 : Int)), false), ((a0 == (5 : Int)), false), ((a0 == (4 : Int)), false), ((a0 == (3 : Int)), false), ((a0 == (19 : Int)), false), ((a0 == (12 : Int)), false), ((a0 == (10 : Int)), false), ((a0 == (2 : Int)), false), ((a0 == (1 : Int)), false)]) (by kernel_rfl) (oT <| oF <| oF <| oF <| oF <| oF <| oF <| oF <| oF <| oF <| oF Ze) rfl (by decide) (by rfl) rr trivial
           ·
            refine Zy (fun g11 => ?_) (fun g11 => ?_)
            ·
             exact Zt (r := (.r0 ((1 : Int)) ((3 : Int)) ((0 : Int)) (true) : Z3)) (fu := 4000) (orc := (Zi [(0, false), (1, false), (2, false), (3, false), (4, false), (5, false), (6, false), (7, false), (8, false), (9, false), (10, false), (11, true)] [] [] [] [])) (live := []) (u := Value.tuple #[Value.agg #[vi (1 : Int), vi (3 : Int), vq], vT]) (bl := []) (ob := [((a0 == (9 : Int)), true), ((a0 == (8 : Int)), false), ((a0 == (7 : Int)), false), ((a0 == (6 : Int)), false), ((a0 == (5 : Int)), false), ((a0 == (4 : Int)), false), ((a0 == (3 : Int)), false), ((a0 == (19 : Int)), false), ((a0 == (12 : Int)), false), ((a0 == (10 : Int)), false), ((a0 == (2 : Int)), false), ((a0 == (1 : Int)), false)]) (by kernel_rfl) (oT <| oF <| oF <| oF <| oF <| oF <| oF <| oF <| oF <| oF <| oF <| oF Ze) rfl (by decide) (by rfl) rr trivial
            ·
             refine Zy (fun g12 => ?_) (fun g12 => ?_)
             ·
              exact Zt (r := (.r0 ((1 : Int)) ((5 : Int)) ((6 : Int)) (true) : Z3)) (fu := 4000) (orc := (Zi [(0, false), (1, false), (2, false), (3, false), (4, false), (5, false), (6, false), (7, false), (8, false), (9, false), (10, false), (11, false), (12, true)] [] [] [] [])) (live := []) (u := Value.tuple #[Value.agg #[vi (1 : Int), vi (5 : Int), vi (6 : Int)], vT]) (bl := []) (ob := [((a0 == (11 : Int)), true), ((a0 == (9 : Int)), false), ((a0 == (8 : Int)), false), ((a0 == (7 : Int)), false), ((a0 == (6 : Int)), false), ((a0 == (5 : Int)), false), ((a0 == (4 : Int)), false), ((a0 == (3 : Int)), false), ((a0 == (19 : Int)), false), ((a0 == (12 : Int)), false), ((a0 == (10 : Int)), false), ((a0 == (2 : Int)), false), ((a0 == (1 : Int)), false)]) (by kernel_rfl) (oT <| oF <| oF <| oF <| oF <| oF <| oF <| oF <| oF <| oF <| oF <| oF <| oF Ze) rfl (by decide) (by rfl) rr trivial
             ·
              refine Zy (fun g13 => ?_) (fun g13 => ?_)
              ·
               exact Zt (r := (.r0 ((1 : Int)) ((1 : Int)) ((4 : Int)) (true) : Z3)) (fu := 4000) (orc := (Zi [(0, false), (1, false), (2, false), (3, false), (4, false), (5, false), (6, false), (7, false), (8, false), (9, false), (10, false), (11, false), (12, false), (13, true)] [] [] [] [])) (live := []) (u := Value.tuple #[Value.agg #[vi (1 : Int), vi (1 : Int), vi (4 : Int)], vT]) (bl := []) (ob := [((a0 == (13 : Int)), true), ((a0 == (11 : Int)), false), ((a0 == (9 : Int)), false), ((a0 == (8 : Int)), false), ((a0 == (7 : Int)), false), ((a0 == (6 : Int)), false), ((a0 == (5 : Int)), false), ((a0 == (4 : Int)), false), ((a0 == (3 : Int)), false), ((a0 == (19 : Int)), false), ((a0 == (12 : Int)), false), ((a0 == (10 : Int)), false), ((a0 == (2 : Int)), false), ((a0 == (1 : Int)), false)]) (by kernel_rfl) (oT <| oF <| oF <| oF <| oF <| oF <| oF <| oF <| oF <| oF <| oF <| oF <| oF <| oF Ze) rfl (by decide) (by rfl) rr trivial
              ·
               refine Zy (fun g14 => ?_) (fun g14 => ?_)
               ·
                exact Zt (r := (.r0 ((1 : Int)) ((4 : Int)) ((1 : Int)) (true) : Z3)) (fu := 4000) (orc := (Zi [(0, false), (1, false), (2, false), (3, false), (4, false), (5, false), (6, false), (7, false), (8, false), (9, false), (10, false), (11, false), (12, false), (13, false), (14, true)] [] [] [] [])) (live := []) (u := Value.tuple #[Value.agg #[vi (1 : Int), vi (4 : Int), vi (1 : Int)], vT]) (bl := []) (ob := [((a0 == (14 : Int)), true), ((a0 == (13 : Int)), false), ((a0 == (11 : Int)), false), ((a0 == (9 : Int)), false), ((a0 == (8 : Int)), false), ((a0 == (7 : Int)), false), ((a0 == (6 : Int)), false), ((a0 == (5 : Int)), false), ((a0 == (4 : Int)), false), ((a0 == (3 : Int)), false), ((a0 == (19 : Int)), false), ((a0 == (12 : Int)), false), ((a0 == (10 : Int)), false), ((a0 == (2 : Int)), false), ((a0 == (1 : Int)), false)]) (by kernel_rfl) (oT <| oF <| oF <| oF <| oF <| oF <| oF <| oF <| oF <| oF <| oF <| oF <| oF <| oF <| oF Ze) rfl (by decide) (by rfl) rr trivial
               ·
                refine Zy (fun g15 => ?_) (fun g15 => ?_)
                ·
                 exact Zt (r := (.r0 ((0 : Int)) ((0 : Int)) ((0 : Int)) (true) : Z3)) (fu := 4000) (orc := (Zi [(0, false), (1, false), (2, false), (3, false), (4, false), (5, false), (6, false), (7, false), (8, false), (9, false), (10, false), (11, false), (12, false), (13, false), (14, false), (15, true)] [] [] [] [])) (live := []) (u := Value.tuple #[Value.agg #[vq, vq, vq], vT]) (bl := []) (ob := [((a0 == (15 : Int)), true), ((a0 == (14 : Int)), false), ((a0 == (13 : Int)), false), ((a0 == (11 : Int)), false), ((a0 == (9 : Int)), false), ((a0 == (8 : Int)), false), ((a0 == (7 : Int)), false), ((a0 == (6 : Int)), false), ((a0 == (5 : Int)), false), ((a0 == (4 : Int)), false), ((a0 == (3 : Int)), false), ((a0 == (19 : Int)), false), ((a0 == (12 : Int)), false), ((a0 == (10 : Int)), false), ((a0 == (2 : Int)), false), ((a0 == (1 : Int)), false)]) (by kernel_rfl) (oT <| oF <| oF <| oF <| oF <| oF <| oF <| oF <| oF <| oF <| oF <| oF <| oF <| oF <| oF <| oF Ze) rfl (by decide) (by rfl) rr trivial
                ·
                 refine Zy (fun g16 => ?_) (fun g16 => ?_)
                 ·
                  exact Zt (r := (.r0 ((0 : Int)) ((0 : Int)) ((0 : Int)) (true) : Z3)) (fu := 4000) (orc := (Zi [(0, false), (1, false), (2, false), (3, false), (4, false), (5, false), (6, false), (7, false), (8, false), (9, false), (10, false), (11, false), (12, false), (13, false), (14, false), (15, false), (16, true)] [] [] [] [])) (live := []) (u := Value.tuple #[Value.agg #[vq, vq, vq], vT]) (bl := []) (ob := [((a0 == (16 : Int)), true), ((a0 == (15 : Int)), false), ((a0 == (14 : Int)), false), ((a0 == (13 : Int)), false), ((a0 == (11 : Int)), false), ((a0 == (9 : Int)), false), ((a0 == (8 : Int)), false), ((a0 == (7 : Int)), false), ((a0 == (6 : Int)), false), ((a0 == (5 : Int)), false), ((a0 == (4 : Int)), false), ((a0 == (3 : Int)), false), ((a0 == (19 : Int)), false), ((a0 == (12 : Int)), false), ((a0 == (10 : Int)), false), ((a0 == (2 : Int)), false), ((a0 == (1 : Int)), false)]) (by kernel_rfl) (oT <| oF <| oF <| oF <| oF <| oF <| oF <| oF <| oF <| oF <| oF <| oF <| oF <| oF <| oF <| oF <| oF Ze) rfl (by decide) (by rfl) rr trivial
                 ·
                  refine Zy (fun g17 => ?_) (fun g17 => ?_)
                  ·
                   exact Zt (r := (.r0 ((0 : Int)) ((0 : Int)) ((0 : Int)) (true) : Z3)) (fu := 4000) (orc := (Zi [(0, false), (1, false), (2, false), (3, false), (4, false), (5, false), (6, false), (7, false), (8, false), (9, false), (10, false), (11, false), (12, false), (13, false), (14, false), (15, false), (16, false), (17, true)] [] [] [] [])) (live := []) (u := Value.tuple #[Value.agg #[vq, vq, vq], vT]) (bl := []) (ob := [((a0 == (17 : Int)), true), ((a0 == (16 : Int)), false), ((a0 == (15 : Int)), false), ((a0 == (14 : Int)), false), ((a0 == (13 : Int)), false), ((a0 == (11 : Int)), false), ((a0 == (9 : Int)), false), ((a0 == (8 : Int)), false), ((a0 == (7 : Int)), false), ((a0 == (6 : Int)), false), ((a0 == (5 : Int)), false), ((a0 == (4 : Int)), false), ((a0 == (3 : Int)), false), ((a0 == (19 : Int)), false), ((a0 == (12 : Int)), false), ((a0 == (10 : Int)), false), ((a0 == (2 : Int)), false), ((a0 == (1 : Int)), false)]) (by kernel_rfl) (oT <| oF <| oF <| oF <| oF <| oF <| oF <| oF <| oF <| oF <| oF <| oF <| oF <| oF <| oF <| oF <| oF <| oF Ze) rfl (by decide) (by rfl) rr trivial
                  ·
                   refine Zy (fun g18 => ?_) (fun g18 => ?_)
                   ·
                    exact Zt (r := (.r0 ((0 : Int)) ((0 : Int)) ((0 : Int)) (true) : Z3)) (fu := 4000) (orc := (Zi [(0, false), (1, false), (2, false), (3, false), (4, false), (5, false), (6, false), (7, false), (8, false), (9, false), (10, false), (11, false), (12, false), (13, false), (14, false), (15, false), (16, false), (17, false), (18, true)] [] [] [] [])) (live := []) (u := Value.tuple #[Value.agg #[vq, vq, vq], vT]) (bl := []) (ob := [((a0 == (18 : Int)), true), ((a0 == (17 : Int)), false), ((a0 == (16 : Int)), false), ((a0 == (15 : Int)), false), ((a0 == (14 : Int)), false), ((a0 == (13 : Int)), false), ((a0 == (11 : Int)), false), ((a0 == (9 : Int)), false), ((a0 == (8 : Int)), false), ((a0 == (7 : Int)), false), ((a0 == (6 : Int)), false), ((a0 == (5 : Int)), false), ((a0 == (4 : Int)), false), ((a0 == (3 : Int)), false), ((a0 == (19 : Int)), false), ((a0 == (12 : Int)), false), ((a0 == (10 : Int)), false), ((a0 == (2 : Int)), false), ((a0 == (1 : Int)), false)]) (by kernel_rfl) (oT <| oF <| oF <| oF <| oF <| oF <| oF <| oF <| oF <| oF <| oF <| oF <| oF <| oF <| oF <| oF <| oF <| oF <| oF Ze) rfl (by decide) (by rfl) rr trivial
                   ·
                    refine Zy (fun g19 => ?_) (fun g19 => ?_)
                    ·
                     exact Zt (r := (.r0 ((0 : Int)) ((0 : Int)) ((0 : Int)) (true) : Z3)) (fu := 4000) (orc := (Zi [(0, false), (1, false), (2, false), (3, false), (4, false), (5, false), (6, false), (7, false), (8, false), (9, false), (10, false), (11, false), (12, false), (13, false), (14, false), (15, false), (16, false), (17, false), (18, false), (19, true)] [] [] [] [])) (live := []) (u := Value.tuple #[Value.agg #[vq, vq, vq], vT]) (bl := []) (ob := [((a0 == (20 : Int)), true), ((a0 == (18 : Int)), false), ((a0 == (17 : Int)), false), ((a0 == (16 : Int)), false), ((a0 == (15 : Int)), false), ((a0 == (14 : Int)), false), ((a0 == (13 : Int)), false), ((a0 == (11 : Int)), false), ((a0 == (9 : Int)), false), ((a0 == (8 : Int)), false), ((a0 == (7 : Int)), false), ((a0 == (6 : Int)), false), ((a0 == (5 : Int)), false), ((a0 == (4 : Int)), false), ((a0 == (3 : Int)), false), ((a0 == (19 : Int)), false), ((a0 == (12 : Int)), false), ((a0 == (10 : Int)), false), ((a0 == (2 : Int)), false), ((a0 == (1 : Int)), false)]) (by kernel_rfl) (oT <| oF <| oF <| oF <| oF <| oF <| oF <| oF <| oF <| oF <| oF <| oF <| oF <| oF <| oF <| oF <| oF <| oF <| oF <| oF Ze) rfl (by decide) (by rfl) rr trivial
                    ·
                     exact Zt (r := (.r0 ((0 : Int)) ((0 : Int)) ((0 : Int)) (false) : Z3)) (fu := 4000) (orc := (Zi [(0, false), (1, false), (2, false), (3, false), (4, false), (5, false), (6, false), (7, false), (8, false), (9, false), (10, false), (11, false), (12, false), (13, false), (14, false), (15, false), (16, false), (17, false), (18, false), (19, false)] [] [] [] [])) (live := []) (u := Value.tuple #[Value.agg #[vq, vq, vq], vf]) (bl := []) (ob := [((a0 == (20 : Int)), false), ((a0 == (18 : Int)), false), ((a0 == (17 : Int)), false), ((a0 == (16 : Int)), false), ((a0 == (15 : Int)), false), ((a0 == (14 : Int)), false), ((a0 == (13 : Int)), false), ((a0 == (11 : Int)), false), ((a0 == (9 : Int)), false), ((a0 == (8 : Int)), false), ((a0 == (7 : Int)), false), ((a0 == (6 : Int)), false), ((a0 == (5 : Int)), false), ((a0 == (4 : Int)), false), ((a0 == (3 : Int)), false), ((a0 == (19 : Int)), false), ((a0 == (12 : Int)), false), ((a0 == (10 : Int)), false), ((a0 == (2 : Int)), false), ((a0 == (1 : Int)), false)]) (by kernel_rfl) (oF <| oF <| oF <| oF <| oF <| oF <| oF <| oF <| oF <| oF <| oF <| oF <| oF <| oF <| oF <| oF <| oF <| oF <| oF <| oF Ze) rfl (by decide) (by rfl) rr trivial

theorem Zm6 (a0 : Int) (N : Nat) (r : Z3) (h : Zgj a0 N = some r) : LSpec Tryz.prog 73 #[vi a0] [] (ZlV a0 r) (ZkL a0 r) :=
 Zcs ZaC Tryz.func73 (by kernel_rfl) (by kernel_rfl) (fun r => by cases r <;> exact ZS _ rfl) (ZoZ a0 N) h

noncomputable def Ze1 (a0 w0 w1 w2 : Int) (w3 : Bool) (n : Nat) : ZaD := .call [] (Value.tuple #[Value.agg #[vi w0, vi w1, vi w2], Value.bool w3]) [] 0
def ZdC (A : Array Value) (a0 w0 w1 w2 : Int) (w3 : Bool) (n : Nat) : Prop := ZF Tryz.prog 73 A [] (Value.tuple #[Value.agg #[vi w0, vi w1, vi w2], Value.bool w3]) [] n 0

theorem Ze2 (A : Array Value) (a0 w0 w1 w2 : Int) (w3 : Bool) (N : Nat) (h : Zgj a0 N = some (.r0 w0 w1 w2 w3)) (n : Nat) (hA : A = #[vi a0]) (hnd : ([] : List Nat).Nodup) (hlt : ∀ k ∈ ([] : List Nat), k < n) : ZdC A a0 w0 w1 w2 w3  n :=
 ZU hA (LSpec.callL (show LSpec Tryz.prog 73 #[vi a0] [] (Value.tuple #[Value.agg #[vi w0, vi w1, vi w2], Value.bool w3]) [] from Zm6 a0 N _ h) [] n [] rfl hnd hlt (show 0 ≤ 0 from by decide) (show ∀ j ∈ ([] : List Nat), j < 0 from by decide) (by rfl) trivial (by rfl) trivial trivial rfl rfl rfl rfl rfl)

noncomputable def ZkM (a0 a1 a2 : Int) : Zv → Value
 | .r0 w0 => Value.bool w0
noncomputable def ZjH (a0 a1 a2 : Int) : Zv → List (Option AObj)
 | .r0 w0 => []

theorem Znz (a0 a1 a2 : Int) (N : Nat) : Fx Tryz.prog Zw Tryz.f74 [] #[vi a0, vi a1, vi a2] (ZkM a0 a1 a2) (ZjH a0 a1 a2) (Zdz a0 a1 a2 N) := by
 unfold Zdz
 refine Zy (fun g0 => ?_) (fun g0 => ?_)
 ·
  refine Zy (fun g1 => ?_) (fun g1 => ?_)
  ·
   refine Zy (fun g2 => ?_) (fun g2 => ?_)
   ·
    exact Zt (r := (.r0 (true) : Zv)) (fu := 4000) (orc := (Zi [(0, true), (1, true), (2, true)] [] [] [] [])) (live := []) (u := vT) (bl := []) (ob := [((decide (a1 < (8 : Int))), true), ((decide (a1 ≥ (0 : Int))), true), ((a0 == (1 : Int)), true)]) (by kernel_rfl) (oY <| oY <| oT Ze) rfl (by decide) (by rfl) rr trivial
   ·
    exact Zt (r := (.r0 (false) : Zv)) (fu := 4000) (orc := (Zi [(0, true), (1, true), (2, false)] [] [] [] [])) (live := []) (u := vf) (bl := []) (ob := [((decide (a1 < (8 : Int))), false), ((decide (a1 ≥ (0 : Int))), true), ((a0 == (1 : Int)), true)]) (by kernel_rfl) (oN <| oY <| oT Ze) rfl (by decide) (by rfl) rr trivial
  ·
   exact Zt (r := (.r0 (false) : Zv)) (fu := 4000) (orc := (Zi [(0, true), (1, false)] [] [] [] [])) (live := []) (u := vf) (bl := []) (ob := [((decide (a1 ≥ (0 : Int))), false), ((a0 == (1 : Int)), true)]) (by kernel_rfl) (oN <| oT Ze) rfl (by decide) (by rfl) rr trivial
 ·
  refine Zy (fun g1 => ?_) (fun g1 => ?_)
  ·
   refine Zy (fun g2 => ?_) (fun g2 => ?_)
   ·
    refine Zy (fun g3 => ?_) (fun g3 => ?_)
    ·
     exact Zt (r := (.r0 (true) : Zv)) (fu := 4000) (orc := (Zi [(0, false), (1, true), (2, true), (3, true)] [] [] [] [])) (live := []) (u := vT) (bl := []) (ob := [((decide (a1 ≤ (1099511627776 : Int))), true), ((decide (a1 ≥ (-1099511627776 : Int))), true), ((a0 == (2 : Int)), true), ((a0 == (1 : Int)), false)]) (by kernel_rfl) (oY <| oY <| oT <| oF Ze) rfl (by decide) (by rfl) rr trivial
    ·
     exact Zt (r := (.r0 (false) : Zv)) (fu := 4000) (orc := (Zi [(0, false), (1, true), (2, true), (3, false)] [] [] [] [])) (live := []) (u := vf) (bl := []) (ob := [((decide (a1 ≤ (1099511627776 : Int))), false), ((decide (a1 ≥ (-1099511627776 : Int))), true), ((a0 == (2 : Int)), true), ((a0 == (1 : Int)), false)]) (by kernel_rfl) (oN <| oY <| oT <| oF Ze) rfl (by decide) (by rfl) rr trivial
   ·
    exact Zt (r := (.r0 (false) : Zv)) (fu := 4000) (orc := (Zi [(0, false), (1, true), (2, false)] [] [] [] [])) (live := []) (u := vf) (bl := []) (ob := [((decide (a1 ≥ (-1099511627776 : Int))), false), ((a0 == (2 : Int)), true), ((a0 == (1 : Int)), false)]) (by kernel_rfl) (oN <| oT <| oF Ze) rfl (by decide) (by rfl) rr trivial
  ·
   refine Zy (fun g2 => ?_) (fun g2 => ?_)
   ·
    refine Zy (fun g3 => ?_) (fun g3 => ?_)
    ·
     refine Zy (fun g4 => ?_) (fun g4 => ?_)
     ·
      exact Zt (r := (.r0 (true) : Zv)) (fu := 4000) (orc := (Zi [(0, false), (1, false), (2, true), (3, true), (4, true)] [] [] [] [])) (live := []) (u := vT) (bl := []) (ob := [((decide (a1 ≤ (512 : Int))), true), ((decide (a1 ≥ (0 : Int))), true), ((a0 == (3 : Int)), true), ((a0 == (2 : Int)), false), ((a0 == (1 : Int)), false)]) (by kernel_rfl) (oY <| oY <| oT <| oF <| oF Ze) rfl (by decide) (by rfl) rr trivial
     ·
      exact Zt (r := (.r0 (false) : Zv)) (fu := 4000) (orc := (Zi [(0, false), (1, false), (2, true), (3, true), (4, false)] [] [] [] [])) (live := []) (u := vf) (bl := []) (ob := [((decide (a1 ≤ (512 : Int))), false), ((decide (a1 ≥ (0 : Int))), true), ((a0 == (3 : Int)), true), ((a0 == (2 : Int)), false), ((a0 == (1 : Int)), false)]) (by kernel_rfl) (oN <| oY <| oT <| oF <| oF Ze) rfl (by decide) (by rfl) rr trivial
    ·
     exact Zt (r := (.r0 (false) : Zv)) (fu := 4000) (orc := (Zi [(0, false), (1, false), (2, true), (3, false)] [] [] [] [])) (live := []) (u := vf) (bl := []) (ob := [((decide (a1 ≥ (0 : Int))), false), ((a0 == (3 : Int)), true), ((a0 == (2 : Int)), false), ((a0 == (1 : Int)), false)]) (by kernel_rfl) (oN <| oT <| oF <| oF Ze) rfl (by decide) (by rfl) rr trivial
   ·
    refine Zy (fun g3 => ?_) (fun g3 => ?_)
    ·
     refine Zy (fun g4 => ?_) (fun g4 => ?_)
     ·
      refine Zy (fun g5 => ?_) (fun g5 => ?_)
      ·
       exact Zt (r := (.r0 (true) : Zv)) (fu := 4000) (orc := (Zi [(0, false), (1, false), (2, false), (3, true), (4, true), (5, true)] [] [] [] [])) (live := []) (u := vT) (bl := []) (ob := [((decide (a1 < (16 : Int))), true), ((decide (a1 ≥ (0 : Int))), true), ((a0 == (4 : Int)), true), ((a0 == (3 : Int)), false), ((a0 == (2 : Int)), false), ((a0 == (1 : Int)), false)]) (by kernel_rfl) (oY <| oY <| oT <| oF <| oF <| oF Ze) rfl (by decide) (by rfl) rr trivial
      ·
       exact Zt (r := (.r0 (false) : Zv)) (fu := 4000) (orc := (Zi [(0, false), (1, false), (2, false), (3, true), (4, true), (5, false)] [] [] [] [])) (live := []) (u := vf) (bl := []) (ob := [((decide (a1 < (16 : Int))), false), ((decide (a1 ≥ (0 : Int))), true), ((a0 == (4 : Int)), true), ((a0 == (3 : Int)), false), ((a0 == (2 : Int)), false), ((a0 == (1 : Int)), false)]) (by kernel_rfl) (oN <| oY <| oT <| oF <| oF <| oF Ze) rfl (by decide) (by rfl) rr trivial
     ·
      exact Zt (r := (.r0 (false) : Zv)) (fu := 4000) (orc := (Zi [(0, false), (1, false), (2, false), (3, true), (4, false)] [] [] [] [])) (live := []) (u := vf) (bl := []) (ob := [((decide (a1 ≥ (0 : Int))), false), ((a0 == (4 : Int)), true), ((a0 == (3 : Int)), false), ((a0 == (2 : Int)), false), ((a0 == (1 : Int)), false)]) (by kernel_rfl) (oN <| oT <| oF <| oF <| oF Ze) rfl (by decide) (by rfl) rr trivial
    ·
     refine Zy (fun g4 => ?_) (fun g4 => ?_)
     ·
      refine Zy (fun g5 => ?_) (fun g5 => ?_)
      ·
       refine Zy (fun g6 => ?_) (fun g6 => ?_)
       ·
        exact Zt (r := (.r0 (true) : Zv)) (fu := 4000) (orc := (Zi [(0, false), (1, false), (2, false), (3, false), (4, true), (5, true), (6, true)] [] [] [] [])) (live := []) (u := vT) (bl := []) (ob := [((decide (a1 ≤ (16 : Int))), true), ((decide (a1 ≥ (1 : Int))), true), ((a0 == (5 : Int)), true), ((a0 == (4 : Int)), false), ((a0 == (3 : Int)), false), ((a0 == (2 : Int)), false), ((a0 == (1 : Int)), false)]) (by kernel_rfl) (oY <| oY <| oT <| oF <| oF <| oF <| oF Ze) rfl (by decide) (by rfl) rr trivial
       ·
        exact Zt (r := (.r0 (false) : Zv)) (fu := 4000) (orc := (Zi [(0, false), (1, false), (2, false), (3, false), (4, true), (5, true), (6, false)] [] [] [] [])) (live := []) (u := vf) (bl := []) (ob := [((decide (a1 ≤ (16 : Int))), false), ((decide (a1 ≥ (1 : Int))), true), ((a0 == (5 : Int)), true), ((a0 == (4 : Int)), false), ((a0 == (3 : Int)), false), ((a0 == (2 : Int)), false), ((a0 == (1 : Int)), false)]) (by kernel_rfl) (oN <| oY <| oT <| oF <| oF <| oF <| oF Ze) rfl (by decide) (by rfl) rr trivial
      ·
       exact Zt (r := (.r0 (false) : Zv)) (fu := 4000) (orc := (Zi [(0, false), (1, false), (2, false), (3, false), (4, true), (5, false)] [] [] [] [])) (live := []) (u := vf) (bl := []) (ob := [((decide (a1 ≥ (1 : Int))), false), ((a0 == (5 : Int)), true), ((a0 == (4 : Int)), false), ((a0 == (3 : Int)), false), ((a0 == (2 : Int)), false), ((a0 == (1 : Int)), false)]) (by kernel_rfl) (oN <| oT <| oF <| oF <| oF <| oF Ze) rfl (by decide) (by rfl) rr trivial
     ·
      refine Zy (fun g5 => ?_) (fun g5 => ?_)
      ·
       refine Zy (fun g6 => ?_) (fun g6 => ?_)
       ·
        refine Zy (fun g7 => ?_) (fun g7 => ?_)
        ·
         refine Zy (fun g8 => ?_) (fun g8 => ?_)
         ·
          refine Zy (fun g9 => ?_) (fun g9 => ?_)
          ·
           exact Zt (r := (.r0 (true) : Zv)) (fu := 4000) (orc := (Zi [(0, false), (1, false), (2, false), (3, false), (4, false), (5, true), (6, true), (7, true), (8, true), (9, true)] [(0, a2)] [] [] [(0, .sh (a2).toNat)])) (live := []) (u := vT) (bl := []) (ob := [((decide (a1 < (IntKind.i64.wrap ((1 : Int) * (2 ^ (a2).toNat : Int))))), true), (dP (a2 = Int.ofNat (a2).toNat ∧ (a2).toNat ≤ IntKind.i64.bits), true), ((IntKind.u64.wrap a2) == a2, true), ((decide (a1 ≥ (0 : Int))), true), ((decide (a2 ≤ (16 : Int))), true), ((decide (a2 ≥ (1 : Int))), true), ((a0 == (6 : Int)), true), ((a0 == (5 : Int)), false), ((a0 == (4 : Int)), false), ((a0 == (3 : Int)), false), ((a0 == (2 : Int)), false), ((a0 == (1 : Int)), false)]) (by kernel_rfl) (oY <| Zb (Zg ⟨by first | rfl | exact ZoB (by omega), show _ ≤ 64 from by omega⟩) <| Zb (beq_iff_eq.2 (ZoE ltA)) <| oY <| oY <| oY <| oT <| oF <| oF <| oF <| oF <| oF Ze) rfl (by decide) (by rfl) rr trivial
          ·
           exact Zt (r := (.r0 (false) : Zv)) (fu := 4000) (orc := (Zi [(0, false), (1, false), (2, false), (3, false), (4, false), (5, true), (6, true), (7, true), (8, true), (9, false)] [(0, a2)] [] [] [(0, .sh (a2).toNat)])) (live := []) (u := vf) (bl := []) (ob := [((decide (a1 < (IntKind.i64.wrap ((1 : Int) * (2 ^ (a2).toNat : Int))))), false), (dP (a2 = Int.ofNat (a2).toNat ∧ (a2).toNat ≤ IntKind.i64.bits), true), ((IntKind.u64.wrap a2) == a2, true), ((decide (a1 ≥ (0 : Int))), true), ((decide (a2 ≤ (16 : Int))), true), ((decide (a2 ≥ (1 : Int))), true), ((a0 == (6 : Int)), true), ((a0 == (5 : Int)), false), ((a0 == (4 : Int)), false), ((a0 == (3 : Int)), false), ((a0 == (2 : Int)), false), ((a0 == (1 : Int)), false)]) (by kernel_rfl) (oN <| Zb (Zg ⟨by first | rfl | exact ZoB (by omega), show _ ≤ 64 from by omega⟩) <| Zb (beq_iff_eq.2 (ZoE ltA)) <| oY <| oY <| oY <| oT <| oF <| oF <| oF <| oF <| oF Ze) rfl (by decide) (by rfl) rr trivial
         ·
          exact Zt (r := (.r0 (false) : Zv)) (fu := 4000) (orc := (Zi [(0, false), (1, false), (2, false), (3, false), (4, false), (5, true), (6, true), (7, true), (8, false)] [] [] [] [])) (live := []) (u := vf) (bl := []) (ob := [((decide (a1 ≥ (0 : Int))), false), ((decide (a2 ≤ (16 : Int))), true), ((decide (a2 ≥ (1 : Int))), true), ((a0 == (6 : Int)), true), ((a0 == (5 : Int)), false), ((a0 == (4 : Int)), false), ((a0 == (3 : Int)), false), ((a0 == (2 : Int)), false), ((a0 == (1 : Int)), false)]) (by kernel_rfl) (oN <| oY <| oY <| oT <| oF <| oF <| oF <| oF <| oF Ze) rfl (by decide) (by rfl) rr trivial
        ·
         exact Zt (r := (.r0 (false) : Zv)) (fu := 4000) (orc := (Zi [(0, false), (1, false), (2, false), (3, false), (4, false), (5, true), (6, true), (7, false)] [] [] [] [])) (live := []) (u := vf) (bl := []) (ob := [((decide (a2 ≤ (16 : Int))), false), ((decide (a2 ≥ (1 : Int))), true), ((a0 == (6 : Int)), true), ((a0 == (5 : Int)), false), ((a0 == (4 : Int)), false), ((a0 == (3 : Int)), false), ((a0 == (2 : Int)), false), ((a0 == (1 : Int)), false)]) (by kernel_rfl) (oN <| oY <| oT <| oF <| oF <| oF <| oF <| oF Ze) rfl (by decide) (by rfl) rr trivial
       ·
        exact Zt (r := (.r0 (false) : Zv)) (fu := 4000) (orc := (Zi [(0, false), (1, false), (2, false), (3, false), (4, false), (5, true), (6, false)] [] [] [] [])) (live := []) (u := vf) (bl := []) (ob := [((decide (a2 ≥ (1 : Int))), false), ((a0 == (6 : Int)), true), ((a0 == (5 : Int)), false), ((a0 == (4 : Int)), false), ((a0 == (3 : Int)), false), ((a0 == (2 : Int)), false), ((a0 == (1 : Int)), false)]) (by kernel_rfl) (oN <| oT <| oF <| oF <| oF <| oF <| oF Ze) rfl (by decide) (by rfl) rr trivial
      ·
       refine Zy (fun g6 => ?_) (fun g6 => ?_)
       ·
        exact Zt (r := (.r0 (true) : Zv)) (fu := 4000) (orc := (Zi [(0, false), (1, false), (2, false), (3, false), (4, false), (5, false), (6, true)] [] [] [] [])) (live := []) (u := vT) (bl := []) (ob := [((a1 == (0 : Int)), true), ((a0 == (6 : Int)), false), ((a0 == (5 : Int)), false), ((a0 == (4 : Int)), false), ((a0 == (3 : Int)), false), ((a0 == (2 : Int)), false), ((a0 == (1 : Int)), false)]) (by kernel_rfl) (oT <| oF <| oF <| oF <| oF <| oF <| oF Ze) rfl (by decide) (by rfl) rr trivial
       ·
        exact Zt (r := (.r0 (false) : Zv)) (fu := 4000) (orc := (Zi [(0, false), (1, false), (2, false), (3, false), (4, false), (5, false), (6, false)] [] [] [] [])) (live := []) (u := vf) (bl := []) (ob := [((a1 == (0 : Int)), false), ((a0 == (6 : Int)), false), ((a0 == (5 : Int)), false), ((a0 == (4 : Int)), false), ((a0 == (3 : Int)), false), ((a0 == (2 : Int)), false), ((a0 == (1 : Int)), false)]) (by kernel_rfl) (oF <| oF <| oF <| oF <| oF <| oF <| oF Ze) rfl (by decide) (by rfl) rr trivial

theorem ZlW (a0 a1 a2 : Int) (N : Nat) (r : Zv) (h : Zdz a0 a1 a2 N = some r) : LSpec Tryz.prog 74 #[vi a0, vi a1, vi a2] [] (ZkM a0 a1 a2 r) (ZjH a0 a1 a2 r) :=
 Zcs ZaC Tryz.func74 (by kernel_rfl) (by kernel_rfl) (fun r => by cases r <;> exact ZS _ rfl) (Znz a0 a1 a2 N) h

noncomputable def ZbD (a0 a1 a2 : Int) (w0 : Bool) (n : Nat) : ZaD := .call [] (Value.bool w0) [] 0
def Zbt (A : Array Value) (a0 a1 a2 : Int) (w0 : Bool) (n : Nat) : Prop := ZF Tryz.prog 74 A [] (Value.bool w0) [] n 0

theorem ZbE (A : Array Value) (a0 a1 a2 : Int) (w0 : Bool) (N : Nat) (h : Zdz a0 a1 a2 N = some (.r0 w0)) (n : Nat) (hA : A = #[vi a0, vi a1, vi a2]) (hnd : ([] : List Nat).Nodup) (hlt : ∀ k ∈ ([] : List Nat), k < n) : Zbt A a0 a1 a2 w0  n :=
 ZU hA (LSpec.callL (show LSpec Tryz.prog 74 #[vi a0, vi a1, vi a2] [] (Value.bool w0) [] from ZlW a0 a1 a2 N _ h) [] n [] rfl hnd hlt (show 0 ≤ 0 from by decide) (show ∀ j ∈ ([] : List Nat), j < 0 from by decide) (by rfl) trivial (by rfl) trivial trivial rfl rfl rfl rfl rfl)

noncomputable def Znl (a0 a1 a2 a3 : Int) : Zbs → Value
 | .r0 w0 => Value.bool w0
noncomputable def ZlX (a0 a1 a2 a3 : Int) : Zbs → List (Option AObj)
 | .r0 w0 => []

theorem ZpJ (a0 a1 a2 a3 : Int) (N : Nat) : Fx Tryz.prog Zw Tryz.f61 [] #[Value.agg #[vi a0, vi a1, vi a2, vi a3]] (Znl a0 a1 a2 a3) (ZlX a0 a1 a2 a3) (Zd0 a0 a1 a2 a3 N) := by
 unfold Zd0
 refine ZeU (fun z0 c0 => ?_)
 cases z0 with
 | r0 y0_0 y0_1 y0_2 y0_3 =>
  refine Zy (fun g1 => ?_) (fun g1 => ?_)
  ·
   subst g1
   refine ZeU (fun z2 c2 => ?_)
   cases z2 with
   | r0 y2_0 =>
    refine Zy (fun g3 => ?_) (fun g3 => ?_)
    ·
     subst g3
     refine ZeU (fun z4 c4 => ?_)
     cases z4 with
     | r0 y4_0 =>
      refine Zy (fun g5 => ?_) (fun g5 => ?_)
      ·
       subst g5
       refine ZeU (fun z6 c6 => ?_)
       cases z6 with
       | r0 y6_0 =>
        refine Zy (fun g7 => ?_) (fun g7 => ?_)
        ·
         subst g7
         exact Zt (r := (.r0 (true) : Zbs)) (fu := 4000) (orc := (Zi [] [] [] [] [(0, (Ze1 (a0)  y0_0 y0_1 y0_2 true  1)), (2, (ZbD (y0_0) (a1) ((0 : Int))  true  2)), (3, (ZbD (y0_1) (a2) ((0 : Int))  true  2)), (4, (ZbD (y0_2) (a3) (a2)  true  2))])) (live := []) (u := vT) (bl := []) (ob := [(dP (Zbt #[vi y0_2, vi a3, vi a2] (y0_2) (a3) (a2)  true  2), true), (dP (Zbt #[vi y0_1, vi a2, vq] (y0_1) (a2) ((0 : Int))  true  2), true), (dP (Zbt #[vi y0_0, vi a1, vq] (y0_0) (a1) ((0 : Int))  true  2), true), (dP (ZdC #[vi a0] (a0)  y0_0 y0_1 y0_2 true  1), true)]) (by kernel_rfl) (Zb (Zg (ZbE #[vi y0_2, vi a3, vi a2] (y0_2) (a3) (a2)  true N c6  2 rfl (by decide) (by decide))) <| Zb (Zg (ZbE #[vi y0_1, vi a2, vq] (y0_1) (a2) ((0 : Int))  true N c4  2 rfl (by decide) (by decide))) <| Zb (Zg (ZbE #[vi y0_0, vi a1, vq] (y0_0) (a1) ((0 : Int))  true N c2  2 rfl (by decide) (by decide))) <| Zb (Zg (Ze2 #[vi a0] (a0)  y0_0 y0_1 y0_2 true N c0  1 rfl (by decide) (by decide))) Ze) rfl (by decide) (by rfl) rr trivial
        ·
         obtain rfl : y6_0 = false := by simpa using g7
         exact Zt (r := (.r0 (false) : Zbs)) (fu := 4000) (orc := (Zi [] [] [] [] [(0, (Ze1 (a0)  y0_0 y0_1 y0_2 true  1)), (2, (ZbD (y0_0) (a1) ((0 : Int))  true  2)), (3, (ZbD (y0_1) (a2) ((0 : Int))  true  2)), (4, (ZbD (y0_2) (a3) (a2)  false  2))])) (live := []) (u := vf) (bl := []) (ob := [(dP (Zbt #[vi y0_2, vi a3, vi a2] (y0_2) (a3) (a2)  false  2), true), (dP (Zbt #[vi y0_1, vi a2, vq] (y0_1) (a2) ((0 : Int))  true  2), true), (dP (Zbt #[vi y0_0, vi a1, vq] (y0_0) (a1) ((0 : Int))  true  2), true), (dP (ZdC #[vi a0] (a0)  y0_0 y0_1 y0_2 true  1), true)]) (by kernel_rfl) (Zb (Zg (ZbE #[vi y0_2, vi a3, vi a2] (y0_2) (a3) (a2)  false N c6  2 rfl (by decide) (by decide))) <| Zb (Zg (ZbE #[vi y0_1, vi a2, vq] (y0_1) (a2) ((0 : Int))  true N c4  2 rfl (by decide) (by decide))) <| Zb (Zg (ZbE #[vi y0_0, vi a1, vq] (y0_0) (a1) ((0 : Int))  true N c2  2 rfl (by decide) (by decide))) <| Zb (Zg (Ze2 #[vi a0] (a0)  y0_0 y0_1 y0_2 true N c0  1 rfl (by decide) (by decide))) Ze) rfl (by decide) (by rfl) rr trivial
      ·
       obtain rfl : y4_0 = false := by simpa using g5
       exact Zt (r := (.r0 (false) : Zbs)) (fu := 4000) (orc := (Zi [] [] [] [] [(0, (Ze1 (a0)  y0_0 y0_1 y0_2 true  1)), (2, (ZbD (y0_0) (a1) ((0 : Int))  true  2)), (3, (ZbD (y0_1) (a2) ((0 : Int))  false  2))])) (live := []) (u := vf) (bl := []) (ob := [(dP (Zbt #[vi y0_1, vi a2, vq] (y0_1) (a2) ((0 : Int))  false  2), true), (dP (Zbt #[vi y0_0, vi a1, vq] (y0_0) (a1) ((0 : Int))  true  2), true), (dP (ZdC #[vi a0] (a0)  y0_0 y0_1 y0_2 true  1), true)]) (by kernel_rfl) (Zb (Zg (ZbE #[vi y0_1, vi a2, vq] (y0_1) (a2) ((0 : Int))  false N c4  2 rfl (by decide) (by decide))) <| Zb (Zg (ZbE #[vi y0_0, vi a1, vq] (y0_0) (a1) ((0 : Int))  true N c2  2 rfl (by decide) (by decide))) <| Zb (Zg (Ze2 #[vi a0] (a0)  y0_0 y0_1 y0_2 true N c0  1 rfl (by decide) (by decide))) Ze) rfl (by decide) (by rfl) rr trivial
    ·
     obtain rfl : y2_0 = false := by simpa using g3
     exact Zt (r := (.r0 (false) : Zbs)) (fu := 4000) (orc := (Zi [] [] [] [] [(0, (Ze1 (a0)  y0_0 y0_1 y0_2 true  1)), (2, (ZbD (y0_0) (a1) ((0 : Int))  false  2))])) (live := []) (u := vf) (bl := []) (ob := [(dP (Zbt #[vi y0_0, vi a1, vq] (y0_0) (a1) ((0 : Int))  false  2), true), (dP (ZdC #[vi a0] (a0)  y0_0 y0_1 y0_2 true  1), true)]) (by kernel_rfl) (Zb (Zg (ZbE #[vi y0_0, vi a1, vq] (y0_0) (a1) ((0 : Int))  false N c2  2 rfl (by decide) (by decide))) <| Zb (Zg (Ze2 #[vi a0] (a0)  y0_0 y0_1 y0_2 true N c0  1 rfl (by decide) (by decide))) Ze) rfl (by decide) (by rfl) rr trivial
  ·
   obtain rfl : y0_3 = false := by simpa using g1
   exact Zt (r := (.r0 (false) : Zbs)) (fu := 4000) (orc := (Zi [] [] [] [] [(0, (Ze1 (a0)  y0_0 y0_1 y0_2 false  1))])) (live := []) (u := vf) (bl := []) (ob := [(dP (ZdC #[vi a0] (a0)  y0_0 y0_1 y0_2 false  1), true)]) (by kernel_rfl) (Zb (Zg (Ze2 #[vi a0] (a0)  y0_0 y0_1 y0_2 false N c0  1 rfl (by decide) (by decide))) Ze) rfl (by decide) (by rfl) rr trivial

theorem Zn0 (a0 a1 a2 a3 : Int) (N : Nat) (r : Zbs) (h : Zd0 a0 a1 a2 a3 N = some r) : LSpec Tryz.prog 61 #[Value.agg #[vi a0, vi a1, vi a2, vi a3]] [] (Znl a0 a1 a2 a3 r) (ZlX a0 a1 a2 a3 r) :=
 Zcs ZaC Tryz.func61 (by kernel_rfl) (by kernel_rfl) (fun r => by cases r <;> exact ZS _ rfl) (ZpJ a0 a1 a2 a3 N) h

noncomputable def Zbw (a0 a1 a2 a3 : Int) (w0 : Bool) (n : Nat) : ZaD := .call [] (Value.bool w0) [] 0
def Zbn (A : Array Value) (a0 a1 a2 a3 : Int) (w0 : Bool) (n : Nat) : Prop := ZF Tryz.prog 61 A [] (Value.bool w0) [] n 0

theorem Zbx (A : Array Value) (a0 a1 a2 a3 : Int) (w0 : Bool) (N : Nat) (h : Zd0 a0 a1 a2 a3 N = some (.r0 w0)) (n : Nat) (hA : A = #[Value.agg #[vi a0, vi a1, vi a2, vi a3]]) (hnd : ([] : List Nat).Nodup) (hlt : ∀ k ∈ ([] : List Nat), k < n) : Zbn A a0 a1 a2 a3 w0  n :=
 ZU hA (LSpec.callL (show LSpec Tryz.prog 61 #[Value.agg #[vi a0, vi a1, vi a2, vi a3]] [] (Value.bool w0) [] from Zn0 a0 a1 a2 a3 N _ h) [] n [] rfl hnd hlt (show 0 ≤ 0 from by decide) (show ∀ j ∈ ([] : List Nat), j < 0 from by decide) (by rfl) trivial (by rfl) trivial trivial rfl rfl rfl rfl rfl)

noncomputable def ZiH (L0 : List R_ii) (a1 a2 a3 a4 a5 : Int) : Z7 → Value
 | .r0 w1 => Value.tuple #[vs 0 0 L0.length L0.length, Value.bool w1]
 | .r1 w1 => Value.tuple #[vs 1 0 w1.length w1.length, vT]
 | .r2 => Value.tuple #[vs 1 0 (L0.take (L0.length - 1)).length (L0.take (L0.length - 1)).length, vT]
noncomputable def ZhX (L0 : List R_ii) (a1 a2 a3 a4 a5 : Int) : Z7 → List (Option AObj)
 | .r0 w1 => [some (.cells (Zd E_ii L0) 104)]
 | .r1 w1 => [some (.cells (Zd E_ii L0) 104), some (.cells (Zd E_ii w1) 104)]
 | .r2 => [none, some (.cells (Zd E_ii (L0.take (L0.length - 1))) 104)]

theorem ZlY (L0 : List R_ii) (a1 a2 a3 a4 a5 : Int) (N : Nat) : Fx Tryz.prog Zw Tryz.f60 [.cells (Zd E_ii L0) 104] #[vs 0 0 L0.length L0.length, Value.agg #[vi a1, vi a2, vi a3, vi a4], vi a5] (ZiH L0 a1 a2 a3 a4 a5) (ZhX L0 a1 a2 a3 a4 a5) (Zca L0 a1 a2 a3 a4 a5 N) := by
 unfold Zca
 refine Zy (fun g0 => ?_) (fun g0 => ?_)
 ·
  refine Zy (fun g1 => ?_) (fun g1 => ?_)
  ·
   exact Zt (r := (.r0 (false) : Z7)) (fu := 4000) (orc := (Zi [(0, true), (1, true)] [] [] [] [])) (live := [0]) (u := Value.tuple #[vs 0 0 L0.length L0.length, vf]) (bl := [some (.cells (Zd E_ii L0) 104)]) (ob := [((decide ((L0.length : Int) ≥ (8 : Int))), true), ((a1 == (15 : Int)), true)]) (by kernel_rfl) (oY <| oT Ze) rfl (by decide) (by rfl) rr ⟨(Zh (E := E_ii) (α := R_ii) _ L0 _), trivial⟩
  ·
   refine Zy (fun g2 => ?_) (fun g2 => ?_)
   ·
    exact Zt (r := (.r1 (([(⟨a5, (0 : Int)⟩ : R_ii)] : List R_ii)) : Z7)) (fu := 4000) (orc := (Zi [(0, true), (1, false)] [] [] [] [(0, .ap0)])) (live := [0, 4]) (u := Value.tuple #[vs 4 0 1 1, vT]) (bl := [some (.cells (Zd E_ii L0) 104), some (.cells [vi a5, vq] 104)]) (ob := [(dP (0 = L0.length ∧ Zs (L0.length * 2) (List.drop 0 (Zd E_ii L0)) = some [] ∧ Z8 ZaK [] = true), true), ((decide ((L0.length : Int) ≥ (8 : Int))), false), ((a1 == (15 : Int)), true)]) (by kernel_rfl) (Zb (Zg ⟨by omega, by rw [show L0.length = 0 by omega]; rfl, rfl⟩) <| oN <| oT Ze) rfl (by decide) (by rfl) ⟨Eq.trans (show (Value.tuple #[vs 1 0 ([(⟨a5, (0 : Int)⟩ : R_ii)] : List R_ii).length ([(⟨a5, (0 : Int)⟩ : R_ii)] : List R_ii).length, vT] : Value) = Value.tuple #[vs 1 0 1 1, vT] from (ZgV (Za (Zbe rfl eqA eqA) (Za rfl rfl)))) (by rfl), by rfl⟩ ⟨(Zh (E := E_ii) (α := R_ii) _ L0 _), ⟨(ZcL (E := E_ii) _ (L := ([(⟨a5, (0 : Int)⟩ : R_ii)] : List R_ii)) _ (show ([vi a5, vq] : List Value) = Zd E_ii ([(⟨a5, (0 : Int)⟩ : R_ii)] : List R_ii) from rfl)), trivial⟩⟩
   ·
    exact Zt (r := (.r1 ((L0 ++ ([(⟨a5, (0 : Int)⟩ : R_ii)] : List R_ii))) : Z7)) (fu := 4000) (orc := (Zi [(0, true), (1, false)] [] [] [] [(0, .ap L0.length (Zd E_ii L0) (Zd E_ii L0)), (1, .ap 1 [vi a5, vq] (Zd E_ii (L0 ++ ([(⟨a5, (0 : Int)⟩ : R_ii)] : List R_ii))))])) (live := [0, 5]) (u := Value.tuple #[vs 5 0 ((0 + L0.length) + 1) ((0 + L0.length) + 1), vT]) (bl := [some (.cells (Zd E_ii L0) 104), some (.cells (Zd E_ii (L0 ++ ([(⟨a5, (0 : Int)⟩ : R_ii)] : List R_ii))) 104)]) (ob := [(dP ((1 = 1 ∧ Zs (1 * 2) (List.drop 0 [vi a5, vq]) = some [vi a5, vq] ∧ Z8 ZaK [vi a5, vq] = true) ∧ 0 < 1 ∧ 1 ≤ 100000 ∧ (0 + L0.length) < (0 + L0.length) + 1 ∧ (0 + L0.length) ≤ 100000 ∧ (0 + L0.length) * 2 ≤ (List.length (Zd E_ii L0)) ∧ List.take ((0 + L0.length) * 2) (Zd E_ii L0) ++ [vi a5, vq] = (Zd E_ii (L0 ++ ([(⟨a5, (0 : Int)⟩ : R_ii)] : List R_ii)))), true), (dP ((L0.length = L0.length ∧ Zs (L0.length * 2) (List.drop 0 (Zd E_ii L0)) = some (Zd E_ii L0) ∧ Z8 ZaK (Zd E_ii L0) = true) ∧ 0 < L0.length ∧ L0.length ≤ 100000 ∧ 0 < 0 + L0.length ∧ 0 ≤ 100000 ∧ 0 * 2 ≤ (List.length []) ∧ List.take (0 * 2) [] ++ (Zd E_ii L0) = (Zd E_ii L0)), true), ((decide ((L0.length : Int) ≥ (8 : Int))), false), ((a1 == (15 : Int)), true)]) (by kernel_rfl) (Zb (Zg ⟨⟨rfl, ⟨rfl, rfl⟩⟩, by omega, by omega, ltA, by omega, (Zdx (E := E_ii) (L := L0) (M := ([(⟨a5, (0 : Int)⟩ : R_ii)] : List R_ii)) (n := (0 + L0.length)) (show _ = _ * 2 from rfl) (by omega) (R := (L0 ++ ([(⟨a5, (0 : Int)⟩ : R_ii)] : List R_ii))) (by rw [List.take_of_length_le (by omega)]))⟩) <| Zb (Zg ⟨⟨rfl, (Zqg (E := E_ii) (L := L0) (a := 0) (n := L0.length) (by omega) (by show _ = _ * 2; omega) (show _ = _ * 2 from rfl) (by rw [List.drop_zero, List.take_of_length_le (by omega)]))⟩, by omega, by omega, ltA, by omega, (Zdx (E := E_ii) (L := ([] : List R_ii)) (M := L0) (n := 0) (show _ = _ * 2 from rfl) ltA (R := L0) (by rw [List.take_of_length_le ltA]; rfl))⟩) <| oN <| oT Ze) rfl (by decide) (by rfl) ⟨Eq.trans (show (Value.tuple #[vs 1 0 (L0 ++ ([(⟨a5, (0 : Int)⟩ : R_ii)] : List R_ii)).length (L0 ++ ([(⟨a5, (0 : Int)⟩ : R_ii)] : List R_ii)).length, vT] : Value) = Value.tuple #[vs 1 0 ((0 + L0.length) + 1) ((0 + L0.length) + 1), vT] from (ZgV (Za (Zbe rfl eqA eqA) (Za rfl rfl)))) (by rfl), by rfl⟩ ⟨(Zh (E := E_ii) (α := R_ii) _ L0 _), ⟨(Zh (E := E_ii) (α := R_ii) _ (L0 ++ ([(⟨a5, (0 : Int)⟩ : R_ii)] : List R_ii)) _), trivial⟩⟩
 ·
  refine Zy (fun g1 => ?_) (fun g1 => ?_)
  ·
   refine Zy (fun g2 => ?_) (fun g2 => ?_)
   ·
    exact Zt (r := (.r0 (false) : Z7)) (fu := 4000) (orc := (Zi [(0, false), (1, true), (2, true)] [] [] [] [])) (live := [0]) (u := Value.tuple #[vs 0 0 L0.length L0.length, vf]) (bl := [some (.cells (Zd E_ii L0) 104)]) (ob := [(((L0.length : Int) == (0 : Int)), true), ((a1 == (16 : Int)), true), ((a1 == (15 : Int)), false)]) (by kernel_rfl) (oT <| oT <| oF Ze) rfl (by decide) (by rfl) rr ⟨(Zh (E := E_ii) (α := R_ii) _ L0 _), trivial⟩
   ·
    refine Zy (fun g3 => ?_) (fun g3 => ?_)
    ·
     refine Zy (fun g4 => ?_) (fun g4 => ?_)
     ·
      exact Zt (r := (.r0 (false) : Z7)) (fu := 4000) (orc := (Zi [(0, false), (1, true), (2, false), (3, true)] [(0, (((L0.length - 1) : Nat) : Int))] [(0, (L0.length - 1))] [(1, [.i (L0.getD (L0.length - 1) R_ii.z).a1])] [])) (live := [0]) (u := Value.tuple #[vs 0 0 L0.length L0.length, vf]) (bl := [some (.cells (Zd E_ii L0) 104)]) (ob := [(((L0.getD (L0.length - 1) R_ii.z).a1 == (1 : Int)), true), (ZC (Zs 1 (List.drop ((0 + ((L0.length - 1) * 2)) + 1) (Zd E_ii L0))) [.i (L0.getD (L0.length - 1) R_ii.z).a1], true), (Nat.blt (L0.length - 1) L0.length, true), ((((L0.length - 1) : Nat) : Int) == Int.ofNat (L0.length - 1), true), ((IntKind.i64.wrap ((L0.length : Int) - (1 : Int))) == (((L0.length - 1) : Nat) : Int), true), (((L0.length : Int) == (0 : Int)), false), ((a1 == (16 : Int)), true), ((a1 == (15 : Int)), false)]) (by kernel_rfl) (oT <| Zb (Zq (E := E_ii) (L := L0) (i := (L0.length - 1)) (q := 1) (by omega) (show ((0 + ((L0.length - 1) * 2)) + 1) = (L0.length - 1) * 2 + 1 from by omega) (show 1 + 1 ≤ 2 from by decide) rfl rfl) <| oB <| oI <| Zb (beq_iff_eq.2 ((wrap_i64 ltA).trans (by first | rfl | omega))) <| oF <| oT <| oF Ze) rfl (by decide) (by rfl) rr ⟨(Zh (E := E_ii) (α := R_ii) _ L0 _), trivial⟩
     ·
      refine Zy (fun g5 => ?_) (fun g5 => ?_)
      ·
       exact Zt (r := (.r1 (([(⟨(L0.getD (L0.length - 1) R_ii.z).a0, (1 : Int)⟩ : R_ii)] : List R_ii)) : Z7)) (fu := 4000) (orc := (Zi [(0, false), (1, true), (2, false), (3, false)] [(0, (((L0.length - 1) : Nat) : Int)), (1, (((L0.length - 1) : Nat) : Int)), (2, (((L0.length - 1) : Nat) : Int))] [(0, (L0.length - 1)), (1, (L0.length - 1))] [(1, [.i (L0.getD (L0.length - 1) R_ii.z).a1]), (2, [.i (L0.getD (L0.length - 1) R_ii.z).a0])] [(0, .sl 0 (L0.length - 1)), (1, .ap0)])) (live := [0, 4]) (u := Value.tuple #[vs 4 0 1 1, vT]) (bl := [some (.cells (Zd E_ii L0) 104), some (.cells [vi (L0.getD (L0.length - 1) R_ii.z).a0, vi (1 : Int)] 104)]) (ob := [(ZC (Zs 1 (List.drop ((0 + ((L0.length - 1) * 2)) + 0) (Zd E_ii L0))) [.i (L0.getD (L0.length - 1) R_ii.z).a0], true), (Nat.blt (L0.length - 1) L0.length, true), ((((L0.length - 1) : Nat) : Int) == Int.ofNat (L0.length - 1), true), ((IntKind.i64.wrap ((L0.length : Int) - (1 : Int))) == (((L0.length - 1) : Nat) : Int), true), (dP (0 = ((L0.length - 1) - 0) ∧ Zs (((L0.length - 1) - 0) * 2) (List.drop (0 + (0 * 2)) (Zd E_ii L0)) = some [] ∧ Z8 ZaK [] = true), true), (dP (0 ≤ (L0.length - 1) ∧ (L0.length - 1) ≤ L0.length), true), ((((L0.length - 1) : Nat) : Int) == Int.ofNat (L0.length - 1), true), (dS 0, true), ((IntKind.i64.wrap ((L0.length : Int) - (1 : Int))) == (((L0.length - 1) : Nat) : Int), true), (((L0.getD (L0.length - 1) R_ii.z).a1 == (1 : Int)), false), (ZC (Zs 1 (List.drop ((0 + ((L0.length - 1) * 2)) + 1) (Zd E_ii L0))) [.i (L0.getD (L0.length - 1) R_ii.z).a1], true), (Nat.blt (L0.length - 1) L0.length, true), ((((L0.length - 1) : Nat) : Int) == Int.ofNat (L0.length - 1), true), ((IntKind.i64.wrap ((L0.length : Int) - (1 : Int))) == (((L0.length - 1) : Nat) : Int), true), (((L0.length : Int) == (0 : Int)), false), ((a1 == (16 : Int)), true), ((a1 == (15 : Int)), false)]) (by kernel_rfl) (Zb (Zq (E := E_ii) (L := L0) (i := (L0.length - 1)) (q := 0) (by omega) (show ((0 + ((L0.length - 1) * 2)) + 0) = (L0.length - 1) * 2 + 0 from by omega) (show 0 + 1 ≤ 2 from by decide) rfl rfl) <| oB <| oI <| Zb (beq_iff_eq.2 ((wrap_i64 ltA).trans (by first | rfl | omega))) <| Zb (Zg ⟨by omega, by rw [show ((L0.length - 1) - 0) = 0 by omega]; rfl, rfl⟩) <| Zb (Zg ⟨ltA, ltA⟩) <| oI <| oR <| Zb (beq_iff_eq.2 ((wrap_i64 ltA).trans (by first | rfl | omega))) <| oF <| Zb (Zq (E := E_ii) (L := L0) (i := (L0.length - 1)) (q := 1) (by omega) (show ((0 + ((L0.length - 1) * 2)) + 1) = (L0.length - 1) * 2 + 1 from by omega) (show 1 + 1 ≤ 2 from by decide) rfl rfl) <| oB <| oI <| Zb (beq_iff_eq.2 ((wrap_i64 ltA).trans (by first | rfl | omega))) <| oF <| oT <| oF Ze) rfl (by decide) (by rfl) ⟨Eq.trans (show (Value.tuple #[vs 1 0 ([(⟨(L0.getD (L0.length - 1) R_ii.z).a0, (1 : Int)⟩ : R_ii)] : List R_ii).length ([(⟨(L0.getD (L0.length - 1) R_ii.z).a0, (1 : Int)⟩ : R_ii)] : List R_ii).length, vT] : Value) = Value.tuple #[vs 1 0 1 1, vT] from (ZgV (Za (Zbe rfl eqA eqA) (Za rfl rfl)))) (by rfl), by rfl⟩ ⟨(Zh (E := E_ii) (α := R_ii) _ L0 _), ⟨(ZcL (E := E_ii) _ (L := ([(⟨(L0.getD (L0.length - 1) R_ii.z).a0, (1 : Int)⟩ : R_ii)] : List R_ii)) _ (show ([vi (L0.getD (L0.length - 1) R_ii.z).a0, vi (1 : Int)] : List Value) = Zd E_ii ([(⟨(L0.getD (L0.length - 1) R_ii.z).a0, (1 : Int)⟩ : R_ii)] : List R_ii) from rfl)), trivial⟩⟩
      ·
       refine Zy (fun g6 => ?_) (fun g6 => ?_)
       ·
        exact Zt (r := (.r1 (((L0.take ((L0.length - 1) - 0)) ++ ([(⟨(L0.getD (L0.length - 1) R_ii.z).a0, (1 : Int)⟩ : R_ii)] : List R_ii))) : Z7)) (fu := 4000) (orc := (Zi [(0, false), (1, true), (2, false), (3, false)] [(0, (((L0.length - 1) : Nat) : Int)), (1, (((L0.length - 1) : Nat) : Int)), (2, (((L0.length - 1) : Nat) : Int))] [(0, (L0.length - 1)), (1, (L0.length - 1))] [(1, [.i (L0.getD (L0.length - 1) R_ii.z).a1]), (2, [.i (L0.getD (L0.length - 1) R_ii.z).a0])] [(0, .sl 0 (L0.length - 1)), (1, .ap ((L0.length - 1) - 0) (Zd E_ii (L0.take ((L0.length - 1) - 0))) (Zd E_ii (L0.take ((L0.length - 1) - 0)))), (2, .ap 1 [vi (L0.getD (L0.length - 1) R_ii.z).a0, vi (1 : Int)] (Zd E_ii ((L0.take ((L0.length - 1) - 0)) ++ ([(⟨(L0.getD (L0.length - 1) R_ii.z).a0, (1 : Int)⟩ : R_ii)] : List R_ii))))])) (live := [0, 5]) (u := Value.tuple #[vs 5 0 ((0 + ((L0.length - 1) - 0)) + 1) ((0 + ((L0.length - 1) - 0)) + 1), vT]) (bl := [some (.cells (Zd E_ii L0) 104), some (.cells (Zd E_ii ((L0.take ((L0.length - 1) - 0)) ++ ([(⟨(L0.getD (L0.length - 1) R_ii.z).a0, (1 : Int)⟩ : R_ii)] : List R_ii))) 104)]) (ob := [(dP ((1 = 1 ∧ Zs (1 * 2) (List.drop 0 [vi (L0.getD (L0.length - 1) R_ii.z).a0, vi (1 : Int)]) = some [vi (L0.getD (L0.length - 1) R_ii.z).a0, vi (1 : Int)] ∧ Z8 ZaK [vi (L0.getD (L0.length - 1) R_ii.z).a0, vi (1 : Int)] = true) ∧ 0 < 1 ∧ 1 ≤ 100000 ∧ (0 + ((L0.length - 1) - 0)) < (0 + ((L0.length - 1) - 0)) + 1 ∧ (0 + ((L0.length - 1) - 0)) ≤ 100000 ∧ (0 + ((L0.length - 1) - 0)) * 2 ≤ (List.length (Zd E_ii (L0.take ((L0.length - 1) - 0)))) ∧ List.take ((0 + ((L0.length - 1) - 0)) * 2) (Zd E_ii (L0.take ((L0.length - 1) - 0))) ++ [vi (L0.getD (L0.length - 1) R_ii.z).a0, vi (1 : Int)] = (Zd E_ii ((L0.take ((L0.length - 1) - 0)) ++ ([(⟨(L0.getD (L0.length - 1) R_ii.z).a0, (1 : Int)⟩ : R_ii)] : List R_ii)))), true), (ZC (Zs 1 (List.drop ((0 + ((L0.length - 1) * 2)) + 0) (Zd E_ii L0))) [.i (L0.getD (L0.length - 1) R_ii.z).a0], true), (Nat.blt (L0.length - 1) L0.length, true), ((((L0.length - 1) : Nat) : Int) == Int.ofNat (L0.length - 1), true), ((IntKind.i64.wrap ((L0.length : Int) - (1 : Int))) == (((L0.length - 1) : Nat) : Int), true), (dP ((((L0.length - 1) - 0) = ((L0.length - 1) - 0) ∧ Zs (((L0.length - 1) - 0) * 2) (List.drop (0 + (0 * 2)) (Zd E_ii L0)) = some (Zd E_ii (L0.take ((L0.length - 1) - 0))) ∧ Z8 ZaK (Zd E_ii (L0.take ((L0.length - 1) - 0))) = true) ∧ 0 < ((L0.length - 1) - 0) ∧ ((L0.length - 1) - 0) ≤ 100000 ∧ 0 < 0 + ((L0.length - 1) - 0) ∧ 0 ≤ 100000 ∧ 0 * 2 ≤ (List.length []) ∧ List.take (0 * 2) [] ++ (Zd E_ii (L0.take ((L0.length - 1) - 0))) = (Zd E_ii (L0.take ((L0.length - 1) - 0)))), true), (dP (0 ≤ (L0.length - 1) ∧ (L0.length - 1) ≤ L0.length), true), ((((L0.length - 1) : Nat) : Int) == Int.ofNat (L0.length - 1), true), (dS 0, true), ((IntKind.i64.wrap ((L0.length : Int) - (1 : Int))) == (((L0.length - 1) : Nat) : Int), true), (((L0.getD (L0.length - 1) R_ii.z).a1 == (1 : Int)), false), (ZC (Zs 1 (List.drop ((0 + ((L0.length - 1) * 2)) + 1) (Zd E_ii L0))) [.i (L0.getD (L0.length - 1) R_ii.z).a1], true), (Nat.blt (L0.length - 1) L0.length, true), ((((L0.length - 1) : Nat) : Int) == Int.ofNat (L0.length - 1), true), ((IntKind.i64.wrap ((L0.length : Int) - (1 : Int))) == (((L0.length - 1) : Nat) : Int), true), (((L0.length : Int) == (0 : Int)), false), ((a1 == (16 : Int)), true), ((a1 == (15 : Int)), false)]) (by kernel_rfl) (Zb (Zg ⟨⟨rfl, ⟨rfl, rfl⟩⟩, by omega, by omega, ltA, by omega, (Zdx (E := E_ii) (L := (L0.take ((L0.length - 1) - 0))) (M := ([(⟨(L0.getD (L0.length - 1) R_ii.z).a0, (1 : Int)⟩ : R_ii)] : List R_ii)) (n := (0 + ((L0.length - 1) - 0))) (show _ = _ * 2 from rfl) ltA (R := ((L0.take ((L0.length - 1) - 0)) ++ ([(⟨(L0.getD (L0.length - 1) R_ii.z).a0, (1 : Int)⟩ : R_ii)] : List R_ii))) (by rw [List.take_of_length_le ltA]))⟩) <| Zb (Zq (E := E_ii) (L := L0) (i := (L0.length - 1)) (q := 0) (by omega) (show ((0 + ((L0.length - 1) * 2)) + 0) = (L0.length - 1) * 2 + 0 from by omega) (show 0 + 1 ≤ 2 from by decide) rfl rfl) <| oB <| oI <| Zb (beq_iff_eq.2 ((wrap_i64 ltA).trans (by first | rfl | omega))) <| Zb (Zg ⟨⟨rfl, (Zqg (E := E_ii) (L := L0) (a := 0) (n := ((L0.length - 1) - 0)) (by omega) (by show _ = _ * 2; omega) (show _ = _ * 2 from rfl) (by rw [List.drop_zero]))⟩, by omega, by omega, ltA, by omega, (Zdx (E := E_ii) (L := ([] : List R_ii)) (M := (L0.take ((L0.length - 1) - 0))) (n := 0) (show _ = _ * 2 from rfl) ltA (R := (L0.take ((L0.length - 1) - 0))) (by rw [List.take_of_length_le ltA]; rfl))⟩) <| Zb (Zg ⟨ltA, ltA⟩) <| oI <| oR <| Zb (beq_iff_eq.2 ((wrap_i64 ltA).trans (by first | rfl | omega))) <| oF <| Zb (Zq (E := E_ii) (L := L0) (i := (L0.length - 1)) (q := 1) (by omega) (show ((0 + ((L0.length - 1) * 2)) + 1) = (L0.length - 1) * 2 + 1 from by omega) (show 1 + 1 ≤ 2 from by decide) rfl rfl) <| oB <| oI <| Zb (beq_iff_eq.2 ((wrap_i64 ltA).trans (by first | rfl | omega))) <| oF <| oT <| oF Ze) rfl (by decide) (by rfl) ⟨Eq.trans (show (Value.tuple #[vs 1 0 ((L0.take ((L0.length - 1) - 0)) ++ ([(⟨(L0.getD (L0.length - 1) R_ii.z).a0, (1 : Int)⟩ : R_ii)] : List R_ii)).length ((L0.take ((L0.length - 1) - 0)) ++ ([(⟨(L0.getD (L0.length - 1) R_ii.z).a0, (1 : Int)⟩ : R_ii)] : List R_ii)).length, vT] : Value) = Value.tuple #[vs 1 0 ((0 + ((L0.length - 1) - 0)) + 1) ((0 + ((L0.length - 1) - 0)) + 1), vT] from (ZgV (Za (Zbe rfl eqA eqA) (Za rfl rfl)))) (by rfl), by rfl⟩ ⟨(Zh (E := E_ii) (α := R_ii) _ L0 _), ⟨(Zh (E := E_ii) (α := R_ii) _ ((L0.take ((L0.length - 1) - 0)) ++ ([(⟨(L0.getD (L0.length - 1) R_ii.z).a0, (1 : Int)⟩ : R_ii)] : List R_ii)) _), trivial⟩⟩
       ·
        exact ZeT
    ·
     exact ZeT
  ·
   refine Zy (fun g2 => ?_) (fun g2 => ?_)
   ·
    refine Zy (fun g3 => ?_) (fun g3 => ?_)
    ·
     exact Zt (r := (.r0 (false) : Z7)) (fu := 4000) (orc := (Zi [(0, false), (1, false), (2, true), (3, true)] [] [] [] [])) (live := [0]) (u := Value.tuple #[vs 0 0 L0.length L0.length, vf]) (bl := [some (.cells (Zd E_ii L0) 104)]) (ob := [(((L0.length : Int) == (0 : Int)), true), ((a1 == (17 : Int)), true), ((a1 == (16 : Int)), false), ((a1 == (15 : Int)), false)]) (by kernel_rfl) (oT <| oT <| oF <| oF Ze) rfl (by decide) (by rfl) rr ⟨(Zh (E := E_ii) (α := R_ii) _ L0 _), trivial⟩
    ·
     refine Zy (fun g4 => ?_) (fun g4 => ?_)
     ·
      exact Zt (r := (.r2 : Z7)) (fu := 4000) (orc := (Zi [(0, false), (1, false), (2, true), (3, false)] [(0, (((L0.length - 1) : Nat) : Int))] [] [] [(0, .cut (L0.length - 1) (Zd E_ii (L0.take (L0.length - 1))))])) (live := [0, 2]) (u := Value.tuple #[vs 2 0 (L0.length - 1) (L0.length - 1), vT]) (bl := [none, some (.cells (Zd E_ii (L0.take (L0.length - 1))) 104)]) (ob := [(dP ((L0.length - 1) ≤ L0.length ∧ 0 < 2 ∧ L0.length * 2 ≤ ((Zd E_ii L0) : List Value).length ∧ List.take ((L0.length - 1) * 2) (Zd E_ii L0) = (Zd E_ii (L0.take (L0.length - 1)))), true), ((((L0.length - 1) : Nat) : Int) == Int.ofNat (L0.length - 1), true), (dS 0, true), ((IntKind.i64.wrap ((L0.length : Int) - (1 : Int))) == (((L0.length - 1) : Nat) : Int), true), (((L0.length : Int) == (0 : Int)), false), ((a1 == (17 : Int)), true), ((a1 == (16 : Int)), false), ((a1 == (15 : Int)), false)]) (by kernel_rfl) (Zb (Zg ⟨ltA, by decide, Zr1 (E := E_ii) (L := L0) (by omega) (show _ = _ * 2 from rfl), Zsg (E := E_ii) (L := L0) (R := (L0.take (L0.length - 1))) (show _ = _ * 2 from rfl) rfl⟩) <| oI <| oR <| Zb (beq_iff_eq.2 ((wrap_i64 ltA).trans (by first | rfl | omega))) <| oF <| oT <| oF <| oF Ze) rfl (by decide) (by rfl) ⟨Eq.trans (show (Value.tuple #[vs 1 0 (L0.take (L0.length - 1)).length (L0.take (L0.length - 1)).length, vT] : Value) = Value.tuple #[vs 1 0 (L0.length - 1) (L0.length - 1), vT] from (ZgV (Za (Zbe rfl eqA eqA) (Za rfl rfl)))) (by rfl), by rfl⟩ ⟨(Zh (E := E_ii) (α := R_ii) _ (L0.take (L0.length - 1)) _), trivial⟩
     ·
      exact ZeT
   ·
    refine Zy (fun g3 => ?_) (fun g3 => ?_)
    ·
     refine Zy (fun g4 => ?_) (fun g4 => ?_)
     ·
      exact Zt (r := (.r0 (true) : Z7)) (fu := 4000) (orc := (Zi [(0, false), (1, false), (2, false), (3, true), (4, true)] [] [] [] [])) (live := [0]) (u := Value.tuple #[vs 0 0 L0.length L0.length, vT]) (bl := [some (.cells (Zd E_ii L0) 104)]) (ob := [((decide ((L0.length : Int) > (0 : Int))), true), ((a1 == (18 : Int)), true), ((a1 == (17 : Int)), false), ((a1 == (16 : Int)), false), ((a1 == (15 : Int)), false)]) (by kernel_rfl) (oY <| oT <| oF <| oF <| oF Ze) rfl (by decide) (by rfl) rr ⟨(Zh (E := E_ii) (α := R_ii) _ L0 _), trivial⟩
     ·
      exact Zt (r := (.r0 (false) : Z7)) (fu := 4000) (orc := (Zi [(0, false), (1, false), (2, false), (3, true), (4, false)] [] [] [] [])) (live := [0]) (u := Value.tuple #[vs 0 0 L0.length L0.length, vf]) (bl := [some (.cells (Zd E_ii L0) 104)]) (ob := [((decide ((L0.length : Int) > (0 : Int))), false), ((a1 == (18 : Int)), true), ((a1 == (17 : Int)), false), ((a1 == (16 : Int)), false), ((a1 == (15 : Int)), false)]) (by kernel_rfl) (oN <| oT <| oF <| oF <| oF Ze) rfl (by decide) (by rfl) rr ⟨(Zh (E := E_ii) (α := R_ii) _ L0 _), trivial⟩
    ·
     refine Zy (fun g4 => ?_) (fun g4 => ?_)
     ·
      refine Zy (fun g5 => ?_) (fun g5 => ?_)
      ·
       exact Zt (r := (.r0 (true) : Z7)) (fu := 4000) (orc := (Zi [(0, false), (1, false), (2, false), (3, false), (4, true), (5, true)] [] [] [] [])) (live := [0]) (u := Value.tuple #[vs 0 0 L0.length L0.length, vT]) (bl := [some (.cells (Zd E_ii L0) 104)]) (ob := [(((L0.length : Int) == (0 : Int)), true), ((a1 == (20 : Int)), true), ((a1 == (18 : Int)), false), ((a1 == (17 : Int)), false), ((a1 == (16 : Int)), false), ((a1 == (15 : Int)), false)]) (by kernel_rfl) (oT <| oT <| oF <| oF <| oF <| oF Ze) rfl (by decide) (by rfl) rr ⟨(Zh (E := E_ii) (α := R_ii) _ L0 _), trivial⟩
      ·
       exact Zt (r := (.r0 (false) : Z7)) (fu := 4000) (orc := (Zi [(0, false), (1, false), (2, false), (3, false), (4, true), (5, false)] [] [] [] [])) (live := [0]) (u := Value.tuple #[vs 0 0 L0.length L0.length, vf]) (bl := [some (.cells (Zd E_ii L0) 104)]) (ob := [(((L0.length : Int) == (0 : Int)), false), ((a1 == (20 : Int)), true), ((a1 == (18 : Int)), false), ((a1 == (17 : Int)), false), ((a1 == (16 : Int)), false), ((a1 == (15 : Int)), false)]) (by kernel_rfl) (oF <| oT <| oF <| oF <| oF <| oF Ze) rfl (by decide) (by rfl) rr ⟨(Zh (E := E_ii) (α := R_ii) _ L0 _), trivial⟩
     ·
      exact Zt (r := (.r0 (true) : Z7)) (fu := 4000) (orc := (Zi [(0, false), (1, false), (2, false), (3, false), (4, false)] [] [] [] [])) (live := [0]) (u := Value.tuple #[vs 0 0 L0.length L0.length, vT]) (bl := [some (.cells (Zd E_ii L0) 104)]) (ob := [((a1 == (20 : Int)), false), ((a1 == (18 : Int)), false), ((a1 == (17 : Int)), false), ((a1 == (16 : Int)), false), ((a1 == (15 : Int)), false)]) (by kernel_rfl) (oF <| oF <| oF <| oF <| oF Ze) rfl (by decide) (by rfl) rr ⟨(Zh (E := E_ii) (α := R_ii) _ L0 _), trivial⟩

theorem Zeu (L0 : List R_ii) (a1 a2 a3 a4 a5 : Int) (N : Nat) (r : Z7) (h : Zca L0 a1 a2 a3 a4 a5 N = some r) : LSpec Tryz.prog 60 #[vs 0 0 L0.length L0.length, Value.agg #[vi a1, vi a2, vi a3, vi a4], vi a5] [.cells (Zd E_ii L0) 104] (ZiH L0 a1 a2 a3 a4 a5 r) (ZhX L0 a1 a2 a3 a4 a5 r) :=
 Zcs ZaC Tryz.func60 (by kernel_rfl) (by kernel_rfl) (fun r => by cases r <;> exact ZS _ rfl) (ZlY L0 a1 a2 a3 a4 a5 N) h

noncomputable def Zej (L0 : List R_ii) (a1 a2 a3 a4 a5 : Int) (w1 : Bool) (k0 n : Nat) : ZaD := .call [(k0, .cells (Zd E_ii L0) 104)] (Value.tuple #[vs k0 0 L0.length L0.length, Value.bool w1]) [] 0
def Zdl (A : Array Value) (L0 : List R_ii) (a1 a2 a3 a4 a5 : Int) (w1 : Bool) (k0 n : Nat) : Prop := ZF Tryz.prog 60 A [(k0, .cells (Zd E_ii L0) 104)] (Value.tuple #[vs k0 0 L0.length L0.length, Value.bool w1]) [] n 0

theorem Zek (A : Array Value) (L0 : List R_ii) (a1 a2 a3 a4 a5 : Int) (w1 : Bool) (N : Nat) (h : Zca L0 a1 a2 a3 a4 a5 N = some (.r0 w1)) (k0 n : Nat) (hA : A = #[vs k0 0 L0.length L0.length, Value.agg #[vi a1, vi a2, vi a3, vi a4], vi a5]) (hnd : ([k0] : List Nat).Nodup) (hlt : ∀ k ∈ ([k0] : List Nat), k < n) : Zdl A L0 a1 a2 a3 a4 a5 w1 k0 n :=
 ZU hA (LSpec.callL (show LSpec Tryz.prog 60 #[vs 0 0 L0.length L0.length, Value.agg #[vi a1, vi a2, vi a3, vi a4], vi a5] [.cells (Zd E_ii L0) 104] (Value.tuple #[vs 0 0 L0.length L0.length, Value.bool w1]) [some (.cells (Zd E_ii L0) 104)] from Zeu L0 a1 a2 a3 a4 a5 N _ h) [k0] n [] rfl hnd hlt (show 1 ≤ 1 from by decide) (show ∀ j ∈ ([] : List Nat), j < 1 from by decide) (by rfl) ⟨(Z6 _ _ _), trivial⟩ (by rfl) ⟨(Z6 _ _ _), trivial⟩ ⟨.inr rfl, trivial⟩ rfl rfl rfl (Za (ZE rfl (Zae _ _ _)) rfl) rfl)

noncomputable def ZfH (L0 : List R_ii) (a1 a2 a3 a4 a5 : Int) (w1 : List R_ii) (k0 n : Nat) : ZaD := .call [(k0, .cells (Zd E_ii L0) 104)] (Value.tuple #[vs n 0 w1.length w1.length, vT]) [(n, some (.cells (Zd E_ii w1) 104))] 1
def Zel (A : Array Value) (L0 : List R_ii) (a1 a2 a3 a4 a5 : Int) (w1 : List R_ii) (k0 n : Nat) : Prop := ZF Tryz.prog 60 A [(k0, .cells (Zd E_ii L0) 104)] (Value.tuple #[vs n 0 w1.length w1.length, vT]) [(n, some (.cells (Zd E_ii w1) 104))] n 1

theorem ZfI (A : Array Value) (L0 : List R_ii) (a1 a2 a3 a4 a5 : Int) (w1 : List R_ii) (N : Nat) (h : Zca L0 a1 a2 a3 a4 a5 N = some (.r1 w1)) (k0 n : Nat) (hA : A = #[vs k0 0 L0.length L0.length, Value.agg #[vi a1, vi a2, vi a3, vi a4], vi a5]) (hnd : ([k0] : List Nat).Nodup) (hlt : ∀ k ∈ ([k0] : List Nat), k < n) : Zel A L0 a1 a2 a3 a4 a5 w1 k0 n :=
 ZU hA (LSpec.callL (show LSpec Tryz.prog 60 #[vs 0 0 L0.length L0.length, Value.agg #[vi a1, vi a2, vi a3, vi a4], vi a5] [.cells (Zd E_ii L0) 104] (Value.tuple #[vs 1 0 w1.length w1.length, vT]) [some (.cells (Zd E_ii L0) 104), some (.cells (Zd E_ii w1) 104)] from Zeu L0 a1 a2 a3 a4 a5 N _ h) [k0] n [1] rfl hnd hlt (show 1 ≤ 2 from by decide) (show ∀ j ∈ ([1] : List Nat), j < 2 from by decide) (by rfl) ⟨(Z6 _ _ _), trivial⟩ (by rfl) ⟨(Z6 _ _ _), ⟨(Z6 _ _ _), trivial⟩⟩ ⟨.inr rfl, ⟨(by decide), trivial⟩⟩ rfl rfl rfl (Za (ZE rfl (Zae _ _ _)) rfl) (Za (ZE rfl (ZbI (Zae _ _ _))) rfl))

noncomputable def ZfJ (L0 : List R_ii) (a1 a2 a3 a4 a5 : Int) (k0 n : Nat) : ZaD := .call [(k0, .cells (Zd E_ii L0) 104)] (Value.tuple #[vs n 0 (L0.take (L0.length - 1)).length (L0.take (L0.length - 1)).length, vT]) [(k0, none), (n, some (.cells (Zd E_ii (L0.take (L0.length - 1))) 104))] 1
def Zem (A : Array Value) (L0 : List R_ii) (a1 a2 a3 a4 a5 : Int) (k0 n : Nat) : Prop := ZF Tryz.prog 60 A [(k0, .cells (Zd E_ii L0) 104)] (Value.tuple #[vs n 0 (L0.take (L0.length - 1)).length (L0.take (L0.length - 1)).length, vT]) [(k0, none), (n, some (.cells (Zd E_ii (L0.take (L0.length - 1))) 104))] n 1

theorem ZfK (A : Array Value) (L0 : List R_ii) (a1 a2 a3 a4 a5 : Int) (N : Nat) (h : Zca L0 a1 a2 a3 a4 a5 N = some (.r2)) (k0 n : Nat) (hA : A = #[vs k0 0 L0.length L0.length, Value.agg #[vi a1, vi a2, vi a3, vi a4], vi a5]) (hnd : ([k0] : List Nat).Nodup) (hlt : ∀ k ∈ ([k0] : List Nat), k < n) : Zem A L0 a1 a2 a3 a4 a5 k0 n :=
 ZU hA (LSpec.callL (show LSpec Tryz.prog 60 #[vs 0 0 L0.length L0.length, Value.agg #[vi a1, vi a2, vi a3, vi a4], vi a5] [.cells (Zd E_ii L0) 104] (Value.tuple #[vs 1 0 (L0.take (L0.length - 1)).length (L0.take (L0.length - 1)).length, vT]) [none, some (.cells (Zd E_ii (L0.take (L0.length - 1))) 104)] from Zeu L0 a1 a2 a3 a4 a5 N _ h) [k0] n [0, 1] rfl hnd hlt (show 1 ≤ 2 from by decide) (show ∀ j ∈ ([0, 1] : List Nat), j < 2 from by decide) (by rfl) ⟨(Z6 _ _ _), trivial⟩ (by rfl) ⟨(Z6 _ _ _), trivial⟩ ⟨.inl (by decide), ⟨(by decide), trivial⟩⟩ rfl rfl rfl (Za (ZE rfl (Zae _ _ _)) rfl) (Za (ZE rfl rfl) (Za (ZE rfl (ZbI (Zae _ _ _))) rfl)))

noncomputable def ZiI (a0 a1 a2 a3 : Int) : Zbh → Value
 | .r0 w0 w1 => Value.tuple #[vi w0, Value.bool w1]
noncomputable def ZhY (a0 a1 a2 a3 : Int) : Zbh → List (Option AObj)
 | .r0 w0 w1 => []

theorem ZlZ (a0 a1 a2 a3 : Int) (N : Nat) : Fx Tryz.prog Zw Tryz.f62 [] #[Value.agg #[vi a0, vi a1, vi a2, vi a3]] (ZiI a0 a1 a2 a3) (ZhY a0 a1 a2 a3) (ZdN a0 a1 a2 a3 N) := by
 unfold ZdN
 refine Zy (fun g0 => ?_) (fun g0 => ?_)
 ·
  exact Zt (r := (.r0 (a1) (true) : Zbh)) (fu := 4000) (orc := (Zi [(0, true)] [] [] [] [])) (live := []) (u := Value.tuple #[vi a1, vT]) (bl := []) (ob := [((a0 == (8 : Int)), true)]) (by kernel_rfl) (oT Ze) rfl (by decide) (by rfl) rr trivial
 ·
  refine Zy (fun g1 => ?_) (fun g1 => ?_)
  ·
   exact Zt (r := (.r0 (a2) (true) : Zbh)) (fu := 4000) (orc := (Zi [(0, false), (1, true)] [] [] [] [])) (live := []) (u := Value.tuple #[vi a2, vT]) (bl := []) (ob := [((a0 == (9 : Int)), true), ((a0 == (8 : Int)), false)]) (by kernel_rfl) (oT <| oF Ze) rfl (by decide) (by rfl) rr trivial
  ·
   exact Zt (r := (.r0 ((0 : Int)) (false) : Zbh)) (fu := 4000) (orc := (Zi [(0, false), (1, false)] [] [] [] [])) (live := []) (u := Value.tuple #[vq, vf]) (bl := []) (ob := [((a0 == (9 : Int)), false), ((a0 == (8 : Int)), false)]) (by kernel_rfl) (oF <| oF Ze) rfl (by decide) (by rfl) rr trivial

theorem Zku (a0 a1 a2 a3 : Int) (N : Nat) (r : Zbh) (h : ZdN a0 a1 a2 a3 N = some r) : LSpec Tryz.prog 62 #[Value.agg #[vi a0, vi a1, vi a2, vi a3]] [] (ZiI a0 a1 a2 a3 r) (ZhY a0 a1 a2 a3 r) :=
 Zcs ZaC Tryz.func62 (by kernel_rfl) (by kernel_rfl) (fun r => by cases r <;> exact ZS _ rfl) (ZlZ a0 a1 a2 a3 N) h

noncomputable def Zen (a0 a1 a2 a3 w0 : Int) (w1 : Bool) (n : Nat) : ZaD := .call [] (Value.tuple #[vi w0, Value.bool w1]) [] 0
def Zdm (A : Array Value) (a0 a1 a2 a3 w0 : Int) (w1 : Bool) (n : Nat) : Prop := ZF Tryz.prog 62 A [] (Value.tuple #[vi w0, Value.bool w1]) [] n 0

theorem Zeo (A : Array Value) (a0 a1 a2 a3 w0 : Int) (w1 : Bool) (N : Nat) (h : ZdN a0 a1 a2 a3 N = some (.r0 w0 w1)) (n : Nat) (hA : A = #[Value.agg #[vi a0, vi a1, vi a2, vi a3]]) (hnd : ([] : List Nat).Nodup) (hlt : ∀ k ∈ ([] : List Nat), k < n) : Zdm A a0 a1 a2 a3 w0 w1  n :=
 ZU hA (LSpec.callL (show LSpec Tryz.prog 62 #[Value.agg #[vi a0, vi a1, vi a2, vi a3]] [] (Value.tuple #[vi w0, Value.bool w1]) [] from Zku a0 a1 a2 a3 N _ h) [] n [] rfl hnd hlt (show 0 ≤ 0 from by decide) (show ∀ j ∈ ([] : List Nat), j < 0 from by decide) (by rfl) trivial (by rfl) trivial trivial rfl rfl rfl rfl rfl)

noncomputable def ZjI (L0 : List RB) (a1 : Int) : Zai → Value
 | .r0 => vn
 | .r1 w1 => vs 1 0 w1.length w1.length
noncomputable def ZiJ (L0 : List RB) (a1 : Int) : Zai → List (Option AObj)
 | .r0 => [some (.cells (Zd Zf L0) 57)]
 | .r1 w1 => [some (.cells (Zd Zf L0) 57), some (.cells (Zd E_ii w1) 104)]

def Zn1 : ZH → Nat
 | .h1m0 v2 => 1
 | .h1m1 v2 v3 => 1
noncomputable def Zpa (L0 : List RB) (a1 : Int) : ZH → List (Nat × Value)
 | .h1m0 v2 => [(0, vs 0 0 L0.length L0.length), (1, vi a1), (5, vn), (6, vi (v2 : Int))]
 | .h1m1 v2 v3 => [(0, vs 0 0 L0.length L0.length), (1, vi a1), (5, vs 1 0 v2.length v2.length), (6, vi (v3 : Int))]
noncomputable def Zpb (L0 : List RB) (a1 : Int) : ZH → List (Option AObj)
 | .h1m0 v2 => [some (.cells (Zd Zf L0) 57)]
 | .h1m1 v2 v3 => [some (.cells (Zd Zf L0) 57), some (.cells (Zd E_ii v2) 104)]

noncomputable def Zc5 : Nat → Code × List Zaw
 | 1 => ZaQ [1, 1, 0, 1, 3] (Zb5 Tryz.f50) []
 | _ => (.skip, [])
def ZiK : Nat → Bool
 | 1 => true
 | _ => true
noncomputable def ZdS (i : Nat) : List Zaw := match ZiK i with | true => .rnd i :: (Zc5 i).2 | false => (Zc5 i).2

noncomputable def Zaj (L0 : List RB) (a1 : Int) (N : Nat) : Mach := ⟨Tryz.f50, [.cells (Zd Zf L0) 57], ZH, Zai, ZcN L0 a1 N, Zn1, Zc5, ZiK, Zpa L0 a1, Zpb L0 a1, ZjI L0 a1, ZiJ L0 a1⟩

theorem Zkv (L0 : List RB) (a1 : Int) (v2 N : Nat) : (Zaj L0 a1 N).Ok Tryz.prog Zw (.h1m0 v2 : ZH) (ZcN L0 a1 N (.h1m0 v2 : ZH)) := by
 show (Zaj L0 a1 N).Ok Tryz.prog Zw (.h1m0 v2 : ZH) (ZeD L0 a1 N v2)
 unfold ZeD
 refine Mach.ok_ite (fun g0 => ?_) (fun g0 => ?_)
 ·
  refine Mach.ok_ite (fun g1 => ?_) (fun g1 => ?_)
  ·
   refine Mach.ok_bind (fun z2 c2 => ?_)
   cases z2 with
   | r0 =>
    refine Mach.ok_ite (fun g3 => ?_) (fun g3 => ?_)
    ·
     exact Mach.ok_next (M := Zaj L0 a1 N) (cd := 1000000) (cm := 0) (y := (.h1m1 (([(⟨(v2 : Int), (0 : Int)⟩ : R_ii)] : List R_ii)) ((v2 + 1)) : ZH)) (fu := 4000) (orc := (Zi [(0, true), (1, true)] [(0, (((v2 + 1) : Nat) : Int))] [(0, v2)] [(0, [.i (L0.getD v2 RB.z).a0, .i (L0.getD v2 RB.z).a1, .i (L0.getD v2 RB.z).a2, .i (L0.getD v2 RB.z).a3])] [(0, (Zhf ((L0.getD v2 RB.z).a0) ((L0.getD v2 RB.z).a1) ((L0.getD v2 RB.z).a2) ((L0.getD v2 RB.z).a3) ((v2 : Int))    1))])) (live := [0, 1]) (tv := fun _ => [some (vs 0 0 L0.length L0.length), some (vi a1), some (vs 1 0 1 1), some (vi (((v2 + 1) : Nat) : Int))]) (bl := [some (.cells (Zd Zf L0) 57), some (.cells (Zd E_ii ([(⟨(v2 : Int), (0 : Int)⟩ : R_ii)] : List R_ii)) 104)]) (ob := [((IntKind.i64.wrap ((v2 : Int) + (1 : Int))) == (((v2 + 1) : Nat) : Int), true), (dP (Zf2 #[vn, Value.agg #[vi (L0.getD v2 RB.z).a0, vi (L0.getD v2 RB.z).a1, vi (L0.getD v2 RB.z).a2, vi (L0.getD v2 RB.z).a3], vi (v2 : Int)] ((L0.getD v2 RB.z).a0) ((L0.getD v2 RB.z).a1) ((L0.getD v2 RB.z).a2) ((L0.getD v2 RB.z).a3) ((v2 : Int))    1), true), (ZC (Zs 4 (List.drop (0 + (v2 * 4)) (Zd Zf L0))) [.i (L0.getD v2 RB.z).a0, .i (L0.getD v2 RB.z).a1, .i (L0.getD v2 RB.z).a2, .i (L0.getD v2 RB.z).a3], true), (Nat.blt v2 L0.length, true), ((v2 : Int) == Int.ofNat v2, true), ((decide ((v2 : Int) < (L0.length : Int))), true), ((decide ((v2 : Int) < a1)), true)]) rfl (show 1 ∈ Zx (ZdS 1) from by decide +kernel) (fun gv => by kernel_rfl) (Zb (beq_iff_eq.2 ((wrap_i64 ltA).trans (by first | rfl | omega))) <| Zb (Zg (Zhg #[vn, Value.agg #[vi (L0.getD v2 RB.z).a0, vi (L0.getD v2 RB.z).a1, vi (L0.getD v2 RB.z).a2, vi (L0.getD v2 RB.z).a3], vi (v2 : Int)] ((L0.getD v2 RB.z).a0) ((L0.getD v2 RB.z).a1) ((L0.getD v2 RB.z).a2) ((L0.getD v2 RB.z).a3) ((v2 : Int))   N c2  1 rfl (by decide) (by decide))) <| Zb (Zq (E := Zf) (L := L0) (i := v2) (q := 0) (by omega) (show (0 + (v2 * 4)) = v2 * 4 + 0 from by omega) (show 0 + 4 ≤ 4 from by decide) rfl rfl) <| oB <| oI <| oY <| oY Ze) rfl (by decide) (by rfl) (fun _ => ⟨rr, ⟨rr, ⟨⟨Eq.trans (show (vs 1 0 ([(⟨(v2 : Int), (0 : Int)⟩ : R_ii)] : List R_ii).length ([(⟨(v2 : Int), (0 : Int)⟩ : R_ii)] : List R_ii).length : Value) = vs 1 0 1 1 from (Zbe rfl eqA eqA)) (by rfl), by rfl⟩, ⟨rr, trivial⟩⟩⟩⟩) ⟨(Zh (E := Zf) (α := RB) _ L0 _), ⟨(Zh (E := E_ii) (α := R_ii) _ ([(⟨(v2 : Int), (0 : Int)⟩ : R_ii)] : List R_ii) _), trivial⟩⟩
    ·
     exact Mach.ok_none
   | r1 y2_0 =>
    refine Mach.ok_ite (fun g3 => ?_) (fun g3 => ?_)
    ·
     exact Mach.ok_next (M := Zaj L0 a1 N) (cd := 1000000) (cm := 0) (y := (.h1m0 ((v2 + 1)) : ZH)) (fu := 4000) (orc := (Zi [(0, true), (1, true)] [(0, (((v2 + 1) : Nat) : Int))] [(0, v2)] [(0, [.i (L0.getD v2 RB.z).a0, .i (L0.getD v2 RB.z).a1, .i (L0.getD v2 RB.z).a2, .i (L0.getD v2 RB.z).a3])] [(0, (Zf3 ((L0.getD v2 RB.z).a0) ((L0.getD v2 RB.z).a1) ((L0.getD v2 RB.z).a2) ((L0.getD v2 RB.z).a3) ((v2 : Int))  y2_0  1))])) (live := [0]) (tv := fun _ => [some (vs 0 0 L0.length L0.length), some (vi a1), some (vn), some (vi (((v2 + 1) : Nat) : Int))]) (bl := [some (.cells (Zd Zf L0) 57)]) (ob := [((IntKind.i64.wrap ((v2 : Int) + (1 : Int))) == (((v2 + 1) : Nat) : Int), true), (dP (ZdR #[vn, Value.agg #[vi (L0.getD v2 RB.z).a0, vi (L0.getD v2 RB.z).a1, vi (L0.getD v2 RB.z).a2, vi (L0.getD v2 RB.z).a3], vi (v2 : Int)] ((L0.getD v2 RB.z).a0) ((L0.getD v2 RB.z).a1) ((L0.getD v2 RB.z).a2) ((L0.getD v2 RB.z).a3) ((v2 : Int))  y2_0  1), true), (ZC (Zs 4 (List.drop (0 + (v2 * 4)) (Zd Zf L0))) [.i (L0.getD v2 RB.z).a0, .i (L0.getD v2 RB.z).a1, .i (L0.getD v2 RB.z).a2, .i (L0.getD v2 RB.z).a3], true), (Nat.blt v2 L0.length, true), ((v2 : Int) == Int.ofNat v2, true), ((decide ((v2 : Int) < (L0.length : Int))), true), ((decide ((v2 : Int) < a1)), true)]) rfl (show 1 ∈ Zx (ZdS 1) from by decide +kernel) (fun gv => by kernel_rfl) (Zb (beq_iff_eq.2 ((wrap_i64 ltA).trans (by first | rfl | omega))) <| Zb (Zg (Zf4 #[vn, Value.agg #[vi (L0.getD v2 RB.z).a0, vi (L0.getD v2 RB.z).a1, vi (L0.getD v2 RB.z).a2, vi (L0.getD v2 RB.z).a3], vi (v2 : Int)] ((L0.getD v2 RB.z).a0) ((L0.getD v2 RB.z).a1) ((L0.getD v2 RB.z).a2) ((L0.getD v2 RB.z).a3) ((v2 : Int))  y2_0 N c2  1 rfl (by decide) (by decide))) <| Zb (Zq (E := Zf) (L := L0) (i := v2) (q := 0) (by omega) (show (0 + (v2 * 4)) = v2 * 4 + 0 from by omega) (show 0 + 4 ≤ 4 from by decide) rfl rfl) <| oB <| oI <| oY <| oY Ze) rfl (by decide) (by rfl) (fun _ => ⟨rr, ⟨rr, ⟨rr, ⟨rr, trivial⟩⟩⟩⟩) ⟨(Zh (E := Zf) (α := RB) _ L0 _), trivial⟩
    ·
     exact Mach.ok_none
  ·
   exact Mach.ok_fin (M := Zaj L0 a1 N) (cd := 1000000) (cm := 0) (r := (.r0 : Zai)) (fu := 4000) (orc := (Zi [(0, true), (1, false)] [] [] [] [])) (live := [0]) (u := vn) (bl := [some (.cells (Zd Zf L0) 57)]) (ob := [((decide ((v2 : Int) < (L0.length : Int))), false), ((decide ((v2 : Int) < a1)), true)]) (fun gv => by kernel_rfl) (oN <| oY Ze) rfl (by decide) (by rfl) rr ⟨(Zh (E := Zf) (α := RB) _ L0 _), trivial⟩
 ·
  exact Mach.ok_fin (M := Zaj L0 a1 N) (cd := 1000000) (cm := 0) (r := (.r0 : Zai)) (fu := 4000) (orc := (Zi [(0, false)] [] [] [] [])) (live := [0]) (u := vn) (bl := [some (.cells (Zd Zf L0) 57)]) (ob := [((decide ((v2 : Int) < a1)), false)]) (fun gv => by kernel_rfl) (oN Ze) rfl (by decide) (by rfl) rr ⟨(Zh (E := Zf) (α := RB) _ L0 _), trivial⟩

theorem Zkw (L0 : List RB) (a1 : Int) (v2 : List R_ii) (v3 N : Nat) : (Zaj L0 a1 N).Ok Tryz.prog Zw (.h1m1 v2 v3 : ZH) (ZcN L0 a1 N (.h1m1 v2 v3 : ZH)) := by
 show (Zaj L0 a1 N).Ok Tryz.prog Zw (.h1m1 v2 v3 : ZH) (ZeE L0 a1 N v2 v3)
 unfold ZeE
 refine Mach.ok_ite (fun g0 => ?_) (fun g0 => ?_)
 ·
  refine Mach.ok_ite (fun g1 => ?_) (fun g1 => ?_)
  ·
   refine Mach.ok_bind (fun z2 c2 => ?_)
   cases z2 with
   | r0 y2_0 =>
    refine Mach.ok_ite (fun g3 => ?_) (fun g3 => ?_)
    ·
     exact Mach.ok_next (M := Zaj L0 a1 N) (cd := 1000000) (cm := 0) (y := (.h1m1 (v2) ((v3 + 1)) : ZH)) (fu := 4000) (orc := (Zi [(0, true), (1, true)] [(0, (((v3 + 1) : Nat) : Int))] [(0, v3)] [(0, [.i (L0.getD v3 RB.z).a0, .i (L0.getD v3 RB.z).a1, .i (L0.getD v3 RB.z).a2, .i (L0.getD v3 RB.z).a3])] [(0, (Zej (v2) ((L0.getD v3 RB.z).a0) ((L0.getD v3 RB.z).a1) ((L0.getD v3 RB.z).a2) ((L0.getD v3 RB.z).a3) ((v3 : Int))  y2_0 1 2))])) (live := [0, 1]) (tv := fun _ => [some (vs 0 0 L0.length L0.length), some (vi a1), some (vs 1 0 v2.length v2.length), some (vi (((v3 + 1) : Nat) : Int))]) (bl := [some (.cells (Zd Zf L0) 57), some (.cells (Zd E_ii v2) 104)]) (ob := [((IntKind.i64.wrap ((v3 : Int) + (1 : Int))) == (((v3 + 1) : Nat) : Int), true), (dP (Zdl #[vs 1 0 v2.length v2.length, Value.agg #[vi (L0.getD v3 RB.z).a0, vi (L0.getD v3 RB.z).a1, vi (L0.getD v3 RB.z).a2, vi (L0.getD v3 RB.z).a3], vi (v3 : Int)] (v2) ((L0.getD v3 RB.z).a0) ((L0.getD v3 RB.z).a1) ((L0.getD v3 RB.z).a2) ((L0.getD v3 RB.z).a3) ((v3 : Int))  y2_0 1 2), true), (dS (Zd E_ii v2), true), (ZC (Zs 4 (List.drop (0 + (v3 * 4)) (Zd Zf L0))) [.i (L0.getD v3 RB.z).a0, .i (L0.getD v3 RB.z).a1, .i (L0.getD v3 RB.z).a2, .i (L0.getD v3 RB.z).a3], true), (Nat.blt v3 L0.length, true), ((v3 : Int) == Int.ofNat v3, true), ((decide ((v3 : Int) < (L0.length : Int))), true), ((decide ((v3 : Int) < a1)), true)]) rfl (show 1 ∈ Zx (ZdS 1) from by decide +kernel) (fun gv => by kernel_rfl) (Zb (beq_iff_eq.2 ((wrap_i64 ltA).trans (by first | rfl | omega))) <| Zb (Zg (Zek #[vs 1 0 v2.length v2.length, Value.agg #[vi (L0.getD v3 RB.z).a0, vi (L0.getD v3 RB.z).a1, vi (L0.getD v3 RB.z).a2, vi (L0.getD v3 RB.z).a3], vi (v3 : Int)] (v2) ((L0.getD v3 RB.z).a0) ((L0.getD v3 RB.z).a1) ((L0.getD v3 RB.z).a2) ((L0.getD v3 RB.z).a3) ((v3 : Int))  y2_0 N c2 1 2 rfl (by decide) (by decide))) <| oR <| Zb (Zq (E := Zf) (L := L0) (i := v3) (q := 0) (by omega) (show (0 + (v3 * 4)) = v3 * 4 + 0 from by omega) (show 0 + 4 ≤ 4 from by decide) rfl rfl) <| oB <| oI <| oY <| oY Ze) rfl (by decide) (by rfl) (fun _ => ⟨rr, ⟨rr, ⟨rr, ⟨rr, trivial⟩⟩⟩⟩) ⟨(Zh (E := Zf) (α := RB) _ L0 _), ⟨(Zh (E := E_ii) (α := R_ii) _ v2 _), trivial⟩⟩
    ·
     exact Mach.ok_none
   | r1 y2_0 =>
    refine Mach.ok_ite (fun g3 => ?_) (fun g3 => ?_)
    ·
     exact Mach.ok_next (M := Zaj L0 a1 N) (cd := 1000000) (cm := 0) (y := (.h1m1 (y2_0) ((v3 + 1)) : ZH)) (fu := 4000) (orc := (Zi [(0, true), (1, true)] [(0, (((v3 + 1) : Nat) : Int))] [(0, v3)] [(0, [.i (L0.getD v3 RB.z).a0, .i (L0.getD v3 RB.z).a1, .i (L0.getD v3 RB.z).a2, .i (L0.getD v3 RB.z).a3])] [(0, (ZfH (v2) ((L0.getD v3 RB.z).a0) ((L0.getD v3 RB.z).a1) ((L0.getD v3 RB.z).a2) ((L0.getD v3 RB.z).a3) ((v3 : Int))  y2_0 1 2))])) (live := [0, 2]) (tv := fun _ => [some (vs 0 0 L0.length L0.length), some (vi a1), some (vs 2 0 y2_0.length y2_0.length), some (vi (((v3 + 1) : Nat) : Int))]) (bl := [some (.cells (Zd Zf L0) 57), some (.cells (Zd E_ii y2_0) 104)]) (ob := [((IntKind.i64.wrap ((v3 : Int) + (1 : Int))) == (((v3 + 1) : Nat) : Int), true), (dP (Zel #[vs 1 0 v2.length v2.length, Value.agg #[vi (L0.getD v3 RB.z).a0, vi (L0.getD v3 RB.z).a1, vi (L0.getD v3 RB.z).a2, vi (L0.getD v3 RB.z).a3], vi (v3 : Int)] (v2) ((L0.getD v3 RB.z).a0) ((L0.getD v3 RB.z).a1) ((L0.getD v3 RB.z).a2) ((L0.getD v3 RB.z).a3) ((v3 : Int))  y2_0 1 2), true), (dS (Zd E_ii v2), true), (ZC (Zs 4 (List.drop (0 + (v3 * 4)) (Zd Zf L0))) [.i (L0.getD v3 RB.z).a0, .i (L0.getD v3 RB.z).a1, .i (L0.getD v3 RB.z).a2, .i (L0.getD v3 RB.z).a3], true), (Nat.blt v3 L0.length, true), ((v3 : Int) == Int.ofNat v3, true), ((decide ((v3 : Int) < (L0.length : Int))), true), ((decide ((v3 : Int) < a1)), true)]) rfl (show 1 ∈ Zx (ZdS 1) from by decide +kernel) (fun gv => by kernel_rfl) (Zb (beq_iff_eq.2 ((wrap_i64 ltA).trans (by first | rfl | omega))) <| Zb (Zg (ZfI #[vs 1 0 v2.length v2.length, Value.agg #[vi (L0.getD v3 RB.z).a0, vi (L0.getD v3 RB.z).a1, vi (L0.getD v3 RB.z).a2, vi (L0.getD v3 RB.z).a3], vi (v3 : Int)] (v2) ((L0.getD v3 RB.z).a0) ((L0.getD v3 RB.z).a1) ((L0.getD v3 RB.z).a2) ((L0.getD v3 RB.z).a3) ((v3 : Int))  y2_0 N c2 1 2 rfl (by decide) (by decide))) <| oR <| Zb (Zq (E := Zf) (L := L0) (i := v3) (q := 0) (by omega) (show (0 + (v3 * 4)) = v3 * 4 + 0 from by omega) (show 0 + 4 ≤ 4 from by decide) rfl rfl) <| oB <| oI <| oY <| oY Ze) rfl (by decide) (by rfl) (fun _ => ⟨rr, ⟨rr, ⟨rr, ⟨rr, trivial⟩⟩⟩⟩) ⟨(Zh (E := Zf) (α := RB) _ L0 _), ⟨(Zh (E := E_ii) (α := R_ii) _ y2_0 _), trivial⟩⟩
    ·
     exact Mach.ok_none
   | r2 =>
    refine Mach.ok_ite (fun g3 => ?_) (fun g3 => ?_)
    ·
     exact Mach.ok_next (M := Zaj L0 a1 N) (cd := 1000000) (cm := 0) (y := (.h1m1 ((v2.take (v2.length - 1))) ((v3 + 1)) : ZH)) (fu := 4000) (orc := (Zi [(0, true), (1, true)] [(0, (((v3 + 1) : Nat) : Int))] [(0, v3)] [(0, [.i (L0.getD v3 RB.z).a0, .i (L0.getD v3 RB.z).a1, .i (L0.getD v3 RB.z).a2, .i (L0.getD v3 RB.z).a3])] [(0, (ZfJ (v2) ((L0.getD v3 RB.z).a0) ((L0.getD v3 RB.z).a1) ((L0.getD v3 RB.z).a2) ((L0.getD v3 RB.z).a3) ((v3 : Int))   1 2))])) (live := [0, 2]) (tv := fun _ => [some (vs 0 0 L0.length L0.length), some (vi a1), some (vs 2 0 (v2.take (v2.length - 1)).length (v2.take (v2.length - 1)).length), some (vi (((v3 + 1) : Nat) : Int))]) (bl := [some (.cells (Zd Zf L0) 57), some (.cells (Zd E_ii (v2.take (v2.length - 1))) 104)]) (ob := [((IntKind.i64.wrap ((v3 : Int) + (1 : Int))) == (((v3 + 1) : Nat) : Int), true), (dP (Zem #[vs 1 0 v2.length v2.length, Value.agg #[vi (L0.getD v3 RB.z).a0, vi (L0.getD v3 RB.z).a1, vi (L0.getD v3 RB.z).a2, vi (L0.getD v3 RB.z).a3], vi (v3 : Int)] (v2) ((L0.getD v3 RB.z).a0) ((L0.getD v3 RB.z).a1) ((L0.getD v3 RB.z).a2) ((L0.getD v3 RB.z).a3) ((v3 : Int))   1 2), true), (dS (Zd E_ii v2), true), (ZC (Zs 4 (List.drop (0 + (v3 * 4)) (Zd Zf L0))) [.i (L0.getD v3 RB.z).a0, .i (L0.getD v3 RB.z).a1, .i (L0.getD v3 RB.z).a2, .i (L0.getD v3 RB.z).a3], true), (Nat.blt v3 L0.length, true), ((v3 : Int) == Int.ofNat v3, true), ((decide ((v3 : Int) < (L0.length : Int))), true), ((decide ((v3 : Int) < a1)), true)]) rfl (show 1 ∈ Zx (ZdS 1) from by decide +kernel) (fun gv => by kernel_rfl) (Zb (beq_iff_eq.2 ((wrap_i64 ltA).trans (by first | rfl | omega))) <| Zb (Zg (ZfK #[vs 1 0 v2.length v2.length, Value.agg #[vi (L0.getD v3 RB.z).a0, vi (L0.getD v3 RB.z).a1, vi (L0.getD v3 RB.z).a2, vi (L0.getD v3 RB.z).a3], vi (v3 : Int)] (v2) ((L0.getD v3 RB.z).a0) ((L0.getD v3 RB.z).a1) ((L0.getD v3 RB.z).a2) ((L0.getD v3 RB.z).a3) ((v3 : Int))   N c2 1 2 rfl (by decide) (by decide))) <| oR <| Zb (Zq (E := Zf) (L := L0) (i := v3) (q := 0) (by omega) (show (0 + (v3 * 4)) = v3 * 4 + 0 from by omega) (show 0 + 4 ≤ 4 from by decide) rfl rfl) <| oB <| oI <| oY <| oY Ze) rfl (by decide) (by rfl) (fun _ => ⟨rr, ⟨rr, ⟨rr, ⟨rr, trivial⟩⟩⟩⟩) ⟨(Zh (E := Zf) (α := RB) _ L0 _), ⟨(Zh (E := E_ii) (α := R_ii) _ (v2.take (v2.length - 1)) _), trivial⟩⟩
    ·
     exact Mach.ok_none
  ·
   exact Mach.ok_fin (M := Zaj L0 a1 N) (cd := 1000000) (cm := 0) (r := (.r1 (v2) : Zai)) (fu := 4000) (orc := (Zi [(0, true), (1, false)] [] [] [] [])) (live := [0, 1]) (u := vs 1 0 v2.length v2.length) (bl := [some (.cells (Zd Zf L0) 57), some (.cells (Zd E_ii v2) 104)]) (ob := [((decide ((v3 : Int) < (L0.length : Int))), false), ((decide ((v3 : Int) < a1)), true)]) (fun gv => by kernel_rfl) (oN <| oY Ze) rfl (by decide) (by rfl) rr ⟨(Zh (E := Zf) (α := RB) _ L0 _), ⟨(Zh (E := E_ii) (α := R_ii) _ v2 _), trivial⟩⟩
 ·
  exact Mach.ok_fin (M := Zaj L0 a1 N) (cd := 1000000) (cm := 0) (r := (.r1 (v2) : Zai)) (fu := 4000) (orc := (Zi [(0, false)] [] [] [] [])) (live := [0, 1]) (u := vs 1 0 v2.length v2.length) (bl := [some (.cells (Zd Zf L0) 57), some (.cells (Zd E_ii v2) 104)]) (ob := [((decide ((v3 : Int) < a1)), false)]) (fun gv => by kernel_rfl) (oN Ze) rfl (by decide) (by rfl) rr ⟨(Zh (E := Zf) (α := RB) _ L0 _), ⟨(Zh (E := E_ii) (α := R_ii) _ v2 _), trivial⟩⟩

theorem Zm7 (L0 : List RB) (a1 : Int) (N : Nat) : (Zaj L0 a1 N).Enter Tryz.prog Zw #[vs 0 0 L0.length L0.length, vi a1] (Zgq L0 a1 N) := by
 unfold Zgq
 exact Mach.en_head (bK := Zc5 1) (M := Zaj L0 a1 N) (cd := 1000000) (cm := 0) (y := (.h1m0 (0) : ZH)) (fu := 4000) (orc := (Zi [] [] [] [] [])) (live := [0]) (tv := [some (vs 0 0 L0.length L0.length), some (vi a1), some (vn), some (vq)]) (bl := [some (.cells (Zd Zf L0) 57)]) (ob := []) rfl rfl (show Zx (Zc5 1).2 = [] from rfl) (by kernel_rfl) Ze rfl (by decide) (by rfl) ⟨rr, ⟨rr, ⟨rr, ⟨⟨Eq.trans (show (vi ((0 : Nat) : Int) : Value) = vq from (congrArg (Value.int .i64) (by first | rfl | omega))) (by rfl), by rfl⟩, trivial⟩⟩⟩⟩ ⟨(Zh (E := Zf) (α := RB) _ L0 _), trivial⟩

theorem Zhh (L0 : List RB) (a1 : Int) (N : Nat) (r : Zai) (h : ZfP L0 a1 N = some r) : LSpec Tryz.prog 50 #[vs 0 0 L0.length L0.length, vi a1] [.cells (Zd Zf L0) 57] (ZjI L0 a1 r) (ZiJ L0 a1 r) :=
 Mach.spec ZaC (Zaj L0 a1 N) Tryz.func50 (by kernel_rfl) (by kernel_rfl) (fun x => by cases x <;> exact ZS _ rfl) (fun r => by cases r <;> exact ZS _ rfl) (fun x => by
  cases x with
  | h1m0 _ => exact fun _ => (show ¬ (1 ∈ Zx (Zc5 1).2) from by decide +kernel)
  | h1m1 _ _ => exact fun _ => (show ¬ (1 ∈ Zx (Zc5 1).2) from by decide +kernel)
  ) (fun x => (show (Zaj L0 a1 N).Ok Tryz.prog Zw x (ZcN L0 a1 N x) from by
  cases x with
  | h1m0 v2 => exact Zkv L0 a1 v2 N
  | h1m1 v2 v3 => exact Zkw L0 a1 v2 v3 N
  )) (Zm7 L0 a1 N) (n := N) h

noncomputable def Zn2 (L0 : List RB) (a1 : Int) (k0 n : Nat) : ZaD := .call [(k0, .cells (Zd Zf L0) 57)] (vn) [] 0
def ZiL (A : Array Value) (L0 : List RB) (a1 : Int) (k0 n : Nat) : Prop := ZF Tryz.prog 50 A [(k0, .cells (Zd Zf L0) 57)] (vn) [] n 0

theorem Zn3 (A : Array Value) (L0 : List RB) (a1 : Int) (N : Nat) (h : ZfP L0 a1 N = some (.r0)) (k0 n : Nat) (hA : A = #[vs k0 0 L0.length L0.length, vi a1]) (hnd : ([k0] : List Nat).Nodup) (hlt : ∀ k ∈ ([k0] : List Nat), k < n) : ZiL A L0 a1 k0 n :=
 ZU hA (LSpec.callL (show LSpec Tryz.prog 50 #[vs 0 0 L0.length L0.length, vi a1] [.cells (Zd Zf L0) 57] (vn) [some (.cells (Zd Zf L0) 57)] from Zhh L0 a1 N _ h) [k0] n [] rfl hnd hlt (show 1 ≤ 1 from by decide) (show ∀ j ∈ ([] : List Nat), j < 1 from by decide) (by rfl) ⟨(Z6 _ _ _), trivial⟩ (by rfl) ⟨(Z6 _ _ _), trivial⟩ ⟨.inr rfl, trivial⟩ rfl rfl rfl (Za (ZE rfl (Zae _ _ _)) rfl) rfl)

noncomputable def ZiM (L0 : List RB) (a1 : Int) (w1 : List R_ii) (k0 n : Nat) : ZaD := .call [(k0, .cells (Zd Zf L0) 57)] (vs n 0 w1.length w1.length) [(n, some (.cells (Zd E_ii w1) 104))] 1
def Zgu (A : Array Value) (L0 : List RB) (a1 : Int) (w1 : List R_ii) (k0 n : Nat) : Prop := ZF Tryz.prog 50 A [(k0, .cells (Zd Zf L0) 57)] (vs n 0 w1.length w1.length) [(n, some (.cells (Zd E_ii w1) 104))] n 1

theorem ZiN (A : Array Value) (L0 : List RB) (a1 : Int) (w1 : List R_ii) (N : Nat) (h : ZfP L0 a1 N = some (.r1 w1)) (k0 n : Nat) (hA : A = #[vs k0 0 L0.length L0.length, vi a1]) (hnd : ([k0] : List Nat).Nodup) (hlt : ∀ k ∈ ([k0] : List Nat), k < n) : Zgu A L0 a1 w1 k0 n :=
 ZU hA (LSpec.callL (show LSpec Tryz.prog 50 #[vs 0 0 L0.length L0.length, vi a1] [.cells (Zd Zf L0) 57] (vs 1 0 w1.length w1.length) [some (.cells (Zd Zf L0) 57), some (.cells (Zd E_ii w1) 104)] from Zhh L0 a1 N _ h) [k0] n [1] rfl hnd hlt (show 1 ≤ 2 from by decide) (show ∀ j ∈ ([1] : List Nat), j < 2 from by decide) (by rfl) ⟨(Z6 _ _ _), trivial⟩ (by rfl) ⟨(Z6 _ _ _), ⟨(Z6 _ _ _), trivial⟩⟩ ⟨.inr rfl, ⟨(by decide), trivial⟩⟩ rfl rfl rfl (Za (ZE rfl (Zae _ _ _)) rfl) (Za (ZE rfl (ZbI (Zae _ _ _))) rfl))

noncomputable def ZiO (L0 : List RB) (a1 : Int) : Zbi → Value
 | .r0 w1 w2 => Value.agg #[vi w1, vi w2]
noncomputable def ZhZ (L0 : List RB) (a1 : Int) : Zbi → List (Option AObj)
 | .r0 w1 w2 => [some (.cells (Zd Zf L0) 57)]

theorem Zma (L0 : List RB) (a1 : Int) (N : Nat) : Fx Tryz.prog Zw Tryz.f51 [.cells (Zd Zf L0) 57] #[vs 0 0 L0.length L0.length, vi a1] (ZiO L0 a1) (ZhZ L0 a1) (Zc2 L0 a1 N) := by
 unfold Zc2
 refine ZeU (fun z0 c0 => ?_)
 cases z0 with
 | r0 =>
  exact Zt (r := (.r0 ((-1 : Int)) ((0 : Int)) : Zbi)) (fu := 4000) (orc := (Zi [] [] [] [] [(0, (Zn2 (L0) (a1)   0 2))])) (live := [0]) (u := Value.agg #[vi (-1 : Int), vq]) (bl := [some (.cells (Zd Zf L0) 57)]) (ob := [(dP (ZiL #[vs 0 0 L0.length L0.length, vi a1] (L0) (a1)   0 2), true), (dS (Zd Zf L0), true)]) (by kernel_rfl) (Zb (Zg (Zn3 #[vs 0 0 L0.length L0.length, vi a1] (L0) (a1)   N c0 0 2 rfl (by decide) (by decide))) <| oR Ze) rfl (by decide) (by rfl) rr ⟨(Zh (E := Zf) (α := RB) _ L0 _), trivial⟩
 | r1 y0_0 =>
  refine Zy (fun g1 => ?_) (fun g1 => ?_)
  ·
   exact Zt (r := (.r0 ((-1 : Int)) ((0 : Int)) : Zbi)) (fu := 4000) (orc := (Zi [(0, true)] [] [] [] [(0, (ZiM (L0) (a1)  y0_0 0 2))])) (live := [0]) (u := Value.agg #[vi (-1 : Int), vq]) (bl := [some (.cells (Zd Zf L0) 57)]) (ob := [(((y0_0.length : Int) == (0 : Int)), true), (dP (Zgu #[vs 0 0 L0.length L0.length, vi a1] (L0) (a1)  y0_0 0 2), true), (dS (Zd Zf L0), true)]) (by kernel_rfl) (oT <| Zb (Zg (ZiN #[vs 0 0 L0.length L0.length, vi a1] (L0) (a1)  y0_0 N c0 0 2 rfl (by decide) (by decide))) <| oR Ze) rfl (by decide) (by rfl) rr ⟨(Zh (E := Zf) (α := RB) _ L0 _), trivial⟩
  ·
   refine Zy (fun g2 => ?_) (fun g2 => ?_)
   ·
    exact Zt (r := (.r0 ((y0_0.getD (y0_0.length - 1) R_ii.z).a0) ((y0_0.getD (y0_0.length - 1) R_ii.z).a1) : Zbi)) (fu := 4000) (orc := (Zi [(0, false)] [(0, (((y0_0.length - 1) : Nat) : Int))] [(0, (y0_0.length - 1))] [(0, [.i (y0_0.getD (y0_0.length - 1) R_ii.z).a0, .i (y0_0.getD (y0_0.length - 1) R_ii.z).a1])] [(0, (ZiM (L0) (a1)  y0_0 0 2))])) (live := [0]) (u := Value.agg #[vi (y0_0.getD (y0_0.length - 1) R_ii.z).a0, vi (y0_0.getD (y0_0.length - 1) R_ii.z).a1]) (bl := [some (.cells (Zd Zf L0) 57)]) (ob := [(ZC (Zs 2 (List.drop (0 + ((y0_0.length - 1) * 2)) (Zd E_ii y0_0))) [.i (y0_0.getD (y0_0.length - 1) R_ii.z).a0, .i (y0_0.getD (y0_0.length - 1) R_ii.z).a1], true), (Nat.blt (y0_0.length - 1) y0_0.length, true), ((((y0_0.length - 1) : Nat) : Int) == Int.ofNat (y0_0.length - 1), true), ((IntKind.i64.wrap ((y0_0.length : Int) - (1 : Int))) == (((y0_0.length - 1) : Nat) : Int), true), (((y0_0.length : Int) == (0 : Int)), false), (dP (Zgu #[vs 0 0 L0.length L0.length, vi a1] (L0) (a1)  y0_0 0 2), true), (dS (Zd Zf L0), true)]) (by kernel_rfl) (Zb (Zq (E := E_ii) (L := y0_0) (i := (y0_0.length - 1)) (q := 0) (by omega) (show (0 + ((y0_0.length - 1) * 2)) = (y0_0.length - 1) * 2 + 0 from by omega) (show 0 + 2 ≤ 2 from by decide) rfl rfl) <| oB <| oI <| Zb (beq_iff_eq.2 ((wrap_i64 ltA).trans (by first | rfl | omega))) <| oF <| Zb (Zg (ZiN #[vs 0 0 L0.length L0.length, vi a1] (L0) (a1)  y0_0 N c0 0 2 rfl (by decide) (by decide))) <| oR Ze) rfl (by decide) (by rfl) rr ⟨(Zh (E := Zf) (α := RB) _ L0 _), trivial⟩
   ·
    exact ZeT

theorem Zkx (L0 : List RB) (a1 : Int) (N : Nat) (r : Zbi) (h : Zc2 L0 a1 N = some r) : LSpec Tryz.prog 51 #[vs 0 0 L0.length L0.length, vi a1] [.cells (Zd Zf L0) 57] (ZiO L0 a1 r) (ZhZ L0 a1 r) :=
 Zcs ZaC Tryz.func51 (by kernel_rfl) (by kernel_rfl) (fun r => by cases r <;> exact ZS _ rfl) (Zma L0 a1 N) h

noncomputable def Zdn (L0 : List RB) (a1 w1 w2 : Int) (k0 n : Nat) : ZaD := .call [(k0, .cells (Zd Zf L0) 57)] (Value.agg #[vi w1, vi w2]) [] 0
def Zct (A : Array Value) (L0 : List RB) (a1 w1 w2 : Int) (k0 n : Nat) : Prop := ZF Tryz.prog 51 A [(k0, .cells (Zd Zf L0) 57)] (Value.agg #[vi w1, vi w2]) [] n 0

theorem Zdo (A : Array Value) (L0 : List RB) (a1 w1 w2 : Int) (N : Nat) (h : Zc2 L0 a1 N = some (.r0 w1 w2)) (k0 n : Nat) (hA : A = #[vs k0 0 L0.length L0.length, vi a1]) (hnd : ([k0] : List Nat).Nodup) (hlt : ∀ k ∈ ([k0] : List Nat), k < n) : Zct A L0 a1 w1 w2 k0 n :=
 ZU hA (LSpec.callL (show LSpec Tryz.prog 51 #[vs 0 0 L0.length L0.length, vi a1] [.cells (Zd Zf L0) 57] (Value.agg #[vi w1, vi w2]) [some (.cells (Zd Zf L0) 57)] from Zkx L0 a1 N _ h) [k0] n [] rfl hnd hlt (show 1 ≤ 1 from by decide) (show ∀ j ∈ ([] : List Nat), j < 1 from by decide) (by rfl) ⟨(Z6 _ _ _), trivial⟩ (by rfl) ⟨(Z6 _ _ _), trivial⟩ ⟨.inr rfl, trivial⟩ rfl rfl rfl (Za (ZE rfl (Zae _ _ _)) rfl) rfl)

noncomputable def ZjJ (L0 : List RB) : Z4 → Value
 | .r0 w1 => vi w1
noncomputable def ZiP (L0 : List RB) : Z4 → List (Option AObj)
 | .r0 w1 => [some (.cells (Zd Zf L0) 57)]

def Zn4 : Z2 → Nat
 | .h1m0 v1 => 1
 | .h1m1 v1 v2 => 1
 | .h2m0 v1 => 2
noncomputable def Zpc (L0 : List RB) : Z2 → List (Nat × Value)
 | .h1m0 v1 => [(0, vs 0 0 L0.length L0.length), (3, vn), (4, vi (v1 : Int))]
 | .h1m1 v1 v2 => [(0, vs 0 0 L0.length L0.length), (3, vs 1 0 v1.length v1.length), (4, vi (v2 : Int))]
 | .h2m0 v1 => [(0, vs 0 0 L0.length L0.length), (7, vi (v1 : Int))]
noncomputable def Zpd (L0 : List RB) : Z2 → List (Option AObj)
 | .h1m0 v1 => [some (.cells (Zd Zf L0) 57)]
 | .h1m1 v1 v2 => [some (.cells (Zd Zf L0) 57), some (.cells (Zd E_ii v1) 104)]
 | .h2m0 v1 => [some (.cells (Zd Zf L0) 57)]

noncomputable def ZaT : Nat → Code × List Zaw
 | 1 => ZaQ [1, 1, 1, 0, 1, 3] (Zb5 Tryz.f49) []
 | 2 => ZaQ [1, 1, 1, 1, 1, 0, 1, 3] (Zb5 Tryz.f49) []
 | _ => (.skip, [])
def ZiQ : Nat → Bool
 | 1 => true
 | 2 => true
 | _ => true
noncomputable def ZbF (i : Nat) : List Zaw := match ZiQ i with | true => .rnd i :: (ZaT i).2 | false => (ZaT i).2

noncomputable def ZB (L0 : List RB) (N : Nat) : Mach := ⟨Tryz.f49, [.cells (Zd Zf L0) 57], Z2, Z4, Zcd L0 N, Zn4, ZaT, ZiQ, Zpc L0, Zpd L0, ZjJ L0, ZiP L0⟩

theorem Zky (L0 : List RB) (v1 N : Nat) : (ZB L0 N).Ok Tryz.prog Zw (.h1m0 v1 : Z2) (Zcd L0 N (.h1m0 v1 : Z2)) := by
 show (ZB L0 N).Ok Tryz.prog Zw (.h1m0 v1 : Z2) (ZeF L0 N v1)
 unfold ZeF
 refine Mach.ok_ite (fun g0 => ?_) (fun g0 => ?_)
 ·
  refine Mach.ok_bind (fun z1 c1 => ?_)
  cases z1 with
  | r0 =>
   refine Mach.ok_bind (fun z2 c2 => ?_)
   cases z2 with
   | r0 y2_0 =>
    refine Mach.ok_ite (fun g3 => ?_) (fun g3 => ?_)
    ·
     exact Mach.ok_fin (M := ZB L0 N) (cd := 1000000) (cm := 0) (r := (.r0 ((v1 : Int)) : Z4)) (fu := 4000) (orc := (Zi [(0, true), (1, true)] [] [(0, v1), (1, v1)] [(0, [.i (L0.getD v1 RB.z).a0, .i (L0.getD v1 RB.z).a1, .i (L0.getD v1 RB.z).a2, .i (L0.getD v1 RB.z).a3]), (1, [.i (L0.getD v1 RB.z).a0, .i (L0.getD v1 RB.z).a1, .i (L0.getD v1 RB.z).a2, .i (L0.getD v1 RB.z).a3])] [(0, (Zhf ((L0.getD v1 RB.z).a0) ((L0.getD v1 RB.z).a1) ((L0.getD v1 RB.z).a2) ((L0.getD v1 RB.z).a3) ((v1 : Int))    1)), (1, (Zbw ((L0.getD v1 RB.z).a0) ((L0.getD v1 RB.z).a1) ((L0.getD v1 RB.z).a2) ((L0.getD v1 RB.z).a3)  y2_0  2))])) (live := [0]) (u := vi (v1 : Int)) (bl := [some (.cells (Zd Zf L0) 57)]) (ob := [((!y2_0), true), (dP (Zbn #[Value.agg #[vi (L0.getD v1 RB.z).a0, vi (L0.getD v1 RB.z).a1, vi (L0.getD v1 RB.z).a2, vi (L0.getD v1 RB.z).a3]] ((L0.getD v1 RB.z).a0) ((L0.getD v1 RB.z).a1) ((L0.getD v1 RB.z).a2) ((L0.getD v1 RB.z).a3)  y2_0  2), true), (ZC (Zs 4 (List.drop (0 + (v1 * 4)) (Zd Zf L0))) [.i (L0.getD v1 RB.z).a0, .i (L0.getD v1 RB.z).a1, .i (L0.getD v1 RB.z).a2, .i (L0.getD v1 RB.z).a3], true), (Nat.blt v1 L0.length, true), ((v1 : Int) == Int.ofNat v1, true), (dP (Zf2 #[vn, Value.agg #[vi (L0.getD v1 RB.z).a0, vi (L0.getD v1 RB.z).a1, vi (L0.getD v1 RB.z).a2, vi (L0.getD v1 RB.z).a3], vi (v1 : Int)] ((L0.getD v1 RB.z).a0) ((L0.getD v1 RB.z).a1) ((L0.getD v1 RB.z).a2) ((L0.getD v1 RB.z).a3) ((v1 : Int))    1), true), (ZC (Zs 4 (List.drop (0 + (v1 * 4)) (Zd Zf L0))) [.i (L0.getD v1 RB.z).a0, .i (L0.getD v1 RB.z).a1, .i (L0.getD v1 RB.z).a2, .i (L0.getD v1 RB.z).a3], true), (Nat.blt v1 L0.length, true), ((v1 : Int) == Int.ofNat v1, true), ((decide ((v1 : Int) < (L0.length : Int))), true)]) (fun gv => by kernel_rfl) (Zb (Zfh (by first | assumption | simp_all)) <| Zb (Zg (Zbx #[Value.agg #[vi (L0.getD v1 RB.z).a0, vi (L0.getD v1 RB.z).a1, vi (L0.getD v1 RB.z).a2, vi (L0.getD v1 RB.z).a3]] ((L0.getD v1 RB.z).a0) ((L0.getD v1 RB.z).a1) ((L0.getD v1 RB.z).a2) ((L0.getD v1 RB.z).a3)  y2_0 N c2  2 rfl (by decide) (by decide))) <| Zb (Zq (E := Zf) (L := L0) (i := v1) (q := 0) (by omega) (show (0 + (v1 * 4)) = v1 * 4 + 0 from by omega) (show 0 + 4 ≤ 4 from by decide) rfl rfl) <| oB <| oI <| Zb (Zg (Zhg #[vn, Value.agg #[vi (L0.getD v1 RB.z).a0, vi (L0.getD v1 RB.z).a1, vi (L0.getD v1 RB.z).a2, vi (L0.getD v1 RB.z).a3], vi (v1 : Int)] ((L0.getD v1 RB.z).a0) ((L0.getD v1 RB.z).a1) ((L0.getD v1 RB.z).a2) ((L0.getD v1 RB.z).a3) ((v1 : Int))   N c1  1 rfl (by decide) (by decide))) <| Zb (Zq (E := Zf) (L := L0) (i := v1) (q := 0) (by omega) (show (0 + (v1 * 4)) = v1 * 4 + 0 from by omega) (show 0 + 4 ≤ 4 from by decide) rfl rfl) <| oB <| oI <| oY Ze) rfl (by decide) (by rfl) rr ⟨(Zh (E := Zf) (α := RB) _ L0 _), trivial⟩
    ·
     refine Mach.ok_ite (fun g4 => ?_) (fun g4 => ?_)
     ·
      exact Mach.ok_next (M := ZB L0 N) (cd := 1000000) (cm := 0) (y := (.h1m1 (([(⟨(v1 : Int), (0 : Int)⟩ : R_ii)] : List R_ii)) ((v1 + 1)) : Z2)) (fu := 4000) (orc := (Zi [(0, true), (1, false)] [(0, (((v1 + 1) : Nat) : Int))] [(0, v1), (1, v1)] [(0, [.i (L0.getD v1 RB.z).a0, .i (L0.getD v1 RB.z).a1, .i (L0.getD v1 RB.z).a2, .i (L0.getD v1 RB.z).a3]), (1, [.i (L0.getD v1 RB.z).a0, .i (L0.getD v1 RB.z).a1, .i (L0.getD v1 RB.z).a2, .i (L0.getD v1 RB.z).a3])] [(0, (Zhf ((L0.getD v1 RB.z).a0) ((L0.getD v1 RB.z).a1) ((L0.getD v1 RB.z).a2) ((L0.getD v1 RB.z).a3) ((v1 : Int))    1)), (1, (Zbw ((L0.getD v1 RB.z).a0) ((L0.getD v1 RB.z).a1) ((L0.getD v1 RB.z).a2) ((L0.getD v1 RB.z).a3)  y2_0  2))])) (live := [0, 1]) (tv := fun _ => [some (vs 0 0 L0.length L0.length), some (vs 1 0 1 1), some (vi (((v1 + 1) : Nat) : Int))]) (bl := [some (.cells (Zd Zf L0) 57), some (.cells (Zd E_ii ([(⟨(v1 : Int), (0 : Int)⟩ : R_ii)] : List R_ii)) 104)]) (ob := [((IntKind.i64.wrap ((v1 : Int) + (1 : Int))) == (((v1 + 1) : Nat) : Int), true), ((!y2_0), false), (dP (Zbn #[Value.agg #[vi (L0.getD v1 RB.z).a0, vi (L0.getD v1 RB.z).a1, vi (L0.getD v1 RB.z).a2, vi (L0.getD v1 RB.z).a3]] ((L0.getD v1 RB.z).a0) ((L0.getD v1 RB.z).a1) ((L0.getD v1 RB.z).a2) ((L0.getD v1 RB.z).a3)  y2_0  2), true), (ZC (Zs 4 (List.drop (0 + (v1 * 4)) (Zd Zf L0))) [.i (L0.getD v1 RB.z).a0, .i (L0.getD v1 RB.z).a1, .i (L0.getD v1 RB.z).a2, .i (L0.getD v1 RB.z).a3], true), (Nat.blt v1 L0.length, true), ((v1 : Int) == Int.ofNat v1, true), (dP (Zf2 #[vn, Value.agg #[vi (L0.getD v1 RB.z).a0, vi (L0.getD v1 RB.z).a1, vi (L0.getD v1 RB.z).a2, vi (L0.getD v1 RB.z).a3], vi (v1 : Int)] ((L0.getD v1 RB.z).a0) ((L0.getD v1 RB.z).a1) ((L0.getD v1 RB.z).a2) ((L0.getD v1 RB.z).a3) ((v1 : Int))    1), true), (ZC (Zs 4 (List.drop (0 + (v1 * 4)) (Zd Zf L0))) [.i (L0.getD v1 RB.z).a0, .i (L0.getD v1 RB.z).a1, .i (L0.getD v1 RB.z).a2, .i (L0.getD v1 RB.z).a3], true), (Nat.blt v1 L0.length, true), ((v1 : Int) == Int.ofNat v1, true), ((decide ((v1 : Int) < (L0.length : Int))), true)]) rfl (show 1 ∈ Zx (ZbF 1) from by decide +kernel) (fun gv => by kernel_rfl) (Zb (beq_iff_eq.2 ((wrap_i64 ltA).trans (by first | rfl | omega))) <| Zb (Zdi (by first | assumption | exact Decidable.not_not.1 (by assumption) | simp_all)) <| Zb (Zg (Zbx #[Value.agg #[vi (L0.getD v1 RB.z).a0, vi (L0.getD v1 RB.z).a1, vi (L0.getD v1 RB.z).a2, vi (L0.getD v1 RB.z).a3]] ((L0.getD v1 RB.z).a0) ((L0.getD v1 RB.z).a1) ((L0.getD v1 RB.z).a2) ((L0.getD v1 RB.z).a3)  y2_0 N c2  2 rfl (by decide) (by decide))) <| Zb (Zq (E := Zf) (L := L0) (i := v1) (q := 0) (by omega) (show (0 + (v1 * 4)) = v1 * 4 + 0 from by omega) (show 0 + 4 ≤ 4 from by decide) rfl rfl) <| oB <| oI <| Zb (Zg (Zhg #[vn, Value.agg #[vi (L0.getD v1 RB.z).a0, vi (L0.getD v1 RB.z).a1, vi (L0.getD v1 RB.z).a2, vi (L0.getD v1 RB.z).a3], vi (v1 : Int)] ((L0.getD v1 RB.z).a0) ((L0.getD v1 RB.z).a1) ((L0.getD v1 RB.z).a2) ((L0.getD v1 RB.z).a3) ((v1 : Int))   N c1  1 rfl (by decide) (by decide))) <| Zb (Zq (E := Zf) (L := L0) (i := v1) (q := 0) (by omega) (show (0 + (v1 * 4)) = v1 * 4 + 0 from by omega) (show 0 + 4 ≤ 4 from by decide) rfl rfl) <| oB <| oI <| oY Ze) rfl (by decide) (by rfl) (fun _ => ⟨rr, ⟨⟨Eq.trans (show (vs 1 0 ([(⟨(v1 : Int), (0 : Int)⟩ : R_ii)] : List R_ii).length ([(⟨(v1 : Int), (0 : Int)⟩ : R_ii)] : List R_ii).length : Value) = vs 1 0 1 1 from (Zbe rfl eqA eqA)) (by rfl), by rfl⟩, ⟨rr, trivial⟩⟩⟩) ⟨(Zh (E := Zf) (α := RB) _ L0 _), ⟨(Zh (E := E_ii) (α := R_ii) _ ([(⟨(v1 : Int), (0 : Int)⟩ : R_ii)] : List R_ii) _), trivial⟩⟩
     ·
      exact Mach.ok_none
  | r1 y1_0 =>
   refine Mach.ok_bind (fun z2 c2 => ?_)
   cases z2 with
   | r0 y2_0 =>
    refine Mach.ok_ite (fun g3 => ?_) (fun g3 => ?_)
    ·
     exact Mach.ok_fin (M := ZB L0 N) (cd := 1000000) (cm := 0) (r := (.r0 ((v1 : Int)) : Z4)) (fu := 4000) (orc := (Zi [(0, true), (1, true)] [] [(0, v1), (1, v1)] [(0, [.i (L0.getD v1 RB.z).a0, .i (L0.getD v1 RB.z).a1, .i (L0.getD v1 RB.z).a2, .i (L0.getD v1 RB.z).a3]), (1, [.i (L0.getD v1 RB.z).a0, .i (L0.getD v1 RB.z).a1, .i (L0.getD v1 RB.z).a2, .i (L0.getD v1 RB.z).a3])] [(0, (Zf3 ((L0.getD v1 RB.z).a0) ((L0.getD v1 RB.z).a1) ((L0.getD v1 RB.z).a2) ((L0.getD v1 RB.z).a3) ((v1 : Int))  y1_0  1)), (1, (Zbw ((L0.getD v1 RB.z).a0) ((L0.getD v1 RB.z).a1) ((L0.getD v1 RB.z).a2) ((L0.getD v1 RB.z).a3)  y2_0  1))])) (live := [0]) (u := vi (v1 : Int)) (bl := [some (.cells (Zd Zf L0) 57)]) (ob := [((!y2_0), true), (dP (Zbn #[Value.agg #[vi (L0.getD v1 RB.z).a0, vi (L0.getD v1 RB.z).a1, vi (L0.getD v1 RB.z).a2, vi (L0.getD v1 RB.z).a3]] ((L0.getD v1 RB.z).a0) ((L0.getD v1 RB.z).a1) ((L0.getD v1 RB.z).a2) ((L0.getD v1 RB.z).a3)  y2_0  1), true), (ZC (Zs 4 (List.drop (0 + (v1 * 4)) (Zd Zf L0))) [.i (L0.getD v1 RB.z).a0, .i (L0.getD v1 RB.z).a1, .i (L0.getD v1 RB.z).a2, .i (L0.getD v1 RB.z).a3], true), (Nat.blt v1 L0.length, true), ((v1 : Int) == Int.ofNat v1, true), (dP (ZdR #[vn, Value.agg #[vi (L0.getD v1 RB.z).a0, vi (L0.getD v1 RB.z).a1, vi (L0.getD v1 RB.z).a2, vi (L0.getD v1 RB.z).a3], vi (v1 : Int)] ((L0.getD v1 RB.z).a0) ((L0.getD v1 RB.z).a1) ((L0.getD v1 RB.z).a2) ((L0.getD v1 RB.z).a3) ((v1 : Int))  y1_0  1), true), (ZC (Zs 4 (List.drop (0 + (v1 * 4)) (Zd Zf L0))) [.i (L0.getD v1 RB.z).a0, .i (L0.getD v1 RB.z).a1, .i (L0.getD v1 RB.z).a2, .i (L0.getD v1 RB.z).a3], true), (Nat.blt v1 L0.length, true), ((v1 : Int) == Int.ofNat v1, true), ((decide ((v1 : Int) < (L0.length : Int))), true)]) (fun gv => by kernel_rfl) (Zb (Zfh (by first | assumption | simp_all)) <| Zb (Zg (Zbx #[Value.agg #[vi (L0.getD v1 RB.z).a0, vi (L0.getD v1 RB.z).a1, vi (L0.getD v1 RB.z).a2, vi (L0.getD v1 RB.z).a3]] ((L0.getD v1 RB.z).a0) ((L0.getD v1 RB.z).a1) ((L0.getD v1 RB.z).a2) ((L0.getD v1 RB.z).a3)  y2_0 N c2  1 rfl (by decide) (by decide))) <| Zb (Zq (E := Zf) (L := L0) (i := v1) (q := 0) (by omega) (show (0 + (v1 * 4)) = v1 * 4 + 0 from by omega) (show 0 + 4 ≤ 4 from by decide) rfl rfl) <| oB <| oI <| Zb (Zg (Zf4 #[vn, Value.agg #[vi (L0.getD v1 RB.z).a0, vi (L0.getD v1 RB.z).a1, vi (L0.getD v1 RB.z).a2, vi (L0.getD v1 RB.z).a3], vi (v1 : Int)] ((L0.getD v1 RB.z).a0) ((L0.getD v1 RB.z).a1) ((L0.getD v1 RB.z).a2) ((L0.getD v1 RB.z).a3) ((v1 : Int))  y1_0 N c1  1 rfl (by decide) (by decide))) <| Zb (Zq (E := Zf) (L := L0) (i := v1) (q := 0) (by omega) (show (0 + (v1 * 4)) = v1 * 4 + 0 from by omega) (show 0 + 4 ≤ 4 from by decide) rfl rfl) <| oB <| oI <| oY Ze) rfl (by decide) (by rfl) rr ⟨(Zh (E := Zf) (α := RB) _ L0 _), trivial⟩
    ·
     refine Mach.ok_ite (fun g4 => ?_) (fun g4 => ?_)
     ·
      exact Mach.ok_fin (M := ZB L0 N) (cd := 1000000) (cm := 0) (r := (.r0 ((v1 : Int)) : Z4)) (fu := 4000) (orc := (Zi [(0, true), (1, false), (2, true)] [] [(0, v1), (1, v1)] [(0, [.i (L0.getD v1 RB.z).a0, .i (L0.getD v1 RB.z).a1, .i (L0.getD v1 RB.z).a2, .i (L0.getD v1 RB.z).a3]), (1, [.i (L0.getD v1 RB.z).a0, .i (L0.getD v1 RB.z).a1, .i (L0.getD v1 RB.z).a2, .i (L0.getD v1 RB.z).a3])] [(0, (Zf3 ((L0.getD v1 RB.z).a0) ((L0.getD v1 RB.z).a1) ((L0.getD v1 RB.z).a2) ((L0.getD v1 RB.z).a3) ((v1 : Int))  y1_0  1)), (1, (Zbw ((L0.getD v1 RB.z).a0) ((L0.getD v1 RB.z).a1) ((L0.getD v1 RB.z).a2) ((L0.getD v1 RB.z).a3)  y2_0  1))])) (live := [0]) (u := vi (v1 : Int)) (bl := [some (.cells (Zd Zf L0) 57)]) (ob := [((!y1_0), true), ((!y2_0), false), (dP (Zbn #[Value.agg #[vi (L0.getD v1 RB.z).a0, vi (L0.getD v1 RB.z).a1, vi (L0.getD v1 RB.z).a2, vi (L0.getD v1 RB.z).a3]] ((L0.getD v1 RB.z).a0) ((L0.getD v1 RB.z).a1) ((L0.getD v1 RB.z).a2) ((L0.getD v1 RB.z).a3)  y2_0  1), true), (ZC (Zs 4 (List.drop (0 + (v1 * 4)) (Zd Zf L0))) [.i (L0.getD v1 RB.z).a0, .i (L0.getD v1 RB.z).a1, .i (L0.getD v1 RB.z).a2, .i (L0.getD v1 RB.z).a3], true), (Nat.blt v1 L0.length, true), ((v1 : Int) == Int.ofNat v1, true), (dP (ZdR #[vn, Value.agg #[vi (L0.getD v1 RB.z).a0, vi (L0.getD v1 RB.z).a1, vi (L0.getD v1 RB.z).a2, vi (L0.getD v1 RB.z).a3], vi (v1 : Int)] ((L0.getD v1 RB.z).a0) ((L0.getD v1 RB.z).a1) ((L0.getD v1 RB.z).a2) ((L0.getD v1 RB.z).a3) ((v1 : Int))  y1_0  1), true), (ZC (Zs 4 (List.drop (0 + (v1 * 4)) (Zd Zf L0))) [.i (L0.getD v1 RB.z).a0, .i (L0.getD v1 RB.z).a1, .i (L0.getD v1 RB.z).a2, .i (L0.getD v1 RB.z).a3], true), (Nat.blt v1 L0.length, true), ((v1 : Int) == Int.ofNat v1, true), ((decide ((v1 : Int) < (L0.length : Int))), true)]) (fun gv => by kernel_rfl) (Zb (Zfh (by first | assumption | simp_all)) <| Zb (Zdi (by first | assumption | exact Decidable.not_not.1 (by assumption) | simp_all)) <| Zb (Zg (Zbx #[Value.agg #[vi (L0.getD v1 RB.z).a0, vi (L0.getD v1 RB.z).a1, vi (L0.getD v1 RB.z).a2, vi (L0.getD v1 RB.z).a3]] ((L0.getD v1 RB.z).a0) ((L0.getD v1 RB.z).a1) ((L0.getD v1 RB.z).a2) ((L0.getD v1 RB.z).a3)  y2_0 N c2  1 rfl (by decide) (by decide))) <| Zb (Zq (E := Zf) (L := L0) (i := v1) (q := 0) (by omega) (show (0 + (v1 * 4)) = v1 * 4 + 0 from by omega) (show 0 + 4 ≤ 4 from by decide) rfl rfl) <| oB <| oI <| Zb (Zg (Zf4 #[vn, Value.agg #[vi (L0.getD v1 RB.z).a0, vi (L0.getD v1 RB.z).a1, vi (L0.getD v1 RB.z).a2, vi (L0.getD v1 RB.z).a3], vi (v1 : Int)] ((L0.getD v1 RB.z).a0) ((L0.getD v1 RB.z).a1) ((L0.getD v1 RB.z).a2) ((L0.getD v1 RB.z).a3) ((v1 : Int))  y1_0 N c1  1 rfl (by decide) (by decide))) <| Zb (Zq (E := Zf) (L := L0) (i := v1) (q := 0) (by omega) (show (0 + (v1 * 4)) = v1 * 4 + 0 from by omega) (show 0 + 4 ≤ 4 from by decide) rfl rfl) <| oB <| oI <| oY Ze) rfl (by decide) (by rfl) rr ⟨(Zh (E := Zf) (α := RB) _ L0 _), trivial⟩
     ·
      refine Mach.ok_ite (fun g5 => ?_) (fun g5 => ?_)
      ·
       exact Mach.ok_next (M := ZB L0 N) (cd := 1000000) (cm := 0) (y := (.h1m0 ((v1 + 1)) : Z2)) (fu := 4000) (orc := (Zi [(0, true), (1, false), (2, false)] [(0, (((v1 + 1) : Nat) : Int))] [(0, v1), (1, v1)] [(0, [.i (L0.getD v1 RB.z).a0, .i (L0.getD v1 RB.z).a1, .i (L0.getD v1 RB.z).a2, .i (L0.getD v1 RB.z).a3]), (1, [.i (L0.getD v1 RB.z).a0, .i (L0.getD v1 RB.z).a1, .i (L0.getD v1 RB.z).a2, .i (L0.getD v1 RB.z).a3])] [(0, (Zf3 ((L0.getD v1 RB.z).a0) ((L0.getD v1 RB.z).a1) ((L0.getD v1 RB.z).a2) ((L0.getD v1 RB.z).a3) ((v1 : Int))  y1_0  1)), (1, (Zbw ((L0.getD v1 RB.z).a0) ((L0.getD v1 RB.z).a1) ((L0.getD v1 RB.z).a2) ((L0.getD v1 RB.z).a3)  y2_0  1))])) (live := [0]) (tv := fun _ => [some (vs 0 0 L0.length L0.length), some (vn), some (vi (((v1 + 1) : Nat) : Int))]) (bl := [some (.cells (Zd Zf L0) 57)]) (ob := [((IntKind.i64.wrap ((v1 : Int) + (1 : Int))) == (((v1 + 1) : Nat) : Int), true), ((!y1_0), false), ((!y2_0), false), (dP (Zbn #[Value.agg #[vi (L0.getD v1 RB.z).a0, vi (L0.getD v1 RB.z).a1, vi (L0.getD v1 RB.z).a2, vi (L0.getD v1 RB.z).a3]] ((L0.getD v1 RB.z).a0) ((L0.getD v1 RB.z).a1) ((L0.getD v1 RB.z).a2) ((L0.getD v1 RB.z).a3)  y2_0  1), true), (ZC (Zs 4 (List.drop (0 + (v1 * 4)) (Zd Zf L0))) [.i (L0.getD v1 RB.z).a0, .i (L0.getD v1 RB.z).a1, .i (L0.getD v1 RB.z).a2, .i (L0.getD v1 RB.z).a3], true), (Nat.blt v1 L0.length, true), ((v1 : Int) == Int.ofNat v1, true), (dP (ZdR #[vn, Value.agg #[vi (L0.getD v1 RB.z).a0, vi (L0.getD v1 RB.z).a1, vi (L0.getD v1 RB.z).a2, vi (L0.getD v1 RB.z).a3], vi (v1 : Int)] ((L0.getD v1 RB.z).a0) ((L0.getD v1 RB.z).a1) ((L0.getD v1 RB.z).a2) ((L0.getD v1 RB.z).a3) ((v1 : Int))  y1_0  1), true), (ZC (Zs 4 (List.drop (0 + (v1 * 4)) (Zd Zf L0))) [.i (L0.getD v1 RB.z).a0, .i (L0.getD v1 RB.z).a1, .i (L0.getD v1 RB.z).a2, .i (L0.getD v1 RB.z).a3], true), (Nat.blt v1 L0.length, true), ((v1 : Int) == Int.ofNat v1, true), ((decide ((v1 : Int) < (L0.length : Int))), true)]) rfl (show 1 ∈ Zx (ZbF 1) from by decide +kernel) (fun gv => by kernel_rfl) (Zb (beq_iff_eq.2 ((wrap_i64 ltA).trans (by first | rfl | omega))) <| Zb (Zdi (by first | assumption | exact Decidable.not_not.1 (by assumption) | simp_all)) <| Zb (Zdi (by first | assumption | exact Decidable.not_not.1 (by assumption) | simp_all)) <| Zb (Zg (Zbx #[Value.agg #[vi (L0.getD v1 RB.z).a0, vi (L0.getD v1 RB.z).a1, vi (L0.getD v1 RB.z).a2, vi (L0.getD v1 RB.z).a3]] ((L0.getD v1 RB.z).a0) ((L0.getD v1 RB.z).a1) ((L0.getD v1 RB.z).a2) ((L0.getD v1 RB.z).a3)  y2_0 N c2  1 rfl (by decide) (by decide))) <| Zb (Zq (E := Zf) (L := L0) (i := v1) (q := 0) (by omega) (show (0 + (v1 * 4)) = v1 * 4 + 0 from by omega) (show 0 + 4 ≤ 4 from by decide) rfl rfl) <| oB <| oI <| Zb (Zg (Zf4 #[vn, Value.agg #[vi (L0.getD v1 RB.z).a0, vi (L0.getD v1 RB.z).a1, vi (L0.getD v1 RB.z).a2, vi (L0.getD v1 RB.z).a3], vi (v1 : Int)] ((L0.getD v1 RB.z).a0) ((L0.getD v1 RB.z).a1) ((L0.getD v1 RB.z).a2) ((L0.getD v1 RB.z).a3) ((v1 : Int))  y1_0 N c1  1 rfl (by decide) (by decide))) <| Zb (Zq (E := Zf) (L := L0) (i := v1) (q := 0) (by omega) (show (0 + (v1 * 4)) = v1 * 4 + 0 from by omega) (show 0 + 4 ≤ 4 from by decide) rfl rfl) <| oB <| oI <| oY Ze) rfl (by decide) (by rfl) (fun _ => ⟨rr, ⟨rr, ⟨rr, trivial⟩⟩⟩) ⟨(Zh (E := Zf) (α := RB) _ L0 _), trivial⟩
      ·
       exact Mach.ok_none
 ·
  exact Mach.ok_head (bK := ZaT 2) (M := ZB L0 N) (cd := 1000000) (cm := 0) (y := (.h2m0 (0) : Z2)) (fu := 4000) (orc := (Zi [(0, false)] [] [] [] [])) (live := [0]) (tv := fun _ => [some (vs 0 0 L0.length L0.length), some (vq)]) (bl := [some (.cells (Zd Zf L0) 57)]) (ob := [((decide ((v1 : Int) < (L0.length : Int))), false)]) rfl rfl (show ∀ j ∈ Zx (ZaT 2).2, j ∈ Zx (ZbF 1) from by decide +kernel) (fun gv => by kernel_rfl) (oN Ze) rfl (by decide) (by rfl) (fun _ => ⟨rr, ⟨⟨Eq.trans (show (vi ((0 : Nat) : Int) : Value) = vq from (congrArg (Value.int .i64) (by first | rfl | omega))) (by rfl), by rfl⟩, trivial⟩⟩) ⟨(Zh (E := Zf) (α := RB) _ L0 _), trivial⟩

theorem Zkz (L0 : List RB) (v1 : List R_ii) (v2 N : Nat) : (ZB L0 N).Ok Tryz.prog Zw (.h1m1 v1 v2 : Z2) (Zcd L0 N (.h1m1 v1 v2 : Z2)) := by
 show (ZB L0 N).Ok Tryz.prog Zw (.h1m1 v1 v2 : Z2) (ZeG L0 N v1 v2)
 unfold ZeG
 refine Mach.ok_ite (fun g0 => ?_) (fun g0 => ?_)
 ·
  refine Mach.ok_bind (fun z1 c1 => ?_)
  cases z1 with
  | r0 y1_0 =>
   refine Mach.ok_bind (fun z2 c2 => ?_)
   cases z2 with
   | r0 y2_0 =>
    refine Mach.ok_ite (fun g3 => ?_) (fun g3 => ?_)
    ·
     exact Mach.ok_fin (M := ZB L0 N) (cd := 1000000) (cm := 0) (r := (.r0 ((v2 : Int)) : Z4)) (fu := 4000) (orc := (Zi [(0, true), (1, true)] [] [(0, v2), (1, v2)] [(0, [.i (L0.getD v2 RB.z).a0, .i (L0.getD v2 RB.z).a1, .i (L0.getD v2 RB.z).a2, .i (L0.getD v2 RB.z).a3]), (1, [.i (L0.getD v2 RB.z).a0, .i (L0.getD v2 RB.z).a1, .i (L0.getD v2 RB.z).a2, .i (L0.getD v2 RB.z).a3])] [(0, (Zej (v1) ((L0.getD v2 RB.z).a0) ((L0.getD v2 RB.z).a1) ((L0.getD v2 RB.z).a2) ((L0.getD v2 RB.z).a3) ((v2 : Int))  y1_0 1 2)), (1, (Zbw ((L0.getD v2 RB.z).a0) ((L0.getD v2 RB.z).a1) ((L0.getD v2 RB.z).a2) ((L0.getD v2 RB.z).a3)  y2_0  2))])) (live := [0]) (u := vi (v2 : Int)) (bl := [some (.cells (Zd Zf L0) 57)]) (ob := [((!y2_0), true), (dP (Zbn #[Value.agg #[vi (L0.getD v2 RB.z).a0, vi (L0.getD v2 RB.z).a1, vi (L0.getD v2 RB.z).a2, vi (L0.getD v2 RB.z).a3]] ((L0.getD v2 RB.z).a0) ((L0.getD v2 RB.z).a1) ((L0.getD v2 RB.z).a2) ((L0.getD v2 RB.z).a3)  y2_0  2), true), (ZC (Zs 4 (List.drop (0 + (v2 * 4)) (Zd Zf L0))) [.i (L0.getD v2 RB.z).a0, .i (L0.getD v2 RB.z).a1, .i (L0.getD v2 RB.z).a2, .i (L0.getD v2 RB.z).a3], true), (Nat.blt v2 L0.length, true), ((v2 : Int) == Int.ofNat v2, true), (dP (Zdl #[vs 1 0 v1.length v1.length, Value.agg #[vi (L0.getD v2 RB.z).a0, vi (L0.getD v2 RB.z).a1, vi (L0.getD v2 RB.z).a2, vi (L0.getD v2 RB.z).a3], vi (v2 : Int)] (v1) ((L0.getD v2 RB.z).a0) ((L0.getD v2 RB.z).a1) ((L0.getD v2 RB.z).a2) ((L0.getD v2 RB.z).a3) ((v2 : Int))  y1_0 1 2), true), (dS (Zd E_ii v1), true), (ZC (Zs 4 (List.drop (0 + (v2 * 4)) (Zd Zf L0))) [.i (L0.getD v2 RB.z).a0, .i (L0.getD v2 RB.z).a1, .i (L0.getD v2 RB.z).a2, .i (L0.getD v2 RB.z).a3], true), (Nat.blt v2 L0.length, true), ((v2 : Int) == Int.ofNat v2, true), ((decide ((v2 : Int) < (L0.length : Int))), true)]) (fun gv => by kernel_rfl) (Zb (Zfh (by first | assumption | simp_all)) <| Zb (Zg (Zbx #[Value.agg #[vi (L0.getD v2 RB.z).a0, vi (L0.getD v2 RB.z).a1, vi (L0.getD v2 RB.z).a2, vi (L0.getD v2 RB.z).a3]] ((L0.getD v2 RB.z).a0) ((L0.getD v2 RB.z).a1) ((L0.getD v2 RB.z).a2) ((L0.getD v2 RB.z).a3)  y2_0 N c2  2 rfl (by decide) (by decide))) <| Zb (Zq (E := Zf) (L := L0) (i := v2) (q := 0) (by omega) (show (0 + (v2 * 4)) = v2 * 4 + 0 from by omega) (show 0 + 4 ≤ 4 from by decide) rfl rfl) <| oB <| oI <| Zb (Zg (Zek #[vs 1 0 v1.length v1.length, Value.agg #[vi (L0.getD v2 RB.z).a0, vi (L0.getD v2 RB.z).a1, vi (L0.getD v2 RB.z).a2, vi (L0.getD v2 RB.z).a3], vi (v2 : Int)] (v1) ((L0.getD v2 RB.z).a0) ((L0.getD v2 RB.z).a1) ((L0.getD v2 RB.z).a2) ((L0.getD v2 RB.z).a3) ((v2 : Int))  y1_0 N c1 1 2 rfl (by decide) (by decide))) <| oR <| Zb (Zq (E := Zf) (L := L0) (i := v2) (q := 0) (by omega) (show (0 + (v2 * 4)) = v2 * 4 + 0 from by omega) (show 0 + 4 ≤ 4 from by decide) rfl rfl) <| oB <| oI <| oY Ze) rfl (by decide) (by rfl) rr ⟨(Zh (E := Zf) (α := RB) _ L0 _), trivial⟩
    ·
     refine Mach.ok_ite (fun g4 => ?_) (fun g4 => ?_)
     ·
      exact Mach.ok_fin (M := ZB L0 N) (cd := 1000000) (cm := 0) (r := (.r0 ((v2 : Int)) : Z4)) (fu := 4000) (orc := (Zi [(0, true), (1, false), (2, true)] [] [(0, v2), (1, v2)] [(0, [.i (L0.getD v2 RB.z).a0, .i (L0.getD v2 RB.z).a1, .i (L0.getD v2 RB.z).a2, .i (L0.getD v2 RB.z).a3]), (1, [.i (L0.getD v2 RB.z).a0, .i (L0.getD v2 RB.z).a1, .i (L0.getD v2 RB.z).a2, .i (L0.getD v2 RB.z).a3])] [(0, (Zej (v1) ((L0.getD v2 RB.z).a0) ((L0.getD v2 RB.z).a1) ((L0.getD v2 RB.z).a2) ((L0.getD v2 RB.z).a3) ((v2 : Int))  y1_0 1 2)), (1, (Zbw ((L0.getD v2 RB.z).a0) ((L0.getD v2 RB.z).a1) ((L0.getD v2 RB.z).a2) ((L0.getD v2 RB.z).a3)  y2_0  2))])) (live := [0]) (u := vi (v2 : Int)) (bl := [some (.cells (Zd Zf L0) 57)]) (ob := [((!y1_0), true), ((!y2_0), false), (dP (Zbn #[Value.agg #[vi (L0.getD v2 RB.z).a0, vi (L0.getD v2 RB.z).a1, vi (L0.getD v2 RB.z).a2, vi (L0.getD v2 RB.z).a3]] ((L0.getD v2 RB.z).a0) ((L0.getD v2 RB.z).a1) ((L0.getD v2 RB.z).a2) ((L0.getD v2 RB.z).a3)  y2_0  2), true), (ZC (Zs 4 (List.drop (0 + (v2 * 4)) (Zd Zf L0))) [.i (L0.getD v2 RB.z).a0, .i (L0.getD v2 RB.z).a1, .i (L0.getD v2 RB.z).a2, .i (L0.getD v2 RB.z).a3], true), (Nat.blt v2 L0.length, true), ((v2 : Int) == Int.ofNat v2, true), (dP (Zdl #[vs 1 0 v1.length v1.length, Value.agg #[vi (L0.getD v2 RB.z).a0, vi (L0.getD v2 RB.z).a1, vi (L0.getD v2 RB.z).a2, vi (L0.getD v2 RB.z).a3], vi (v2 : Int)] (v1) ((L0.getD v2 RB.z).a0) ((L0.getD v2 RB.z).a1) ((L0.getD v2 RB.z).a2) ((L0.getD v2 RB.z).a3) ((v2 : Int))  y1_0 1 2), true), (dS (Zd E_ii v1), true), (ZC (Zs 4 (List.drop (0 + (v2 * 4)) (Zd Zf L0))) [.i (L0.getD v2 RB.z).a0, .i (L0.getD v2 RB.z).a1, .i (L0.getD v2 RB.z).a2, .i (L0.getD v2 RB.z).a3], true), (Nat.blt v2 L0.length, true), ((v2 : Int) == Int.ofNat v2, true), ((decide ((v2 : Int) < (L0.length : Int))), true)]) (fun gv => by kernel_rfl) (Zb (Zfh (by first | assumption | simp_all)) <| Zb (Zdi (by first | assumption | exact Decidable.not_not.1 (by assumption) | simp_all)) <| Zb (Zg (Zbx #[Value.agg #[vi (L0.getD v2 RB.z).a0, vi (L0.getD v2 RB.z).a1, vi (L0.getD v2 RB.z).a2, vi (L0.getD v2 RB.z).a3]] ((L0.getD v2 RB.z).a0) ((L0.getD v2 RB.z).a1) ((L0.getD v2 RB.z).a2) ((L0.getD v2 RB.z).a3)  y2_0 N c2  2 rfl (by decide) (by decide))) <| Zb (Zq (E := Zf) (L := L0) (i := v2) (q := 0) (by omega) (show (0 + (v2 * 4)) = v2 * 4 + 0 from by omega) (show 0 + 4 ≤ 4 from by decide) rfl rfl) <| oB <| oI <| Zb (Zg (Zek #[vs 1 0 v1.length v1.length, Value.agg #[vi (L0.getD v2 RB.z).a0, vi (L0.getD v2 RB.z).a1, vi (L0.getD v2 RB.z).a2, vi (L0.getD v2 RB.z).a3], vi (v2 : Int)] (v1) ((L0.getD v2 RB.z).a0) ((L0.getD v2 RB.z).a1) ((L0.getD v2 RB.z).a2) ((L0.getD v2 RB.z).a3) ((v2 : Int))  y1_0 N c1 1 2 rfl (by decide) (by decide))) <| oR <| Zb (Zq (E := Zf) (L := L0) (i := v2) (q := 0) (by omega) (show (0 + (v2 * 4)) = v2 * 4 + 0 from by omega) (show 0 + 4 ≤ 4 from by decide) rfl rfl) <| oB <| oI <| oY Ze) rfl (by decide) (by rfl) rr ⟨(Zh (E := Zf) (α := RB) _ L0 _), trivial⟩
     ·
      refine Mach.ok_ite (fun g5 => ?_) (fun g5 => ?_)
      ·
       exact Mach.ok_next (M := ZB L0 N) (cd := 1000000) (cm := 0) (y := (.h1m1 (v1) ((v2 + 1)) : Z2)) (fu := 4000) (orc := (Zi [(0, true), (1, false), (2, false)] [(0, (((v2 + 1) : Nat) : Int))] [(0, v2), (1, v2)] [(0, [.i (L0.getD v2 RB.z).a0, .i (L0.getD v2 RB.z).a1, .i (L0.getD v2 RB.z).a2, .i (L0.getD v2 RB.z).a3]), (1, [.i (L0.getD v2 RB.z).a0, .i (L0.getD v2 RB.z).a1, .i (L0.getD v2 RB.z).a2, .i (L0.getD v2 RB.z).a3])] [(0, (Zej (v1) ((L0.getD v2 RB.z).a0) ((L0.getD v2 RB.z).a1) ((L0.getD v2 RB.z).a2) ((L0.getD v2 RB.z).a3) ((v2 : Int))  y1_0 1 2)), (1, (Zbw ((L0.getD v2 RB.z).a0) ((L0.getD v2 RB.z).a1) ((L0.getD v2 RB.z).a2) ((L0.getD v2 RB.z).a3)  y2_0  2))])) (live := [0, 1]) (tv := fun _ => [some (vs 0 0 L0.length L0.length), some (vs 1 0 v1.length v1.length), some (vi (((v2 + 1) : Nat) : Int))]) (bl := [some (.cells (Zd Zf L0) 57), some (.cells (Zd E_ii v1) 104)]) (ob := [((IntKind.i64.wrap ((v2 : Int) + (1 : Int))) == (((v2 + 1) : Nat) : Int), true), ((!y1_0), false), ((!y2_0), false), (dP (Zbn #[Value.agg #[vi (L0.getD v2 RB.z).a0, vi (L0.getD v2 RB.z).a1, vi (L0.getD v2 RB.z).a2, vi (L0.getD v2 RB.z).a3]] ((L0.getD v2 RB.z).a0) ((L0.getD v2 RB.z).a1) ((L0.getD v2 RB.z).a2) ((L0.getD v2 RB.z).a3)  y2_0  2), true), (ZC (Zs 4 (List.drop (0 + (v2 * 4)) (Zd Zf L0))) [.i (L0.getD v2 RB.z).a0, .i (L0.getD v2 RB.z).a1, .i (L0.getD v2 RB.z).a2, .i (L0.getD v2 RB.z).a3], true), (Nat.blt v2 L0.length, true), ((v2 : Int) == Int.ofNat v2, true), (dP (Zdl #[vs 1 0 v1.length v1.length, Value.agg #[vi (L0.getD v2 RB.z).a0, vi (L0.getD v2 RB.z).a1, vi (L0.getD v2 RB.z).a2, vi (L0.getD v2 RB.z).a3], vi (v2 : Int)] (v1) ((L0.getD v2 RB.z).a0) ((L0.getD v2 RB.z).a1) ((L0.getD v2 RB.z).a2) ((L0.getD v2 RB.z).a3) ((v2 : Int))  y1_0 1 2), true), (dS (Zd E_ii v1), true), (ZC (Zs 4 (List.drop (0 + (v2 * 4)) (Zd Zf L0))) [.i (L0.getD v2 RB.z).a0, .i (L0.getD v2 RB.z).a1, .i (L0.getD v2 RB.z).a2, .i (L0.getD v2 RB.z).a3], true), (Nat.blt v2 L0.length, true), ((v2 : Int) == Int.ofNat v2, true), ((decide ((v2 : Int) < (L0.length : Int))), true)]) rfl (show 1 ∈ Zx (ZbF 1) from by decide +kernel) (fun gv => by kernel_rfl) (Zb (beq_iff_eq.2 ((wrap_i64 ltA).trans (by first | rfl | omega))) <| Zb (Zdi (by first | assumption | exact Decidable.not_not.1 (by assumption) | simp_all)) <| Zb (Zdi (by first | assumption | exact Decidable.not_not.1 (by assumption) | simp_all)) <| Zb (Zg (Zbx #[Value.agg #[vi (L0.getD v2 RB.z).a0, vi (L0.getD v2 RB.z).a1, vi (L0.getD v2 RB.z).a2, vi (L0.getD v2 RB.z).a3]] ((L0.getD v2 RB.z).a0) ((L0.getD v2 RB.z).a1) ((L0.getD v2 RB.z).a2) ((L0.getD v2 RB.z).a3)  y2_0 N c2  2 rfl (by decide) (by decide))) <| Zb (Zq (E := Zf) (L := L0) (i := v2) (q := 0) (by omega) (show (0 + (v2 * 4)) = v2 * 4 + 0 from by omega) (show 0 + 4 ≤ 4 from by decide) rfl rfl) <| oB <| oI <| Zb (Zg (Zek #[vs 1 0 v1.length v1.length, Value.agg #[vi (L0.getD v2 RB.z).a0, vi (L0.getD v2 RB.z).a1, vi (L0.getD v2 RB.z).a2, vi (L0.getD v2 RB.z).a3], vi (v2 : Int)] (v1) ((L0.getD v2 RB.z).a0) ((L0.getD v2 RB.z).a1) ((L0.getD v2 RB.z).a2) ((L0.getD v2 RB.z).a3) ((v2 : Int))  y1_0 N c1 1 2 rfl (by decide) (by decide))) <| oR <| Zb (Zq (E := Zf) (L := L0) (i := v2) (q := 0) (by omega) (show (0 + (v2 * 4)) = v2 * 4 + 0 from by omega) (show 0 + 4 ≤ 4 from by decide) rfl rfl) <| oB <| oI <| oY Ze) rfl (by decide) (by rfl) (fun _ => ⟨rr, ⟨rr, ⟨rr, trivial⟩⟩⟩) ⟨(Zh (E := Zf) (α := RB) _ L0 _), ⟨(Zh (E := E_ii) (α := R_ii) _ v1 _), trivial⟩⟩
      ·
       exact Mach.ok_none
  | r1 y1_0 =>
   refine Mach.ok_bind (fun z2 c2 => ?_)
   cases z2 with
   | r0 y2_0 =>
    refine Mach.ok_ite (fun g3 => ?_) (fun g3 => ?_)
    ·
     exact Mach.ok_fin (M := ZB L0 N) (cd := 1000000) (cm := 0) (r := (.r0 ((v2 : Int)) : Z4)) (fu := 4000) (orc := (Zi [(0, true), (1, true)] [] [(0, v2), (1, v2)] [(0, [.i (L0.getD v2 RB.z).a0, .i (L0.getD v2 RB.z).a1, .i (L0.getD v2 RB.z).a2, .i (L0.getD v2 RB.z).a3]), (1, [.i (L0.getD v2 RB.z).a0, .i (L0.getD v2 RB.z).a1, .i (L0.getD v2 RB.z).a2, .i (L0.getD v2 RB.z).a3])] [(0, (ZfH (v1) ((L0.getD v2 RB.z).a0) ((L0.getD v2 RB.z).a1) ((L0.getD v2 RB.z).a2) ((L0.getD v2 RB.z).a3) ((v2 : Int))  y1_0 1 2)), (1, (Zbw ((L0.getD v2 RB.z).a0) ((L0.getD v2 RB.z).a1) ((L0.getD v2 RB.z).a2) ((L0.getD v2 RB.z).a3)  y2_0  3))])) (live := [0]) (u := vi (v2 : Int)) (bl := [some (.cells (Zd Zf L0) 57)]) (ob := [((!y2_0), true), (dP (Zbn #[Value.agg #[vi (L0.getD v2 RB.z).a0, vi (L0.getD v2 RB.z).a1, vi (L0.getD v2 RB.z).a2, vi (L0.getD v2 RB.z).a3]] ((L0.getD v2 RB.z).a0) ((L0.getD v2 RB.z).a1) ((L0.getD v2 RB.z).a2) ((L0.getD v2 RB.z).a3)  y2_0  3), true), (ZC (Zs 4 (List.drop (0 + (v2 * 4)) (Zd Zf L0))) [.i (L0.getD v2 RB.z).a0, .i (L0.getD v2 RB.z).a1, .i (L0.getD v2 RB.z).a2, .i (L0.getD v2 RB.z).a3], true), (Nat.blt v2 L0.length, true), ((v2 : Int) == Int.ofNat v2, true), (dP (Zel #[vs 1 0 v1.length v1.length, Value.agg #[vi (L0.getD v2 RB.z).a0, vi (L0.getD v2 RB.z).a1, vi (L0.getD v2 RB.z).a2, vi (L0.getD v2 RB.z).a3], vi (v2 : Int)] (v1) ((L0.getD v2 RB.z).a0) ((L0.getD v2 RB.z).a1) ((L0.getD v2 RB.z).a2) ((L0.getD v2 RB.z).a3) ((v2 : Int))  y1_0 1 2), true), (dS (Zd E_ii v1), true), (ZC (Zs 4 (List.drop (0 + (v2 * 4)) (Zd Zf L0))) [.i (L0.getD v2 RB.z).a0, .i (L0.getD v2 RB.z).a1, .i (L0.getD v2 RB.z).a2, .i (L0.getD v2 RB.z).a3], true), (Nat.blt v2 L0.length, true), ((v2 : Int) == Int.ofNat v2, true), ((decide ((v2 : Int) < (L0.length : Int))), true)]) (fun gv => by kernel_rfl) (Zb (Zfh (by first | assumption | simp_all)) <| Zb (Zg (Zbx #[Value.agg #[vi (L0.getD v2 RB.z).a0, vi (L0.getD v2 RB.z).a1, vi (L0.getD v2 RB.z).a2, vi (L0.getD v2 RB.z).a3]] ((L0.getD v2 RB.z).a0) ((L0.getD v2 RB.z).a1) ((L0.getD v2 RB.z).a2) ((L0.getD v2 RB.z).a3)  y2_0 N c2  3 rfl (by decide) (by decide))) <| Zb (Zq (E := Zf) (L := L0) (i := v2) (q := 0) (by omega) (show (0 + (v2 * 4)) = v2 * 4 + 0 from by omega) (show 0 + 4 ≤ 4 from by decide) rfl rfl) <| oB <| oI <| Zb (Zg (ZfI #[vs 1 0 v1.length v1.length, Value.agg #[vi (L0.getD v2 RB.z).a0, vi (L0.getD v2 RB.z).a1, vi (L0.getD v2 RB.z).a2, vi (L0.getD v2 RB.z).a3], vi (v2 : Int)] (v1) ((L0.getD v2 RB.z).a0) ((L0.getD v2 RB.z).a1) ((L0.getD v2 RB.z).a2) ((L0.getD v2 RB.z).a3) ((v2 : Int))  y1_0 N c1 1 2 rfl (by decide) (by decide))) <| oR <| Zb (Zq (E := Zf) (L := L0) (i := v2) (q := 0) (by omega) (show (0 + (v2 * 4)) = v2 * 4 + 0 from by omega) (show 0 + 4 ≤ 4 from by decide) rfl rfl) <| oB <| oI <| oY Ze) rfl (by decide) (by rfl) rr ⟨(Zh (E := Zf) (α := RB) _ L0 _), trivial⟩
    ·
     refine Mach.ok_ite (fun g4 => ?_) (fun g4 => ?_)
     ·
      exact Mach.ok_next (M := ZB L0 N) (cd := 1000000) (cm := 0) (y := (.h1m1 (y1_0) ((v2 + 1)) : Z2)) (fu := 4000) (orc := (Zi [(0, true), (1, false)] [(0, (((v2 + 1) : Nat) : Int))] [(0, v2), (1, v2)] [(0, [.i (L0.getD v2 RB.z).a0, .i (L0.getD v2 RB.z).a1, .i (L0.getD v2 RB.z).a2, .i (L0.getD v2 RB.z).a3]), (1, [.i (L0.getD v2 RB.z).a0, .i (L0.getD v2 RB.z).a1, .i (L0.getD v2 RB.z).a2, .i (L0.getD v2 RB.z).a3])] [(0, (ZfH (v1) ((L0.getD v2 RB.z).a0) ((L0.getD v2 RB.z).a1) ((L0.getD v2 RB.z).a2) ((L0.getD v2 RB.z).a3) ((v2 : Int))  y1_0 1 2)), (1, (Zbw ((L0.getD v2 RB.z).a0) ((L0.getD v2 RB.z).a1) ((L0.getD v2 RB.z).a2) ((L0.getD v2 RB.z).a3)  y2_0  3))])) (live := [0, 2]) (tv := fun _ => [some (vs 0 0 L0.length L0.length), some (vs 2 0 y1_0.length y1_0.length), some (vi (((v2 + 1) : Nat) : Int))]) (bl := [some (.cells (Zd Zf L0) 57), some (.cells (Zd E_ii y1_0) 104)]) (ob := [((IntKind.i64.wrap ((v2 : Int) + (1 : Int))) == (((v2 + 1) : Nat) : Int), true), ((!y2_0), false), (dP (Zbn #[Value.agg #[vi (L0.getD v2 RB.z).a0, vi (L0.getD v2 RB.z).a1, vi (L0.getD v2 RB.z).a2, vi (L0.getD v2 RB.z).a3]] ((L0.getD v2 RB.z).a0) ((L0.getD v2 RB.z).a1) ((L0.getD v2 RB.z).a2) ((L0.getD v2 RB.z).a3)  y2_0  3), true), (ZC (Zs 4 (List.drop (0 + (v2 * 4)) (Zd Zf L0))) [.i (L0.getD v2 RB.z).a0, .i (L0.getD v2 RB.z).a1, .i (L0.getD v2 RB.z).a2, .i (L0.getD v2 RB.z).a3], true), (Nat.blt v2 L0.length, true), ((v2 : Int) == Int.ofNat v2, true), (dP (Zel #[vs 1 0 v1.length v1.length, Value.agg #[vi (L0.getD v2 RB.z).a0, vi (L0.getD v2 RB.z).a1, vi (L0.getD v2 RB.z).a2, vi (L0.getD v2 RB.z).a3], vi (v2 : Int)] (v1) ((L0.getD v2 RB.z).a0) ((L0.getD v2 RB.z).a1) ((L0.getD v2 RB.z).a2) ((L0.getD v2 RB.z).a3) ((v2 : Int))  y1_0 1 2), true), (dS (Zd E_ii v1), true), (ZC (Zs 4 (List.drop (0 + (v2 * 4)) (Zd Zf L0))) [.i (L0.getD v2 RB.z).a0, .i (L0.getD v2 RB.z).a1, .i (L0.getD v2 RB.z).a2, .i (L0.getD v2 RB.z).a3], true), (Nat.blt v2 L0.length, true), ((v2 : Int) == Int.ofNat v2, true), ((decide ((v2 : Int) < (L0.length : Int))), true)]) rfl (show 1 ∈ Zx (ZbF 1) from by decide +kernel) (fun gv => by kernel_rfl) (Zb (beq_iff_eq.2 ((wrap_i64 ltA).trans (by first | rfl | omega))) <| Zb (Zdi (by first | assumption | exact Decidable.not_not.1 (by assumption) | simp_all)) <| Zb (Zg (Zbx #[Value.agg #[vi (L0.getD v2 RB.z).a0, vi (L0.getD v2 RB.z).a1, vi (L0.getD v2 RB.z).a2, vi (L0.getD v2 RB.z).a3]] ((L0.getD v2 RB.z).a0) ((L0.getD v2 RB.z).a1) ((L0.getD v2 RB.z).a2) ((L0.getD v2 RB.z).a3)  y2_0 N c2  3 rfl (by decide) (by decide))) <| Zb (Zq (E := Zf) (L := L0) (i := v2) (q := 0) (by omega) (show (0 + (v2 * 4)) = v2 * 4 + 0 from by omega) (show 0 + 4 ≤ 4 from by decide) rfl rfl) <| oB <| oI <| Zb (Zg (ZfI #[vs 1 0 v1.length v1.length, Value.agg #[vi (L0.getD v2 RB.z).a0, vi (L0.getD v2 RB.z).a1, vi (L0.getD v2 RB.z).a2, vi (L0.getD v2 RB.z).a3], vi (v2 : Int)] (v1) ((L0.getD v2 RB.z).a0) ((L0.getD v2 RB.z).a1) ((L0.getD v2 RB.z).a2) ((L0.getD v2 RB.z).a3) ((v2 : Int))  y1_0 N c1 1 2 rfl (by decide) (by decide))) <| oR <| Zb (Zq (E := Zf) (L := L0) (i := v2) (q := 0) (by omega) (show (0 + (v2 * 4)) = v2 * 4 + 0 from by omega) (show 0 + 4 ≤ 4 from by decide) rfl rfl) <| oB <| oI <| oY Ze) rfl (by decide) (by rfl) (fun _ => ⟨rr, ⟨rr, ⟨rr, trivial⟩⟩⟩) ⟨(Zh (E := Zf) (α := RB) _ L0 _), ⟨(Zh (E := E_ii) (α := R_ii) _ y1_0 _), trivial⟩⟩
     ·
      exact Mach.ok_none
  | r2 =>
   refine Mach.ok_bind (fun z2 c2 => ?_)
   cases z2 with
   | r0 y2_0 =>
    refine Mach.ok_ite (fun g3 => ?_) (fun g3 => ?_)
    ·
     exact Mach.ok_fin (M := ZB L0 N) (cd := 1000000) (cm := 0) (r := (.r0 ((v2 : Int)) : Z4)) (fu := 4000) (orc := (Zi [(0, true), (1, true)] [] [(0, v2), (1, v2)] [(0, [.i (L0.getD v2 RB.z).a0, .i (L0.getD v2 RB.z).a1, .i (L0.getD v2 RB.z).a2, .i (L0.getD v2 RB.z).a3]), (1, [.i (L0.getD v2 RB.z).a0, .i (L0.getD v2 RB.z).a1, .i (L0.getD v2 RB.z).a2, .i (L0.getD v2 RB.z).a3])] [(0, (ZfJ (v1) ((L0.getD v2 RB.z).a0) ((L0.getD v2 RB.z).a1) ((L0.getD v2 RB.z).a2) ((L0.getD v2 RB.z).a3) ((v2 : Int))   1 2)), (1, (Zbw ((L0.getD v2 RB.z).a0) ((L0.getD v2 RB.z).a1) ((L0.getD v2 RB.z).a2) ((L0.getD v2 RB.z).a3)  y2_0  3))])) (live := [0]) (u := vi (v2 : Int)) (bl := [some (.cells (Zd Zf L0) 57)]) (ob := [((!y2_0), true), (dP (Zbn #[Value.agg #[vi (L0.getD v2 RB.z).a0, vi (L0.getD v2 RB.z).a1, vi (L0.getD v2 RB.z).a2, vi (L0.getD v2 RB.z).a3]] ((L0.getD v2 RB.z).a0) ((L0.getD v2 RB.z).a1) ((L0.getD v2 RB.z).a2) ((L0.getD v2 RB.z).a3)  y2_0  3), true), (ZC (Zs 4 (List.drop (0 + (v2 * 4)) (Zd Zf L0))) [.i (L0.getD v2 RB.z).a0, .i (L0.getD v2 RB.z).a1, .i (L0.getD v2 RB.z).a2, .i (L0.getD v2 RB.z).a3], true), (Nat.blt v2 L0.length, true), ((v2 : Int) == Int.ofNat v2, true), (dP (Zem #[vs 1 0 v1.length v1.length, Value.agg #[vi (L0.getD v2 RB.z).a0, vi (L0.getD v2 RB.z).a1, vi (L0.getD v2 RB.z).a2, vi (L0.getD v2 RB.z).a3], vi (v2 : Int)] (v1) ((L0.getD v2 RB.z).a0) ((L0.getD v2 RB.z).a1) ((L0.getD v2 RB.z).a2) ((L0.getD v2 RB.z).a3) ((v2 : Int))   1 2), true), (dS (Zd E_ii v1), true), (ZC (Zs 4 (List.drop (0 + (v2 * 4)) (Zd Zf L0))) [.i (L0.getD v2 RB.z).a0, .i (L0.getD v2 RB.z).a1, .i (L0.getD v2 RB.z).a2, .i (L0.getD v2 RB.z).a3], true), (Nat.blt v2 L0.length, true), ((v2 : Int) == Int.ofNat v2, true), ((decide ((v2 : Int) < (L0.length : Int))), true)]) (fun gv => by kernel_rfl) (Zb (Zfh (by first | assumption | simp_all)) <| Zb (Zg (Zbx #[Value.agg #[vi (L0.getD v2 RB.z).a0, vi (L0.getD v2 RB.z).a1, vi (L0.getD v2 RB.z).a2, vi (L0.getD v2 RB.z).a3]] ((L0.getD v2 RB.z).a0) ((L0.getD v2 RB.z).a1) ((L0.getD v2 RB.z).a2) ((L0.getD v2 RB.z).a3)  y2_0 N c2  3 rfl (by decide) (by decide))) <| Zb (Zq (E := Zf) (L := L0) (i := v2) (q := 0) (by omega) (show (0 + (v2 * 4)) = v2 * 4 + 0 from by omega) (show 0 + 4 ≤ 4 from by decide) rfl rfl) <| oB <| oI <| Zb (Zg (ZfK #[vs 1 0 v1.length v1.length, Value.agg #[vi (L0.getD v2 RB.z).a0, vi (L0.getD v2 RB.z).a1, vi (L0.getD v2 RB.z).a2, vi (L0.getD v2 RB.z).a3], vi (v2 : Int)] (v1) ((L0.getD v2 RB.z).a0) ((L0.getD v2 RB.z).a1) ((L0.getD v2 RB.z).a2) ((L0.getD v2 RB.z).a3) ((v2 : Int))   N c1 1 2 rfl (by decide) (by decide))) <| oR <| Zb (Zq (E := Zf) (L := L0) (i := v2) (q := 0) (by omega) (show (0 + (v2 * 4)) = v2 * 4 + 0 from by omega) (show 0 + 4 ≤ 4 from by decide) rfl rfl) <| oB <| oI <| oY Ze) rfl (by decide) (by rfl) rr ⟨(Zh (E := Zf) (α := RB) _ L0 _), trivial⟩
    ·
     refine Mach.ok_ite (fun g4 => ?_) (fun g4 => ?_)
     ·
      exact Mach.ok_next (M := ZB L0 N) (cd := 1000000) (cm := 0) (y := (.h1m1 ((v1.take (v1.length - 1))) ((v2 + 1)) : Z2)) (fu := 4000) (orc := (Zi [(0, true), (1, false)] [(0, (((v2 + 1) : Nat) : Int))] [(0, v2), (1, v2)] [(0, [.i (L0.getD v2 RB.z).a0, .i (L0.getD v2 RB.z).a1, .i (L0.getD v2 RB.z).a2, .i (L0.getD v2 RB.z).a3]), (1, [.i (L0.getD v2 RB.z).a0, .i (L0.getD v2 RB.z).a1, .i (L0.getD v2 RB.z).a2, .i (L0.getD v2 RB.z).a3])] [(0, (ZfJ (v1) ((L0.getD v2 RB.z).a0) ((L0.getD v2 RB.z).a1) ((L0.getD v2 RB.z).a2) ((L0.getD v2 RB.z).a3) ((v2 : Int))   1 2)), (1, (Zbw ((L0.getD v2 RB.z).a0) ((L0.getD v2 RB.z).a1) ((L0.getD v2 RB.z).a2) ((L0.getD v2 RB.z).a3)  y2_0  3))])) (live := [0, 2]) (tv := fun _ => [some (vs 0 0 L0.length L0.length), some (vs 2 0 (v1.take (v1.length - 1)).length (v1.take (v1.length - 1)).length), some (vi (((v2 + 1) : Nat) : Int))]) (bl := [some (.cells (Zd Zf L0) 57), some (.cells (Zd E_ii (v1.take (v1.length - 1))) 104)]) (ob := [((IntKind.i64.wrap ((v2 : Int) + (1 : Int))) == (((v2 + 1) : Nat) : Int), true), ((!y2_0), false), (dP (Zbn #[Value.agg #[vi (L0.getD v2 RB.z).a0, vi (L0.getD v2 RB.z).a1, vi (L0.getD v2 RB.z).a2, vi (L0.getD v2 RB.z).a3]] ((L0.getD v2 RB.z).a0) ((L0.getD v2 RB.z).a1) ((L0.getD v2 RB.z).a2) ((L0.getD v2 RB.z).a3)  y2_0  3), true), (ZC (Zs 4 (List.drop (0 + (v2 * 4)) (Zd Zf L0))) [.i (L0.getD v2 RB.z).a0, .i (L0.getD v2 RB.z).a1, .i (L0.getD v2 RB.z).a2, .i (L0.getD v2 RB.z).a3], true), (Nat.blt v2 L0.length, true), ((v2 : Int) == Int.ofNat v2, true), (dP (Zem #[vs 1 0 v1.length v1.length, Value.agg #[vi (L0.getD v2 RB.z).a0, vi (L0.getD v2 RB.z).a1, vi (L0.getD v2 RB.z).a2, vi (L0.getD v2 RB.z).a3], vi (v2 : Int)] (v1) ((L0.getD v2 RB.z).a0) ((L0.getD v2 RB.z).a1) ((L0.getD v2 RB.z).a2) ((L0.getD v2 RB.z).a3) ((v2 : Int))   1 2), true), (dS (Zd E_ii v1), true), (ZC (Zs 4 (List.drop (0 + (v2 * 4)) (Zd Zf L0))) [.i (L0.getD v2 RB.z).a0, .i (L0.getD v2 RB.z).a1, .i (L0.getD v2 RB.z).a2, .i (L0.getD v2 RB.z).a3], true), (Nat.blt v2 L0.length, true), ((v2 : Int) == Int.ofNat v2, true), ((decide ((v2 : Int) < (L0.length : Int))), true)]) rfl (show 1 ∈ Zx (ZbF 1) from by decide +kernel) (fun gv => by kernel_rfl) (Zb (beq_iff_eq.2 ((wrap_i64 ltA).trans (by first | rfl | omega))) <| Zb (Zdi (by first | assumption | exact Decidable.not_not.1 (by assumption) | simp_all)) <| Zb (Zg (Zbx #[Value.agg #[vi (L0.getD v2 RB.z).a0, vi (L0.getD v2 RB.z).a1, vi (L0.getD v2 RB.z).a2, vi (L0.getD v2 RB.z).a3]] ((L0.getD v2 RB.z).a0) ((L0.getD v2 RB.z).a1) ((L0.getD v2 RB.z).a2) ((L0.getD v2 RB.z).a3)  y2_0 N c2  3 rfl (by decide) (by decide))) <| Zb (Zq (E := Zf) (L := L0) (i := v2) (q := 0) (by omega) (show (0 + (v2 * 4)) = v2 * 4 + 0 from by omega) (show 0 + 4 ≤ 4 from by decide) rfl rfl) <| oB <| oI <| Zb (Zg (ZfK #[vs 1 0 v1.length v1.length, Value.agg #[vi (L0.getD v2 RB.z).a0, vi (L0.getD v2 RB.z).a1, vi (L0.getD v2 RB.z).a2, vi (L0.getD v2 RB.z).a3], vi (v2 : Int)] (v1) ((L0.getD v2 RB.z).a0) ((L0.getD v2 RB.z).a1) ((L0.getD v2 RB.z).a2) ((L0.getD v2 RB.z).a3) ((v2 : Int))   N c1 1 2 rfl (by decide) (by decide))) <| oR <| Zb (Zq (E := Zf) (L := L0) (i := v2) (q := 0) (by omega) (show (0 + (v2 * 4)) = v2 * 4 + 0 from by omega) (show 0 + 4 ≤ 4 from by decide) rfl rfl) <| oB <| oI <| oY Ze) rfl (by decide) (by rfl) (fun _ => ⟨rr, ⟨rr, ⟨rr, trivial⟩⟩⟩) ⟨(Zh (E := Zf) (α := RB) _ L0 _), ⟨(Zh (E := E_ii) (α := R_ii) _ (v1.take (v1.length - 1)) _), trivial⟩⟩
     ·
      exact Mach.ok_none
 ·
  refine Mach.ok_ite (fun g1 => ?_) (fun g1 => ?_)
  ·
   exact Mach.ok_fin (M := ZB L0 N) (cd := 1000000) (cm := 0) (r := (.r0 ((L0.length : Int)) : Z4)) (fu := 4000) (orc := (Zi [(0, false), (1, true)] [] [] [] [])) (live := [0]) (u := vi (L0.length : Int)) (bl := [some (.cells (Zd Zf L0) 57)]) (ob := [((decide ((v1.length : Int) > (0 : Int))), true), ((decide ((v2 : Int) < (L0.length : Int))), false)]) (fun gv => by kernel_rfl) (oY <| oN Ze) rfl (by decide) (by rfl) rr ⟨(Zh (E := Zf) (α := RB) _ L0 _), trivial⟩
  ·
   exact Mach.ok_head (bK := ZaT 2) (M := ZB L0 N) (cd := 1000000) (cm := 0) (y := (.h2m0 (0) : Z2)) (fu := 4000) (orc := (Zi [(0, false), (1, false)] [] [] [] [])) (live := [0]) (tv := fun _ => [some (vs 0 0 L0.length L0.length), some (vq)]) (bl := [some (.cells (Zd Zf L0) 57)]) (ob := [((decide ((v1.length : Int) > (0 : Int))), false), ((decide ((v2 : Int) < (L0.length : Int))), false)]) rfl rfl (show ∀ j ∈ Zx (ZaT 2).2, j ∈ Zx (ZbF 1) from by decide +kernel) (fun gv => by kernel_rfl) (oN <| oN Ze) rfl (by decide) (by rfl) (fun _ => ⟨rr, ⟨⟨Eq.trans (show (vi ((0 : Nat) : Int) : Value) = vq from (congrArg (Value.int .i64) (by first | rfl | omega))) (by rfl), by rfl⟩, trivial⟩⟩) ⟨(Zh (E := Zf) (α := RB) _ L0 _), trivial⟩

theorem Zk0 (L0 : List RB) (v1 N : Nat) : (ZB L0 N).Ok Tryz.prog Zw (.h2m0 v1 : Z2) (Zcd L0 N (.h2m0 v1 : Z2)) := by
 show (ZB L0 N).Ok Tryz.prog Zw (.h2m0 v1 : Z2) (ZeH L0 N v1)
 unfold ZeH
 refine Mach.ok_ite (fun g0 => ?_) (fun g0 => ?_)
 ·
  refine Mach.ok_bind (fun z1 c1 => ?_)
  cases z1 with
  | r0 y1_0 y1_1 =>
   refine Mach.ok_ite (fun g2 => ?_) (fun g2 => ?_)
   ·
    subst g2
    refine Mach.ok_ite (fun g3 => ?_) (fun g3 => ?_)
    ·
     exact Mach.ok_fin (M := ZB L0 N) (cd := 1000000) (cm := 0) (r := (.r0 ((v1 : Int)) : Z4)) (fu := 4000) (orc := (Zi [(0, true), (1, true)] [] [(0, v1)] [(0, [.i (L0.getD v1 RB.z).a0, .i (L0.getD v1 RB.z).a1, .i (L0.getD v1 RB.z).a2, .i (L0.getD v1 RB.z).a3])] [(0, (Zen ((L0.getD v1 RB.z).a0) ((L0.getD v1 RB.z).a1) ((L0.getD v1 RB.z).a2) ((L0.getD v1 RB.z).a3)  y1_0 true  1))])) (live := [0]) (u := vi (v1 : Int)) (bl := [some (.cells (Zd Zf L0) 57)]) (ob := [((decide (y1_0 > (L0.length : Int))), true), (dP (Zdm #[Value.agg #[vi (L0.getD v1 RB.z).a0, vi (L0.getD v1 RB.z).a1, vi (L0.getD v1 RB.z).a2, vi (L0.getD v1 RB.z).a3]] ((L0.getD v1 RB.z).a0) ((L0.getD v1 RB.z).a1) ((L0.getD v1 RB.z).a2) ((L0.getD v1 RB.z).a3)  y1_0 true  1), true), (ZC (Zs 4 (List.drop (0 + (v1 * 4)) (Zd Zf L0))) [.i (L0.getD v1 RB.z).a0, .i (L0.getD v1 RB.z).a1, .i (L0.getD v1 RB.z).a2, .i (L0.getD v1 RB.z).a3], true), (Nat.blt v1 L0.length, true), ((v1 : Int) == Int.ofNat v1, true), ((decide ((v1 : Int) < (L0.length : Int))), true)]) (fun gv => by kernel_rfl) (oY <| Zb (Zg (Zeo #[Value.agg #[vi (L0.getD v1 RB.z).a0, vi (L0.getD v1 RB.z).a1, vi (L0.getD v1 RB.z).a2, vi (L0.getD v1 RB.z).a3]] ((L0.getD v1 RB.z).a0) ((L0.getD v1 RB.z).a1) ((L0.getD v1 RB.z).a2) ((L0.getD v1 RB.z).a3)  y1_0 true N c1  1 rfl (by decide) (by decide))) <| Zb (Zq (E := Zf) (L := L0) (i := v1) (q := 0) (by omega) (show (0 + (v1 * 4)) = v1 * 4 + 0 from by omega) (show 0 + 4 ≤ 4 from by decide) rfl rfl) <| oB <| oI <| oY Ze) rfl (by decide) (by rfl) rr ⟨(Zh (E := Zf) (α := RB) _ L0 _), trivial⟩
    ·
     refine Mach.ok_bind (fun z4 c4 => ?_)
     cases z4 with
     | r0 y4_0 y4_1 =>
      refine Mach.ok_bind (fun z5 c5 => ?_)
      cases z5 with
      | r0 y5_0 y5_1 =>
       refine Mach.ok_ite (fun g6 => ?_) (fun g6 => ?_)
       ·
        exact Mach.ok_fin (M := ZB L0 N) (cd := 1000000) (cm := 0) (r := (.r0 ((v1 : Int)) : Z4)) (fu := 4000) (orc := (Zi [(0, true), (1, false), (2, true)] [] [(0, v1)] [(0, [.i (L0.getD v1 RB.z).a0, .i (L0.getD v1 RB.z).a1, .i (L0.getD v1 RB.z).a2, .i (L0.getD v1 RB.z).a3])] [(0, (Zen ((L0.getD v1 RB.z).a0) ((L0.getD v1 RB.z).a1) ((L0.getD v1 RB.z).a2) ((L0.getD v1 RB.z).a3)  y1_0 true  1)), (1, (Zdn (L0) (y1_0)  y4_0 y4_1 0 1)), (2, (Zdn (L0) ((v1 : Int))  y5_0 y5_1 0 1))])) (live := [0]) (u := vi (v1 : Int)) (bl := [some (.cells (Zd Zf L0) 57)]) (ob := [((!((y4_0 == y5_0) && ((y4_1 == y5_1) && true))), true), (dP (Zct #[vs 0 0 L0.length L0.length, vi (v1 : Int)] (L0) ((v1 : Int))  y5_0 y5_1 0 1), true), (dS (Zd Zf L0), true), (dP (Zct #[vs 0 0 L0.length L0.length, vi y1_0] (L0) (y1_0)  y4_0 y4_1 0 1), true), (dS (Zd Zf L0), true), ((decide (y1_0 > (L0.length : Int))), false), (dP (Zdm #[Value.agg #[vi (L0.getD v1 RB.z).a0, vi (L0.getD v1 RB.z).a1, vi (L0.getD v1 RB.z).a2, vi (L0.getD v1 RB.z).a3]] ((L0.getD v1 RB.z).a0) ((L0.getD v1 RB.z).a1) ((L0.getD v1 RB.z).a2) ((L0.getD v1 RB.z).a3)  y1_0 true  1), true), (ZC (Zs 4 (List.drop (0 + (v1 * 4)) (Zd Zf L0))) [.i (L0.getD v1 RB.z).a0, .i (L0.getD v1 RB.z).a1, .i (L0.getD v1 RB.z).a2, .i (L0.getD v1 RB.z).a3], true), (Nat.blt v1 L0.length, true), ((v1 : Int) == Int.ofNat v1, true), ((decide ((v1 : Int) < (L0.length : Int))), true)]) (fun gv => by kernel_rfl) (Zb (by rw [Bool.not_eq_true']; exact Bool.eq_false_iff.2 (by simp only [ne_eq, Bool.and_true, Bool.and_eq_true, beq_iff_eq]; first | omega | (intro hh; simp_all; done) | (intro hh; grind))) <| Zb (Zg (Zdo #[vs 0 0 L0.length L0.length, vi (v1 : Int)] (L0) ((v1 : Int))  y5_0 y5_1 N c5 0 1 rfl (by decide) (by decide))) <| oR <| Zb (Zg (Zdo #[vs 0 0 L0.length L0.length, vi y1_0] (L0) (y1_0)  y4_0 y4_1 N c4 0 1 rfl (by decide) (by decide))) <| oR <| oN <| Zb (Zg (Zeo #[Value.agg #[vi (L0.getD v1 RB.z).a0, vi (L0.getD v1 RB.z).a1, vi (L0.getD v1 RB.z).a2, vi (L0.getD v1 RB.z).a3]] ((L0.getD v1 RB.z).a0) ((L0.getD v1 RB.z).a1) ((L0.getD v1 RB.z).a2) ((L0.getD v1 RB.z).a3)  y1_0 true N c1  1 rfl (by decide) (by decide))) <| Zb (Zq (E := Zf) (L := L0) (i := v1) (q := 0) (by omega) (show (0 + (v1 * 4)) = v1 * 4 + 0 from by omega) (show 0 + 4 ≤ 4 from by decide) rfl rfl) <| oB <| oI <| oY Ze) rfl (by decide) (by rfl) rr ⟨(Zh (E := Zf) (α := RB) _ L0 _), trivial⟩
       ·
        refine Mach.ok_ite (fun g7 => ?_) (fun g7 => ?_)
        ·
         exact Mach.ok_next (M := ZB L0 N) (cd := 1000000) (cm := 0) (y := (.h2m0 ((v1 + 1)) : Z2)) (fu := 4000) (orc := (Zi [(0, true), (1, false), (2, false)] [(0, (((v1 + 1) : Nat) : Int))] [(0, v1)] [(0, [.i (L0.getD v1 RB.z).a0, .i (L0.getD v1 RB.z).a1, .i (L0.getD v1 RB.z).a2, .i (L0.getD v1 RB.z).a3])] [(0, (Zen ((L0.getD v1 RB.z).a0) ((L0.getD v1 RB.z).a1) ((L0.getD v1 RB.z).a2) ((L0.getD v1 RB.z).a3)  y1_0 true  1)), (1, (Zdn (L0) (y1_0)  y4_0 y4_1 0 1)), (2, (Zdn (L0) ((v1 : Int))  y5_0 y5_1 0 1))])) (live := [0]) (tv := fun _ => [some (vs 0 0 L0.length L0.length), some (vi (((v1 + 1) : Nat) : Int))]) (bl := [some (.cells (Zd Zf L0) 57)]) (ob := [((IntKind.i64.wrap ((v1 : Int) + (1 : Int))) == (((v1 + 1) : Nat) : Int), true), ((!((y4_0 == y5_0) && ((y4_1 == y5_1) && true))), false), (dP (Zct #[vs 0 0 L0.length L0.length, vi (v1 : Int)] (L0) ((v1 : Int))  y5_0 y5_1 0 1), true), (dS (Zd Zf L0), true), (dP (Zct #[vs 0 0 L0.length L0.length, vi y1_0] (L0) (y1_0)  y4_0 y4_1 0 1), true), (dS (Zd Zf L0), true), ((decide (y1_0 > (L0.length : Int))), false), (dP (Zdm #[Value.agg #[vi (L0.getD v1 RB.z).a0, vi (L0.getD v1 RB.z).a1, vi (L0.getD v1 RB.z).a2, vi (L0.getD v1 RB.z).a3]] ((L0.getD v1 RB.z).a0) ((L0.getD v1 RB.z).a1) ((L0.getD v1 RB.z).a2) ((L0.getD v1 RB.z).a3)  y1_0 true  1), true), (ZC (Zs 4 (List.drop (0 + (v1 * 4)) (Zd Zf L0))) [.i (L0.getD v1 RB.z).a0, .i (L0.getD v1 RB.z).a1, .i (L0.getD v1 RB.z).a2, .i (L0.getD v1 RB.z).a3], true), (Nat.blt v1 L0.length, true), ((v1 : Int) == Int.ofNat v1, true), ((decide ((v1 : Int) < (L0.length : Int))), true)]) rfl (show 2 ∈ Zx (ZbF 2) from by decide +kernel) (fun gv => by kernel_rfl) (Zb (beq_iff_eq.2 ((wrap_i64 ltA).trans (by first | rfl | omega))) <| Zb (by rw [Bool.not_eq_false']; first | (simp only [beq_self_eq_true, Bool.and_self]; done) | (simp only [Bool.and_true, Bool.and_eq_true, beq_iff_eq] <;> first | omega | (simp_all; done) | grind)) <| Zb (Zg (Zdo #[vs 0 0 L0.length L0.length, vi (v1 : Int)] (L0) ((v1 : Int))  y5_0 y5_1 N c5 0 1 rfl (by decide) (by decide))) <| oR <| Zb (Zg (Zdo #[vs 0 0 L0.length L0.length, vi y1_0] (L0) (y1_0)  y4_0 y4_1 N c4 0 1 rfl (by decide) (by decide))) <| oR <| oN <| Zb (Zg (Zeo #[Value.agg #[vi (L0.getD v1 RB.z).a0, vi (L0.getD v1 RB.z).a1, vi (L0.getD v1 RB.z).a2, vi (L0.getD v1 RB.z).a3]] ((L0.getD v1 RB.z).a0) ((L0.getD v1 RB.z).a1) ((L0.getD v1 RB.z).a2) ((L0.getD v1 RB.z).a3)  y1_0 true N c1  1 rfl (by decide) (by decide))) <| Zb (Zq (E := Zf) (L := L0) (i := v1) (q := 0) (by omega) (show (0 + (v1 * 4)) = v1 * 4 + 0 from by omega) (show 0 + 4 ≤ 4 from by decide) rfl rfl) <| oB <| oI <| oY Ze) rfl (by decide) (by rfl) (fun _ => ⟨rr, ⟨rr, trivial⟩⟩) ⟨(Zh (E := Zf) (α := RB) _ L0 _), trivial⟩
        ·
         exact Mach.ok_none
   ·
    obtain rfl : y1_1 = false := by simpa using g2
    refine Mach.ok_ite (fun g3 => ?_) (fun g3 => ?_)
    ·
     exact Mach.ok_next (M := ZB L0 N) (cd := 1000000) (cm := 0) (y := (.h2m0 ((v1 + 1)) : Z2)) (fu := 4000) (orc := (Zi [(0, true)] [(0, (((v1 + 1) : Nat) : Int))] [(0, v1)] [(0, [.i (L0.getD v1 RB.z).a0, .i (L0.getD v1 RB.z).a1, .i (L0.getD v1 RB.z).a2, .i (L0.getD v1 RB.z).a3])] [(0, (Zen ((L0.getD v1 RB.z).a0) ((L0.getD v1 RB.z).a1) ((L0.getD v1 RB.z).a2) ((L0.getD v1 RB.z).a3)  y1_0 false  1))])) (live := [0]) (tv := fun _ => [some (vs 0 0 L0.length L0.length), some (vi (((v1 + 1) : Nat) : Int))]) (bl := [some (.cells (Zd Zf L0) 57)]) (ob := [((IntKind.i64.wrap ((v1 : Int) + (1 : Int))) == (((v1 + 1) : Nat) : Int), true), (dP (Zdm #[Value.agg #[vi (L0.getD v1 RB.z).a0, vi (L0.getD v1 RB.z).a1, vi (L0.getD v1 RB.z).a2, vi (L0.getD v1 RB.z).a3]] ((L0.getD v1 RB.z).a0) ((L0.getD v1 RB.z).a1) ((L0.getD v1 RB.z).a2) ((L0.getD v1 RB.z).a3)  y1_0 false  1), true), (ZC (Zs 4 (List.drop (0 + (v1 * 4)) (Zd Zf L0))) [.i (L0.getD v1 RB.z).a0, .i (L0.getD v1 RB.z).a1, .i (L0.getD v1 RB.z).a2, .i (L0.getD v1 RB.z).a3], true), (Nat.blt v1 L0.length, true), ((v1 : Int) == Int.ofNat v1, true), ((decide ((v1 : Int) < (L0.length : Int))), true)]) rfl (show 2 ∈ Zx (ZbF 2) from by decide +kernel) (fun gv => by kernel_rfl) (Zb (beq_iff_eq.2 ((wrap_i64 ltA).trans (by first | rfl | omega))) <| Zb (Zg (Zeo #[Value.agg #[vi (L0.getD v1 RB.z).a0, vi (L0.getD v1 RB.z).a1, vi (L0.getD v1 RB.z).a2, vi (L0.getD v1 RB.z).a3]] ((L0.getD v1 RB.z).a0) ((L0.getD v1 RB.z).a1) ((L0.getD v1 RB.z).a2) ((L0.getD v1 RB.z).a3)  y1_0 false N c1  1 rfl (by decide) (by decide))) <| Zb (Zq (E := Zf) (L := L0) (i := v1) (q := 0) (by omega) (show (0 + (v1 * 4)) = v1 * 4 + 0 from by omega) (show 0 + 4 ≤ 4 from by decide) rfl rfl) <| oB <| oI <| oY Ze) rfl (by decide) (by rfl) (fun _ => ⟨rr, ⟨rr, trivial⟩⟩) ⟨(Zh (E := Zf) (α := RB) _ L0 _), trivial⟩
    ·
     exact Mach.ok_none
 ·
  exact Mach.ok_fin (M := ZB L0 N) (cd := 1000000) (cm := 0) (r := (.r0 ((-1 : Int)) : Z4)) (fu := 4000) (orc := (Zi [(0, false)] [] [] [] [])) (live := [0]) (u := vi (-1 : Int)) (bl := [some (.cells (Zd Zf L0) 57)]) (ob := [((decide ((v1 : Int) < (L0.length : Int))), false)]) (fun gv => by kernel_rfl) (oN Ze) rfl (by decide) (by rfl) rr ⟨(Zh (E := Zf) (α := RB) _ L0 _), trivial⟩

theorem Zm8 (L0 : List RB) (N : Nat) : (ZB L0 N).Enter Tryz.prog Zw #[vs 0 0 L0.length L0.length] (Zgr L0 N) := by
 unfold Zgr
 refine Mach.en_ite (fun g0 => ?_) (fun g0 => ?_)
 ·
  exact Mach.en_fin (M := ZB L0 N) (cd := 1000000) (cm := 0) (r := (.r0 ((0 : Int)) : Z4)) (fu := 4000) (orc := (Zi [(0, true)] [] [] [] [])) (live := [0]) (u := vq) (bl := [some (.cells (Zd Zf L0) 57)]) (ob := [((decide ((L0.length : Int) < (1 : Int))), true)]) (by kernel_rfl) (oY Ze) rfl (by decide) (by rfl) rr ⟨(Zh (E := Zf) (α := RB) _ L0 _), trivial⟩
 ·
  refine Mach.en_ite (fun g1 => ?_) (fun g1 => ?_)
  ·
   exact Mach.en_fin (M := ZB L0 N) (cd := 1000000) (cm := 0) (r := (.r0 ((0 : Int)) : Z4)) (fu := 4000) (orc := (Zi [(0, false), (1, true)] [] [] [] [])) (live := [0]) (u := vq) (bl := [some (.cells (Zd Zf L0) 57)]) (ob := [((decide ((L0.length : Int) > (512 : Int))), true), ((decide ((L0.length : Int) < (1 : Int))), false)]) (by kernel_rfl) (oY <| oN Ze) rfl (by decide) (by rfl) rr ⟨(Zh (E := Zf) (α := RB) _ L0 _), trivial⟩
  ·
   exact Mach.en_head (bK := ZaT 1) (M := ZB L0 N) (cd := 1000000) (cm := 0) (y := (.h1m0 (0) : Z2)) (fu := 4000) (orc := (Zi [(0, false), (1, false)] [] [] [] [])) (live := [0]) (tv := [some (vs 0 0 L0.length L0.length), some (vn), some (vq)]) (bl := [some (.cells (Zd Zf L0) 57)]) (ob := [((decide ((L0.length : Int) > (512 : Int))), false), ((decide ((L0.length : Int) < (1 : Int))), false)]) rfl rfl (show Zx (ZaT 1).2 = [] from rfl) (by kernel_rfl) (oN <| oN Ze) rfl (by decide) (by rfl) ⟨rr, ⟨rr, ⟨⟨Eq.trans (show (vi ((0 : Nat) : Int) : Value) = vq from (congrArg (Value.int .i64) (by first | rfl | omega))) (by rfl), by rfl⟩, trivial⟩⟩⟩ ⟨(Zh (E := Zf) (α := RB) _ L0 _), trivial⟩

theorem Zlk (L0 : List RB) (N : Nat) (r : Z4) (h : ZhB L0 N = some r) : LSpec Tryz.prog 49 #[vs 0 0 L0.length L0.length] [.cells (Zd Zf L0) 57] (ZjJ L0 r) (ZiP L0 r) :=
 Mach.spec ZaC (ZB L0 N) Tryz.func49 (by kernel_rfl) (by kernel_rfl) (fun x => by cases x <;> exact ZS _ rfl) (fun r => by cases r <;> exact ZS _ rfl) (fun x => by
  cases x with
  | h1m0 _ => exact fun _ => (show ¬ (1 ∈ Zx (ZaT 1).2) from by decide +kernel)
  | h1m1 _ _ => exact fun _ => (show ¬ (1 ∈ Zx (ZaT 1).2) from by decide +kernel)
  | h2m0 _ => exact fun _ => (show ¬ (2 ∈ Zx (ZaT 2).2) from by decide +kernel)
  ) (fun x => (show (ZB L0 N).Ok Tryz.prog Zw x (Zcd L0 N x) from by
  cases x with
  | h1m0 v1 => exact Zky L0 v1 N
  | h1m1 v1 v2 => exact Zkz L0 v1 v2 N
  | h2m0 v1 => exact Zk0 L0 v1 N
  )) (Zm8 L0 N) (n := N) h

noncomputable def Zd6 (L0 : List RB) (w1 : Int) (k0 n : Nat) : ZaD := .call [(k0, .cells (Zd Zf L0) 57)] (vi w1) [] 0
def Zc9 (A : Array Value) (L0 : List RB) (w1 : Int) (k0 n : Nat) : Prop := ZF Tryz.prog 49 A [(k0, .cells (Zd Zf L0) 57)] (vi w1) [] n 0

theorem Zd7 (A : Array Value) (L0 : List RB) (w1 : Int) (N : Nat) (h : ZhB L0 N = some (.r0 w1)) (k0 n : Nat) (hA : A = #[vs k0 0 L0.length L0.length]) (hnd : ([k0] : List Nat).Nodup) (hlt : ∀ k ∈ ([k0] : List Nat), k < n) : Zc9 A L0 w1 k0 n :=
 ZU hA (LSpec.callL (show LSpec Tryz.prog 49 #[vs 0 0 L0.length L0.length] [.cells (Zd Zf L0) 57] (vi w1) [some (.cells (Zd Zf L0) 57)] from Zlk L0 N _ h) [k0] n [] rfl hnd hlt (show 1 ≤ 1 from by decide) (show ∀ j ∈ ([] : List Nat), j < 1 from by decide) (by rfl) ⟨(Z6 _ _ _), trivial⟩ (by rfl) ⟨(Z6 _ _ _), trivial⟩ ⟨.inr rfl, trivial⟩ rfl rfl rfl (Za (ZE rfl (Zae _ _ _)) rfl) rfl)

noncomputable def ZjK (L0 : List RB) : Za6 → Value
 | .r0 w1 => vi w1
noncomputable def ZiR (L0 : List RB) : Za6 → List (Option AObj)
 | .r0 w1 => [some (.cells (Zd Zf L0) 57)]

theorem Zm9 (L0 : List RB) (N : Nat) : Fx Tryz.prog Zw Tryz.f23 [.cells (Zd Zf L0) 57] #[vs 0 0 L0.length L0.length] (ZjK L0) (ZiR L0) (Ze0 L0 N) := by
 unfold Ze0
 refine ZeU (fun z0 c0 => ?_)
 cases z0 with
 | r0 y0_0 =>
  refine Zy (fun g1 => ?_) (fun g1 => ?_)
  ·
   exact Zt (r := (.r0 ((0 : Int)) : Za6)) (fu := 4000) (orc := (Zi [(0, true)] [] [] [] [(0, (Zd6 (L0)  y0_0 0 1))])) (live := [0]) (u := vq) (bl := [some (.cells (Zd Zf L0) 57)]) (ob := [((decide (y0_0 < (0 : Int))), true), (dP (Zc9 #[vs 0 0 L0.length L0.length] (L0)  y0_0 0 1), true), (dS (Zd Zf L0), true)]) (by kernel_rfl) (oY <| Zb (Zg (Zd7 #[vs 0 0 L0.length L0.length] (L0)  y0_0 N c0 0 1 rfl (by decide) (by decide))) <| oR Ze) rfl (by decide) (by rfl) rr ⟨(Zh (E := Zf) (α := RB) _ L0 _), trivial⟩
  ·
   refine Zy (fun g2 => ?_) (fun g2 => ?_)
   ·
    refine Zy (fun g3 => ?_) (fun g3 => ?_)
    ·
     refine Zy (fun g4 => ?_) (fun g4 => ?_)
     ·
      exact Zt (r := (.r0 ((140 : Int)) : Za6)) (fu := 4000) (orc := (Zi [(0, false), (1, true), (2, true), (3, true)] [] [(0, (y0_0).toNat)] [(0, [.i (L0.getD (y0_0).toNat RB.z).a0, .i (L0.getD (y0_0).toNat RB.z).a1, .i (L0.getD (y0_0).toNat RB.z).a2, .i (L0.getD (y0_0).toNat RB.z).a3])] [(0, (Zd6 (L0)  y0_0 0 1))])) (live := [0]) (u := vi (140 : Int)) (bl := [some (.cells (Zd Zf L0) 57)]) (ob := [((((L0.getD (y0_0).toNat RB.z).a0 == (15 : Int)) && (((L0.getD (y0_0).toNat RB.z).a1 == (0 : Int)) && (((L0.getD (y0_0).toNat RB.z).a2 == (0 : Int)) && (((L0.getD (y0_0).toNat RB.z).a3 == (0 : Int)) && true)))), true), (ZC (Zs 4 (List.drop (0 + ((y0_0).toNat * 4)) (Zd Zf L0))) [.i (L0.getD (y0_0).toNat RB.z).a0, .i (L0.getD (y0_0).toNat RB.z).a1, .i (L0.getD (y0_0).toNat RB.z).a2, .i (L0.getD (y0_0).toNat RB.z).a3], true), (Nat.blt (y0_0).toNat L0.length, true), (y0_0 == Int.ofNat (y0_0).toNat, true), ((decide ((L0.length : Int) ≤ (512 : Int))), true), ((decide (y0_0 < (L0.length : Int))), true), ((decide (y0_0 < (0 : Int))), false), (dP (Zc9 #[vs 0 0 L0.length L0.length] (L0)  y0_0 0 1), true), (dS (Zd Zf L0), true)]) (by kernel_rfl) (Zb (by first | (simp only [beq_self_eq_true, Bool.and_self]; done) | (simp only [Bool.and_true, Bool.and_eq_true, beq_iff_eq] <;> first | omega | (simp_all; done) | grind)) <| Zb (Zq (E := Zf) (L := L0) (i := (y0_0).toNat) (q := 0) (by omega) (show (0 + ((y0_0).toNat * 4)) = (y0_0).toNat * 4 + 0 from by omega) (show 0 + 4 ≤ 4 from by decide) rfl rfl) <| oB <| oI <| oY <| oY <| oN <| Zb (Zg (Zd7 #[vs 0 0 L0.length L0.length] (L0)  y0_0 N c0 0 1 rfl (by decide) (by decide))) <| oR Ze) rfl (by decide) (by rfl) rr ⟨(Zh (E := Zf) (α := RB) _ L0 _), trivial⟩
     ·
      exact Zt (r := (.r0 ((120 : Int)) : Za6)) (fu := 4000) (orc := (Zi [(0, false), (1, true), (2, true), (3, false)] [] [(0, (y0_0).toNat)] [(0, [.i (L0.getD (y0_0).toNat RB.z).a0, .i (L0.getD (y0_0).toNat RB.z).a1, .i (L0.getD (y0_0).toNat RB.z).a2, .i (L0.getD (y0_0).toNat RB.z).a3])] [(0, (Zd6 (L0)  y0_0 0 1))])) (live := [0]) (u := vi (120 : Int)) (bl := [some (.cells (Zd Zf L0) 57)]) (ob := [((((L0.getD (y0_0).toNat RB.z).a0 == (15 : Int)) && (((L0.getD (y0_0).toNat RB.z).a1 == (0 : Int)) && (((L0.getD (y0_0).toNat RB.z).a2 == (0 : Int)) && (((L0.getD (y0_0).toNat RB.z).a3 == (0 : Int)) && true)))), false), (ZC (Zs 4 (List.drop (0 + ((y0_0).toNat * 4)) (Zd Zf L0))) [.i (L0.getD (y0_0).toNat RB.z).a0, .i (L0.getD (y0_0).toNat RB.z).a1, .i (L0.getD (y0_0).toNat RB.z).a2, .i (L0.getD (y0_0).toNat RB.z).a3], true), (Nat.blt (y0_0).toNat L0.length, true), (y0_0 == Int.ofNat (y0_0).toNat, true), ((decide ((L0.length : Int) ≤ (512 : Int))), true), ((decide (y0_0 < (L0.length : Int))), true), ((decide (y0_0 < (0 : Int))), false), (dP (Zc9 #[vs 0 0 L0.length L0.length] (L0)  y0_0 0 1), true), (dS (Zd Zf L0), true)]) (by kernel_rfl) (Zb (Bool.eq_false_iff.2 (by simp only [ne_eq, Bool.and_true, Bool.and_eq_true, beq_iff_eq]; first | omega | (intro hh; simp_all; done) | (intro hh; grind))) <| Zb (Zq (E := Zf) (L := L0) (i := (y0_0).toNat) (q := 0) (by omega) (show (0 + ((y0_0).toNat * 4)) = (y0_0).toNat * 4 + 0 from by omega) (show 0 + 4 ≤ 4 from by decide) rfl rfl) <| oB <| oI <| oY <| oY <| oN <| Zb (Zg (Zd7 #[vs 0 0 L0.length L0.length] (L0)  y0_0 N c0 0 1 rfl (by decide) (by decide))) <| oR Ze) rfl (by decide) (by rfl) rr ⟨(Zh (E := Zf) (α := RB) _ L0 _), trivial⟩
    ·
     exact Zt (r := (.r0 ((120 : Int)) : Za6)) (fu := 4000) (orc := (Zi [(0, false), (1, true), (2, false)] [] [] [] [(0, (Zd6 (L0)  y0_0 0 1))])) (live := [0]) (u := vi (120 : Int)) (bl := [some (.cells (Zd Zf L0) 57)]) (ob := [((decide ((L0.length : Int) ≤ (512 : Int))), false), ((decide (y0_0 < (L0.length : Int))), true), ((decide (y0_0 < (0 : Int))), false), (dP (Zc9 #[vs 0 0 L0.length L0.length] (L0)  y0_0 0 1), true), (dS (Zd Zf L0), true)]) (by kernel_rfl) (oN <| oY <| oN <| Zb (Zg (Zd7 #[vs 0 0 L0.length L0.length] (L0)  y0_0 N c0 0 1 rfl (by decide) (by decide))) <| oR Ze) rfl (by decide) (by rfl) rr ⟨(Zh (E := Zf) (α := RB) _ L0 _), trivial⟩
   ·
    exact Zt (r := (.r0 ((120 : Int)) : Za6)) (fu := 4000) (orc := (Zi [(0, false), (1, false)] [] [] [] [(0, (Zd6 (L0)  y0_0 0 1))])) (live := [0]) (u := vi (120 : Int)) (bl := [some (.cells (Zd Zf L0) 57)]) (ob := [((decide (y0_0 < (L0.length : Int))), false), ((decide (y0_0 < (0 : Int))), false), (dP (Zc9 #[vs 0 0 L0.length L0.length] (L0)  y0_0 0 1), true), (dS (Zd Zf L0), true)]) (by kernel_rfl) (oN <| oN <| Zb (Zg (Zd7 #[vs 0 0 L0.length L0.length] (L0)  y0_0 N c0 0 1 rfl (by decide) (by decide))) <| oR Ze) rfl (by decide) (by rfl) rr ⟨(Zh (E := Zf) (α := RB) _ L0 _), trivial⟩

theorem Zhi (L0 : List RB) (N : Nat) (r : Za6) (h : Ze0 L0 N = some r) : LSpec Tryz.prog 23 #[vs 0 0 L0.length L0.length] [.cells (Zd Zf L0) 57] (ZjK L0 r) (ZiR L0 r) :=
 Zcs ZaC Tryz.func23 (by kernel_rfl) (by kernel_rfl) (fun r => by cases r <;> exact ZS _ rfl) (Zm9 L0 N) h

noncomputable def ZiS (L0 : List RB) (w1 : Int) (k0 n : Nat) : ZaD := .call [(k0, .cells (Zd Zf L0) 57)] (vi w1) [] 0
def Zgv (A : Array Value) (L0 : List RB) (w1 : Int) (k0 n : Nat) : Prop := ZF Tryz.prog 23 A [(k0, .cells (Zd Zf L0) 57)] (vi w1) [] n 0

theorem ZiT (A : Array Value) (L0 : List RB) (w1 : Int) (N : Nat) (h : Ze0 L0 N = some (.r0 w1)) (k0 n : Nat) (hA : A = #[vs k0 0 L0.length L0.length]) (hnd : ([k0] : List Nat).Nodup) (hlt : ∀ k ∈ ([k0] : List Nat), k < n) : Zgv A L0 w1 k0 n :=
 ZU hA (LSpec.callL (show LSpec Tryz.prog 23 #[vs 0 0 L0.length L0.length] [.cells (Zd Zf L0) 57] (vi w1) [some (.cells (Zd Zf L0) 57)] from Zhi L0 N _ h) [k0] n [] rfl hnd hlt (show 1 ≤ 1 from by decide) (show ∀ j ∈ ([] : List Nat), j < 1 from by decide) (by rfl) ⟨(Z6 _ _ _), trivial⟩ (by rfl) ⟨(Z6 _ _ _), trivial⟩ ⟨.inr rfl, trivial⟩ rfl rfl rfl (Za (ZE rfl (Zae _ _ _)) rfl) rfl)

noncomputable def ZmA : Zee → Value
 | .r0 => vq
noncomputable def Zmb : Zee → List (Option AObj)
 | .r0 => [some cz0]

theorem ZjL (N : Nat) (r : Zee) (h : Zgs N = some r) : LSpec Tryz.prog 23 #[vs 0 0 68 68] [cz0] (ZmA r) (Zmb r) := by
 cases r
 exact Zqj (by kernel_rfl) (by kernel_rfl) (by kernel_rfl) (by kernel_rfl) (Zhi (([(⟨(10 : Int), (0 : Int), (0 : Int), (0 : Int)⟩ : RB), (⟨(1 : Int), (1 : Int), (5 : Int), (0 : Int)⟩ : RB), (⟨(1 : Int), (2 : Int), (3 : Int), (0 : Int)⟩ : RB), (⟨(1 : Int), (3 : Int), (1 : Int), (0 : Int)⟩ : RB), (⟨(15 : Int), (0 : Int), (0 : Int), (0 : Int)⟩ : RB), (⟨(13 : Int), (6 : Int), (0 : Int), (10 : Int)⟩ : RB), (⟨(6 : Int), (5 : Int), (6 : Int), (2 : Int)⟩ : RB), (⟨(9 : Int), (5 : Int), (19 : Int), (0 : Int)⟩ : RB), (⟨(11 : Int), (4 : Int), (2 : Int), (1 : Int)⟩ : RB), (⟨(14 : Int), (4 : Int), (1 : Int), (1 : Int)⟩ : RB), (⟨(13 : Int), (5 : Int), (0 : Int), (5 : Int)⟩ : RB), (⟨(9 : Int), (5 : Int), (14 : Int), (0 : Int)⟩ : RB), (⟨(14 : Int), (5 : Int), (0 : Int), (4 : Int)⟩ : RB), (⟨(8 : Int), (15 : Int), (0 : Int), (0 : Int)⟩ : RB), (⟨(14 : Int), (0 : Int), (4 : Int), (4 : Int)⟩ : RB), (⟨(14 : Int), (0 : Int), (5 : Int), (4 : Int)⟩ : RB), (⟨(4 : Int), (6 : Int), (6 : Int), (3 : Int)⟩ : RB), (⟨(14 : Int), (0 : Int), (10 : Int), (6 : Int)⟩ : RB), (⟨(8 : Int), (20 : Int), (0 : Int), (0 : Int)⟩ : RB), (⟨(18 : Int), (0 : Int), (0 : Int), (0 : Int)⟩ : RB), (⟨(1 : Int), (7 : Int), (1 : Int), (0 : Int)⟩ : RB), (⟨(17 : Int), (0 : Int), (0 : Int), (0 : Int)⟩ : RB), (⟨(19 : Int), (7 : Int), (0 : Int), (0 : Int)⟩ : RB), (⟨(10 : Int), (0 : Int), (0 : Int), (0 : Int)⟩ : RB), (⟨(1 : Int), (1 : Int), (6 : Int), (0 : Int)⟩ : RB), (⟨(1 : Int), (2 : Int), (3 : Int), (0 : Int)⟩ : RB), (⟨(1 : Int), (3 : Int), (1 : Int), (0 : Int)⟩ : RB), (⟨(15 : Int), (0 : Int), (0 : Int), (0 : Int)⟩ : RB), (⟨(13 : Int), (6 : Int), (0 : Int), (10 : Int)⟩ : RB), (⟨(6 : Int), (5 : Int), (6 : Int), (2 : Int)⟩ : RB), (⟨(9 : Int), (5 : Int), (42 : Int), (0 : Int)⟩ : RB), (⟨(11 : Int), (4 : Int), (2 : Int), (1 : Int)⟩ : RB), (⟨(14 : Int), (4 : Int), (1 : Int), (1 : Int)⟩ : RB), (⟨(13 : Int), (5 : Int), (0 : Int), (5 : Int)⟩ : RB), (⟨(9 : Int), (5 : Int), (37 : Int), (0 : Int)⟩ : RB), (⟨(14 : Int), (5 : Int), (0 : Int), (4 : Int)⟩ : RB), (⟨(8 : Int), (38 : Int), (0 : Int), (0 : Int)⟩ : RB), (⟨(14 : Int), (0 : Int), (4 : Int), (4 : Int)⟩ : RB), (⟨(14 : Int), (0 : Int), (5 : Int), (4 : Int)⟩ : RB), (⟨(4 : Int), (6 : Int), (6 : Int), (3 : Int)⟩ : RB), (⟨(14 : Int), (0 : Int), (10 : Int), (6 : Int)⟩ : RB), (⟨(8 : Int), (43 : Int), (0 : Int), (0 : Int)⟩ : RB), (⟨(18 : Int), (0 : Int), (0 : Int), (0 : Int)⟩ : RB), (⟨(1 : Int), (7 : Int), (1 : Int), (0 : Int)⟩ : RB), (⟨(17 : Int), (0 : Int), (0 : Int), (0 : Int)⟩ : RB), (⟨(19 : Int), (7 : Int), (0 : Int), (0 : Int)⟩ : RB), (⟨(10 : Int), (0 : Int), (0 : Int), (0 : Int)⟩ : RB), (⟨(1 : Int), (1 : Int), (0 : Int), (0 : Int)⟩ : RB), (⟨(1 : Int), (2 : Int), (0 : Int), (0 : Int)⟩ : RB), (⟨(1 : Int), (3 : Int), (1 : Int), (0 : Int)⟩ : RB), (⟨(15 : Int), (0 : Int), (0 : Int), (0 : Int)⟩ : RB), (⟨(13 : Int), (4 : Int), (0 : Int), (4 : Int)⟩ : RB), (⟨(9 : Int), (4 : Int), (64 : Int), (0 : Int)⟩ : RB), (⟨(13 : Int), (7 : Int), (4 : Int), (1 : Int)⟩ : RB), (⟨(13 : Int), (5 : Int), (4 : Int), (0 : Int)⟩ : RB), (⟨(14 : Int), (0 : Int), (4 : Int), (5 : Int)⟩ : RB), (⟨(9 : Int), (5 : Int), (58 : Int), (0 : Int)⟩ : RB), (⟨(8 : Int), (59 : Int), (0 : Int), (0 : Int)⟩ : RB), (⟨(14 : Int), (0 : Int), (5 : Int), (5 : Int)⟩ : RB), (⟨(13 : Int), (6 : Int), (0 : Int), (10 : Int)⟩ : RB), (⟨(5 : Int), (6 : Int), (6 : Int), (3 : Int)⟩ : RB), (⟨(14 : Int), (0 : Int), (10 : Int), (6 : Int)⟩ : RB), (⟨(12 : Int), (4 : Int), (0 : Int), (0 : Int)⟩ : RB), (⟨(8 : Int), (65 : Int), (0 : Int), (0 : Int)⟩ : RB), (⟨(18 : Int), (0 : Int), (0 : Int), (0 : Int)⟩ : RB), (⟨(17 : Int), (0 : Int), (0 : Int), (0 : Int)⟩ : RB), (⟨(19 : Int), (7 : Int), (0 : Int), (0 : Int)⟩ : RB), (⟨(20 : Int), (0 : Int), (0 : Int), (0 : Int)⟩ : RB)] : List RB)) 100000 (.r0 ((0 : Int))) (by kernel_rfl))

noncomputable def Zmc  (k0 n : Nat) : ZaD := .call [(k0, cz0)] (vq) [] 0
def Zhy (A : Array Value)  (k0 n : Nat) : Prop := ZF Tryz.prog 23 A [(k0, cz0)] (vq) [] n 0

end Ev
end Go.Proofs.YtpfmkkookmofcaaGreat
