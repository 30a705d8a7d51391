/- Part 4. -/
import Derived.Test.YtmcgcapkldpjlaaZac
import Derived.Shelf.SlicesE.Clone
import Derived.Ground.SlgnProg
/- How records are written, and which functions are told. -/
namespace Go.Proofs.Ytmcgcapkldpjlaa
open Go.RowKit
namespace Ev
set_option linter.unusedVariables false
abbrev vq : Value := .int .i64 0
abbrev vf : Value := .bool false
abbrev vT : Value := .bool true
abbrev vn : Value := .slice none 0 0
abbrev vtt : Value := .tuple #[]
noncomputable abbrev dS {α : Type} (a : α) : Bool := dP (a = a)
theorem ltA {p : Prop} (h : p := by first | omega | (simp only [List.length_set, List.length_append, List.length_cons, List.length_nil, List.length_replicate, List.length_take, List.length_drop] at * <;> omega)) : p := h
theorem eqA {p : Prop} (h : p := by first | rfl | omega | (simp only [List.length_set, List.length_append, List.length_cons, List.length_nil, List.length_replicate, List.length_take, List.length_drop] at * <;> omega)) : p := h
theorem rr {p q : Prop} (h : p := by rfl) (h2 : q := by rfl) : p ∧ q := ⟨h, h2⟩
section
variable {l : List (Bool × Bool)}
theorem oT {a b : Int} (hl : ∀ q ∈ l, q.1 = q.2) (h : a = b := by omega) : ∀ q ∈ ((a == b), true) :: l, q.1 = q.2 := Za (bT h) hl
theorem oF {a b : Int} (hl : ∀ q ∈ l, q.1 = q.2) (h : ¬ a = b := by omega) : ∀ q ∈ ((a == b), false) :: l, q.1 = q.2 := Za (bF h) hl
theorem oD {a b : Int} (hl : ∀ q ∈ l, q.1 = q.2) (h : a ≠ b := by omega) : ∀ q ∈ ((a != b), true) :: l, q.1 = q.2 := Za (bne_iff_ne.2 h) hl
theorem oE {a b : Int} (hl : ∀ q ∈ l, q.1 = q.2) (h : a = b := by omega) : ∀ q ∈ ((a != b), false) :: l, q.1 = q.2 := Za (bne_eq_false_iff_eq.2 h) hl
theorem oY {p : Prop} [Decidable p] (hl : ∀ q ∈ l, q.1 = q.2) (h : p := by omega) : ∀ q ∈ (decide p, true) :: l, q.1 = q.2 := Za (decide_eq_true h) hl
theorem oN {p : Prop} [Decidable p] (hl : ∀ q ∈ l, q.1 = q.2) (h : ¬ p := by omega) : ∀ q ∈ (decide p, false) :: l, q.1 = q.2 := Za (decide_eq_false h) hl
theorem oR {α : Type} {a b : α} (hl : ∀ q ∈ l, q.1 = q.2) (h : a = b := by rfl) : ∀ q ∈ (dP (a = b), true) :: l, q.1 = q.2 := Za (Zd h) hl
theorem oB {a b : Nat} (hl : ∀ q ∈ l, q.1 = q.2) (h : a < b := by omega) : ∀ q ∈ (Nat.blt a b, true) :: l, q.1 = q.2 := Za (ZrR h) hl
theorem oL {a b : Nat} (hl : ∀ q ∈ l, q.1 = q.2) (h : a < b := by first | omega | (simp only [List.length_set, List.length_append, List.length_cons, List.length_nil, List.length_replicate, List.length_take, List.length_drop] at * <;> omega)) : ∀ q ∈ (Nat.blt a b, true) :: l, q.1 = q.2 := Za (ZrR h) hl
theorem oI {a b : Int} (hl : ∀ q ∈ l, q.1 = q.2) (h : a = b := by first | rfl | exact ZtS (by omega)) : ∀ q ∈ ((a == b), true) :: l, q.1 = q.2 := Za (bT h) hl
end
def E_ii : Enc R_ii := ⟨fun x => [.i x.a0, .i x.a1], 2, R_ii.z, fun _ => rfl, fun _ => rfl⟩
noncomputable def E_iiiiiiiA : Enc R_iiiiiiiA := ⟨fun x => [.i x.a0, .i x.a1, .i x.a2, .i x.a3, .i x.a4, .i x.a5, .i x.a6, (mc E_ii x.a7)], 8, R_iiiiiiiA.z, fun _ => rfl, fun _ => rfl⟩
def Zao (L : List RA) : List MapEntry := L.map fun x => ⟨.agg #[.int .i64 x.a0, .int .i64 x.a1], .int .i64 x.a2, 0⟩
def Zc (L : List RA) : Obj := .map (Zao L).toArray 0
section
variable {P : Program} {kt : TypeId}
theorem Zq0 (he : ∀ a b c d : Int, Zin P kt (.agg #[.int .i64 a, .int .i64 b]) (.agg #[.int .i64 c, .int .i64 d]) = some ((a == c) && ((b == d) && true))) (k l : Int) : ∀ (L : List RA) (i : Nat), ZfS P kt (.agg #[.int .i64 k, .int .i64 l]) (Zao L) i = some ((L.findIdx? (fun x => k == x.a0 && l == x.a1)).map fun j => (i + j, .int .i64 (ZaX L k l)))
 | [], i => rfl
 | x :: L, i => by
  have ih := Zq0 he k l L (i + 1)
  simp only [Zao, List.map_cons, ZfS, he, Bool.and_true]
  simp only [Zao] at ih
  have hf : Zbq (.agg #[.int .i64 x.a0, .int .i64 x.a1]) = true := rfl
  rw [hf, cond_true, List.findIdx?_cons]
  cases h : (k == x.a0 && l == x.a1) with
  | true => simp [ZaX, List.find?_cons, h]
  | false =>
   have hg : ZaX (x :: L) k l = ZaX L k l := by simp only [ZaX, List.find?_cons, h]
   rw [hg]
   simp only [ih, Bool.false_eq_true, if_false]
   cases L.findIdx? (fun x => k == x.a0 && l == x.a1) with
   | none => rfl
   | some j => simp; omega
theorem Zsa {L : List RA} {k l : Int} : Zbh L k l = (L.findIdx? (fun x => k == x.a0 && l == x.a1)).isSome := by
 induction L with
 | nil => rfl
 | cons x L ih =>
  unfold Zbh at ih ⊢
  rw [List.any_cons, List.findIdx?_cons, ih]
  cases h : (k == x.a0 && l == x.a1) with
  | true => rfl
  | false => cases L.findIdx? (fun x => k == x.a0 && l == x.a1) <;> rfl
variable {fs : Array Field} (hu : P.underlying kt = some (.struct fs)) (hk : ∀ a b : Int, Zio P #[.int .i64 a, .int .i64 b] fs.toList = true) (he : ∀ a b c d : Int, Zin P kt (.agg #[.int .i64 a, .int .i64 b]) (.agg #[.int .i64 c, .int .i64 d]) = some ((a == c) && ((b == d) && true)))
include hu hk he
theorem Zmf (k l : Int) (L : List RA) : Zar P kt (.agg #[.int .i64 k, .int .i64 l]) (Zao L) = some ((L.findIdx? (fun x => k == x.a0 && l == x.a1)).map fun j => (j, .int .i64 (ZaX L k l))) := by
 unfold Zar
 rw [hu]
 show (bif Zio P #[.int .i64 k, .int .i64 l] fs.toList then _ else _) = _
 rw [hk, cond_true, Zq0 he]
 simp
theorem Ztx {L : List RA} {k l : Int} (h : Zbh L k l = true) : (Zar P kt (.agg #[.int .i64 k, .int .i64 l]) (Zao L)).map (Option.map Prod.snd) = some (some (.int .i64 (ZaX L k l))) := by
 rw [Zmf hu hk he]
 rw [Zsa] at h
 cases hi : L.findIdx? (fun x => k == x.a0 && l == x.a1) with
 | none => rw [hi] at h; cases h
 | some j => rfl
theorem Zty {L : List RA} {k l : Int} (h : ¬ (Zbh L k l = true)) : (Zar P kt (.agg #[.int .i64 k, .int .i64 l]) (Zao L)).map (Option.map Prod.snd) = some none := by
 rw [Zmf hu hk he]
 rw [Zsa] at h
 cases hi : L.findIdx? (fun x => k == x.a0 && l == x.a1) with
 | none => rfl
 | some j => rw [hi] at h; exact absurd rfl h
omit hu hk he in
theorem Zq1 (k l v : Int) : ∀ (L : List RA), (match L.findIdx? (fun x => k == x.a0 && l == x.a1) with | none => Zao L ++ [⟨.agg #[.int .i64 k, .int .i64 l], .int .i64 v, 0⟩] | some j => (Zao L).modify j fun e => ⟨.agg #[.int .i64 k, .int .i64 l], .int .i64 v, e.born⟩) = Zao (ZR L k l v)
 | [] => rfl
 | x :: L => by
  rw [List.findIdx?_cons]
  cases h : (k == x.a0 && l == x.a1) with
  | true =>
   simp only [if_true, ZR, h]
   simp [Zao]
  | false =>
   simp only [Bool.false_eq_true, if_false, ZR, h]
   have ih := Zq1 k l v L
   cases hi : L.findIdx? (fun x => k == x.a0 && l == x.a1) with
   | none =>
    rw [hi] at ih
    simp only [Option.map_none]
    simp only [Zao, List.map_cons, List.cons_append] at ih ⊢
    rw [ih]
   | some j =>
    rw [hi] at ih
    simp only [Option.map_some]
    simp only [Zao, List.map_cons, List.modify_succ_cons] at ih ⊢
    rw [ih]
omit hu hk he in
theorem ZtW {k l : Int} : ∀ {L : List RA} {j : Nat}, L.findIdx? (fun x => k == x.a0 && l == x.a1) = some j → (((Zao L)[j]?).map (·.key)).getD (.agg #[.int .i64 k, .int .i64 l]) = .agg #[.int .i64 k, .int .i64 l] := by
 intro L j h
 obtain ⟨hj, hp, _⟩ := List.findIdx?_eq_some_iff_getElem.1 h
 simp only [Bool.and_eq_true, beq_iff_eq] at hp
 simp [Zao, hj, hp.1, hp.2]
theorem ZtX (L : List RA) (k l v : Int) : putM P kt (.agg #[.int .i64 k, .int .i64 l]) (.int .i64 v) (Zao L) = some (Zao (ZR L k l v)) := by
 unfold putM
 rw [Zmf hu hk he]
 have h := Zq1 k l v L
 cases hi : L.findIdx? (fun x => k == x.a0 && l == x.a1) with
 | none => rw [hi] at h; exact congrArg some h
 | some j =>
  rw [hi] at h
  simp only [Option.map_some]
  rw [ZtW hi]
  have hs : Instr.sameBits 10000 (.agg #[.int .i64 k, .int .i64 l]) (.agg #[.int .i64 k, .int .i64 l]) = true := by
   simp [Instr.sameBits]
  rw [hs]
  exact congrArg some h
end
theorem Zjj {L : List RA} {k l : Int} (h : Zbh L k l = true) : (Zar Try.prog 25 (.agg #[.int .i64 k, .int .i64 l]) (Zao L)).map (Option.map Prod.snd) = some (some (.int .i64 (ZaX L k l))) := Ztx Try.underlying25 (fun _ _ => by kernel_rfl) (fun _ _ _ _ => by kernel_rfl) h
theorem Zjk {L : List RA} {k l : Int} (h : ¬ (Zbh L k l = true)) : (Zar Try.prog 25 (.agg #[.int .i64 k, .int .i64 l]) (Zao L)).map (Option.map Prod.snd) = some none := Zty Try.underlying25 (fun _ _ => by kernel_rfl) (fun _ _ _ _ => by kernel_rfl) h
theorem ZkW (L : List RA) (k l v : Int) : putM Try.prog 25 (.agg #[.int .i64 k, .int .i64 l]) (.int .i64 v) (Zao L) = some (Zao (ZR L k l v)) := ZtX Try.underlying25 (fun _ _ => by kernel_rfl) (fun _ _ _ _ => by kernel_rfl) L k l v
def Zbg (L : List RB) : List MapEntry := L.map fun x => ⟨.agg #[.int .i64 x.a0, .int .i64 x.a1], .agg #[.int .i64 x.a2, .int .i64 x.a3], 0⟩
def Zr (L : List RB) : Obj := .map (Zbg L).toArray 0
section
variable {P : Program} {kt : TypeId}
theorem Zq2 (he : ∀ a b c d : Int, Zin P kt (.agg #[.int .i64 a, .int .i64 b]) (.agg #[.int .i64 c, .int .i64 d]) = some ((a == c) && ((b == d) && true))) (k l : Int) : ∀ (L : List RB) (i : Nat), ZfS P kt (.agg #[.int .i64 k, .int .i64 l]) (Zbg L) i = some ((L.findIdx? (fun x => k == x.a0 && l == x.a1)).map fun j => (i + j, .agg #[.int .i64 (Zcy L k l).a2, .int .i64 (Zcy L k l).a3]))
 | [], i => rfl
 | x :: L, i => by
  have ih := Zq2 he k l L (i + 1)
  simp only [Zbg, List.map_cons, ZfS, he, Bool.and_true]
  simp only [Zbg] at ih
  have hf : Zbq (.agg #[.int .i64 x.a0, .int .i64 x.a1]) = true := rfl
  rw [hf, cond_true, List.findIdx?_cons]
  cases h : (k == x.a0 && l == x.a1) with
  | true => simp [Zcy, List.find?_cons, h]
  | false =>
   have hg : Zcy (x :: L) k l = Zcy L k l := by simp only [Zcy, List.find?_cons, h]
   rw [hg]
   simp only [ih, Bool.false_eq_true, if_false]
   cases L.findIdx? (fun x => k == x.a0 && l == x.a1) with
   | none => rfl
   | some j => simp; omega
theorem Zsb {L : List RB} {k l : Int} : Zcj L k l = (L.findIdx? (fun x => k == x.a0 && l == x.a1)).isSome := by
 induction L with
 | nil => rfl
 | cons x L ih =>
  unfold Zcj at ih ⊢
  rw [List.any_cons, List.findIdx?_cons, ih]
  cases h : (k == x.a0 && l == x.a1) with
  | true => rfl
  | false => cases L.findIdx? (fun x => k == x.a0 && l == x.a1) <;> rfl
variable {fs : Array Field} (hu : P.underlying kt = some (.struct fs)) (hk : ∀ a b : Int, Zio P #[.int .i64 a, .int .i64 b] fs.toList = true) (he : ∀ a b c d : Int, Zin P kt (.agg #[.int .i64 a, .int .i64 b]) (.agg #[.int .i64 c, .int .i64 d]) = some ((a == c) && ((b == d) && true)))
include hu hk he
theorem Zmg (k l : Int) (L : List RB) : Zar P kt (.agg #[.int .i64 k, .int .i64 l]) (Zbg L) = some ((L.findIdx? (fun x => k == x.a0 && l == x.a1)).map fun j => (j, .agg #[.int .i64 (Zcy L k l).a2, .int .i64 (Zcy L k l).a3])) := by
 unfold Zar
 rw [hu]
 show (bif Zio P #[.int .i64 k, .int .i64 l] fs.toList then _ else _) = _
 rw [hk, cond_true, Zq2 he]
 simp
theorem Ztz {L : List RB} {k l : Int} (h : Zcj L k l = true) : (Zar P kt (.agg #[.int .i64 k, .int .i64 l]) (Zbg L)).map (Option.map Prod.snd) = some (some (.agg #[.int .i64 (Zcy L k l).a2, .int .i64 (Zcy L k l).a3])) := by
 rw [Zmg hu hk he]
 rw [Zsb] at h
 cases hi : L.findIdx? (fun x => k == x.a0 && l == x.a1) with
 | none => rw [hi] at h; cases h
 | some j => rfl
theorem Zt0 {L : List RB} {k l : Int} (h : ¬ (Zcj L k l = true)) : (Zar P kt (.agg #[.int .i64 k, .int .i64 l]) (Zbg L)).map (Option.map Prod.snd) = some none := by
 rw [Zmg hu hk he]
 rw [Zsb] at h
 cases hi : L.findIdx? (fun x => k == x.a0 && l == x.a1) with
 | none => rfl
 | some j => rw [hi] at h; exact absurd rfl h
omit hu hk he in
theorem Zq3 (k l v u : Int) : ∀ (L : List RB), (match L.findIdx? (fun x => k == x.a0 && l == x.a1) with | none => Zbg L ++ [⟨.agg #[.int .i64 k, .int .i64 l], .agg #[.int .i64 v, .int .i64 u], 0⟩] | some j => (Zbg L).modify j fun e => ⟨.agg #[.int .i64 k, .int .i64 l], .agg #[.int .i64 v, .int .i64 u], e.born⟩) = Zbg (Zc9 L k l v u)
 | [] => rfl
 | x :: L => by
  rw [List.findIdx?_cons]
  cases h : (k == x.a0 && l == x.a1) with
  | true =>
   simp only [if_true, Zc9, h]
   simp [Zbg]
  | false =>
   simp only [Bool.false_eq_true, if_false, Zc9, h]
   have ih := Zq3 k l v u L
   cases hi : L.findIdx? (fun x => k == x.a0 && l == x.a1) with
   | none =>
    rw [hi] at ih
    simp only [Option.map_none]
    simp only [Zbg, List.map_cons, List.cons_append] at ih ⊢
    rw [ih]
   | some j =>
    rw [hi] at ih
    simp only [Option.map_some]
    simp only [Zbg, List.map_cons, List.modify_succ_cons] at ih ⊢
    rw [ih]
omit hu hk he in
theorem ZtY {k l : Int} : ∀ {L : List RB} {j : Nat}, L.findIdx? (fun x => k == x.a0 && l == x.a1) = some j → (((Zbg L)[j]?).map (·.key)).getD (.agg #[.int .i64 k, .int .i64 l]) = .agg #[.int .i64 k, .int .i64 l] := by
 intro L j h
 obtain ⟨hj, hp, _⟩ := List.findIdx?_eq_some_iff_getElem.1 h
 simp only [Bool.and_eq_true, beq_iff_eq] at hp
 simp [Zbg, hj, hp.1, hp.2]
theorem ZtZ (L : List RB) (k l v u : Int) : putM P kt (.agg #[.int .i64 k, .int .i64 l]) (.agg #[.int .i64 v, .int .i64 u]) (Zbg L) = some (Zbg (Zc9 L k l v u)) := by
 unfold putM
 rw [Zmg hu hk he]
 have h := Zq3 k l v u L
 cases hi : L.findIdx? (fun x => k == x.a0 && l == x.a1) with
 | none => rw [hi] at h; exact congrArg some h
 | some j =>
  rw [hi] at h
  simp only [Option.map_some]
  rw [ZtY hi]
  have hs : Instr.sameBits 10000 (.agg #[.int .i64 k, .int .i64 l]) (.agg #[.int .i64 k, .int .i64 l]) = true := by
   simp [Instr.sameBits]
  rw [hs]
  exact congrArg some h
end
theorem ZkX {L : List RB} {k l : Int} (h : Zcj L k l = true) : (Zar Try.prog 25 (.agg #[.int .i64 k, .int .i64 l]) (Zbg L)).map (Option.map Prod.snd) = some (some (.agg #[.int .i64 (Zcy L k l).a2, .int .i64 (Zcy L k l).a3])) := Ztz Try.underlying25 (fun _ _ => by kernel_rfl) (fun _ _ _ _ => by kernel_rfl) h
theorem ZkY {L : List RB} {k l : Int} (h : ¬ (Zcj L k l = true)) : (Zar Try.prog 25 (.agg #[.int .i64 k, .int .i64 l]) (Zbg L)).map (Option.map Prod.snd) = some none := Zt0 Try.underlying25 (fun _ _ => by kernel_rfl) (fun _ _ _ _ => by kernel_rfl) h
theorem Zua (L : List RB) (k l v u : Int) : putM Try.prog 25 (.agg #[.int .i64 k, .int .i64 l]) (.agg #[.int .i64 v, .int .i64 u]) (Zbg L) = some (Zbg (Zc9 L k l v u)) := ZtZ Try.underlying25 (fun _ _ => by kernel_rfl) (fun _ _ _ _ => by kernel_rfl) L k l v u
instance : Inhabited R_ii := ⟨R_ii.z⟩
instance : Inhabited RA := ⟨RA.z⟩
instance : Inhabited RB := ⟨RB.z⟩
instance : Inhabited R_iiiiiiiA := ⟨R_iiiiiiiA.z⟩
def Zrv : FuncId → Option (List Value → Option Value) := fun f =>
 bif Nat.beq f 8 then some (fun l => match l with | [] => some (.bool true) | _ => none) else
 none
theorem Zsc (w : World) : Calls Try.prog 8 #[] w (Ret (.bool true) w) := ZtQ 40000 w (by kernel_rfl) rfl
theorem Zub : ZmI Zrv := fun f g h => by
 unfold Zrv at h
 cases hb : Nat.beq f 8 with
 | true =>
  rw [hb] at h
  obtain rfl := Nat.eq_of_beq_eq_true hb
  simp only [cond_true, Option.some.injEq] at h
  subst h
  refine ⟨⟨_, _, Try.func8, rfl⟩, fun args v ha hv w => ?_⟩
  obtain ⟨l⟩ := args
  cases l with
  | nil =>
   change some (Value.bool true) = some v at hv
   injection hv with hv
   subst hv
   exact Zsc w
  | cons x l => change (none : Option Value) = some v at hv; cases hv
 | false =>
  rw [hb] at h
  simp only [cond_false] at h
  cases h
def Ztg : FuncId → Bool := fun f => Nat.beq f 30 || Nat.beq f 16 || Nat.beq f 29 || Nat.beq f 4 || Nat.beq f 5 || Nat.beq f 9 || Nat.beq f 12 || Nat.beq f 11 || Nat.beq f 26 || Nat.beq f 13 || Nat.beq f 10 || Nat.beq f 23 || Nat.beq f 14 || Nat.beq f 27 || Nat.beq f 24
noncomputable def Zq : FuncId → Option Ext := Zrq (ZsC Zrv) Ztg
theorem Zb0 : Fit Try.prog Zq := fitT (fitS Zub) (fun f h => by
 simp only [Ztg, Bool.or_eq_true] at h
 simp only [Nat.beq_eq] at h
 rcases h with (((((((((((((rfl | rfl) | rfl) | rfl) | rfl) | rfl) | rfl) | rfl) | rfl) | rfl) | rfl) | rfl) | rfl) | rfl) | rfl
 ·exact ⟨_, _, Try.func30, rfl⟩
 ·exact ⟨_, _, Try.func16, rfl⟩
 ·exact ⟨_, _, Try.func29, rfl⟩
 ·exact ⟨_, _, Try.func4, rfl⟩
 ·exact ⟨_, _, Try.func5, rfl⟩
 ·exact ⟨_, _, Try.func9, rfl⟩
 ·exact ⟨_, _, Try.func12, rfl⟩
 ·exact ⟨_, _, Try.func11, rfl⟩
 ·exact ⟨_, _, Try.func26, rfl⟩
 ·exact ⟨_, _, Try.func13, rfl⟩
 ·exact ⟨_, _, Try.func10, rfl⟩
 ·exact ⟨_, _, Try.func23, rfl⟩
 ·exact ⟨_, _, Try.func14, rfl⟩
 ·exact ⟨_, _, Try.func27, rfl⟩
 ·exact ⟨_, _, Try.func24, rfl⟩
 )
end Ev
end Go.Proofs.Ytmcgcapkldpjlaa
/- Ranges over functions: an iterator's loop by its rounds. -/
namespace Go.Proofs.Ytmcgcapkldpjlaa
open Go.RowKit
namespace Ev
section
variable {P : Program} {ext : FuncId → Option Ext}
section
variable {ι0 : Ren} {h0 : AH} {w0 : World} {n0 cn : Nat} {cT : Tr Value} {ac : Act} {l K : Nat} {R : Loop}
theorem IS.into {nt m : Nat} {L : Nat → Option Value} {H : Tr AObj} {T : Tr Value} {s : St} {live : List Nat} (hm : m ≤ far) (h : Zrk nt m L H T s live) {n1 : Nat} (hk : Zea n1 live = true) (hd : ∀ k, ι0 k ≠ none → k < n1 ∨ ZbW k)
  {ι : Ren} {a : Act} {W : World} (hb : TR ι0 cn [] cT { tmps := ac.tmps, defers := [] }) (hT : TR ι nt [] T a) (I : IS P ι0 h0 w0 0 cn cT ac l K R ι s W) (orc : Orc) :
  ∃ gv ι', TR ι' nt [] (tmps nt L gv) a ∧ IS P ι0 h0 w0 0 cn cT ac l K R ι' ⟨H, m, [], orc, []⟩ W ∧ ∀ k, m ≤ k → k < far → ι' k = none := by
 obtain ⟨gv, ι', a1, a2, a3, a4⟩ := Zpd hT I.st live m far rfl (ZlW hk) h.1 hm h.2.1 (fun k hk2 => (hd k hk2).imp (ZjH hk) id) L h.2.2.1 H.get h.2.2.2
 refine ⟨gv, ι', a1, ⟨a2, fun k hk => ?_, Nat.zero_le _, hb.on a2.ext, I.lo, I.de, I.ll, I.lk, fun k b hk => ?_⟩, a3⟩
 ·rcases Nat.lt_or_ge k m with h | h
  ·exact .inr (.inl ⟨Nat.zero_le _, h⟩)
  ·rcases Nat.lt_or_ge k far with h' | h'
   ·exact absurd (a3 k h h') hk
   ·exact .inr (.inr h')
 ·obtain ⟨k2, hk2⟩ := a4 k b hk
  exact I.nl k2 b hk2
end
end
end Ev
end Go.Proofs.Ytmcgcapkldpjlaa
/- A function with a range over a function whose rounds are many: what it does, from its parts. -/
namespace Go.Proofs.Ytmcgcapkldpjlaa
open Go.RowKit
namespace Ev
noncomputable section
end
section
variable {P : Program} {ext : FuncId → Option Ext}
instance (k : Nat) : Decidable (ZbW k) := by unfold ZbW; infer_instance
def Zft (m : Nat) : Nat → Value → Bool
 | d + 1, .agg cs => Z4 (Zft m d) cs.toList
 | d + 1, .tuple cs => Z4 (Zft m d) cs.toList
 | d + 1, .func _ a b => Z4 (Zft m d) a.toList && Z4 (Zft m d) b.toList
 | _, .pointer (some ⟨k, _, none⟩) => Nat.blt k m
 | _, .slice (some ⟨k, _, none⟩) _ _ => Nat.blt k m
 | _, .map (some k) => Nat.blt k m
 | _, v => atom v
theorem VR.cut {ι ι2 : Ren} {m : Nat} (hι : ∀ k b, k < m ∨ ZbW k → ι k = some b → ι2 k = some b) : ∀ (d : Nat) (v v' : Value), VR ι v v' → Zft m d v = true → VR ι2 v v'
 | d, v, v', h, hd => by
  cases h with
  | atom h => exact .atom h
  | glob h => exact .glob h
  | ptr h => cases d <;> exact .ptr (hι _ _ (.inl (Nat.le_of_ble_eq_true hd)) h)
  | map h => cases d <;> exact .map (hι _ _ (.inl (Nat.le_of_ble_eq_true hd)) h)
  | slice h hn hc hq => cases d <;> exact .slice (hι _ _ (.inl (Nat.le_of_ble_eq_true hd)) h) hn hc hq
  | slice0 h => exact .slice0 h
  | mptr h => exact .mptr (hι _ _ (.inr (Zg1 _ _ _)) h)
  | mslice h hn hc => exact .mslice (hι _ _ (.inr (Zg1 _ _ _)) h) hn hc
  | func hs ht h1 h2 =>
   rename_i fn a a' b b'
   cases d with
   | zero =>
    have ha : Ev.atom (.func fn a b) = true := hd
    have e := VR.eq_of_atom ha (.func hs ht h1 h2)
    rw [e]
    exact .atom ha
   | succ d =>
    simp only [Zft, Bool.and_eq_true] at hd
    exact .func hs ht (fun i x y hx hy => VR.cut hι d x y (h1 i x y hx hy) (ZaL hd.1 i x hx)) (fun i x y hx hy => VR.cut hι d x y (h2 i x y hx hy) (ZaL hd.2 i x hx))
  | agg hs h1 =>
   cases d with
   | zero => simp [Zft, Ev.atom] at hd
   | succ d =>
    simp only [Zft] at hd
    exact .agg hs fun i x y hx hy => VR.cut hι d x y (h1 i x y hx hy) (ZaL hd i x hx)
  | tuple hs h1 =>
   cases d with
   | zero => simp [Zft, Ev.atom] at hd
   | succ d =>
    simp only [Zft] at hd
    exact .tuple hs fun i x y hx hy => VR.cut hι d x y (h1 i x y hx hy) (ZaL hd i x hx)
theorem VR.cutU {ι ι2 : Ren} {m : Nat} (hι : ∀ k b, k < m ∨ ZbW k → ι k = some b → ι2 k = some b) : ∀ (d : Nat) (v v' : Value), VR ι v v' → ZbE m d v = true → VR ι2 v v'
 | d, v, v', h, hd => by
  cases h with
  | atom h => exact .atom h
  | glob h => exact .glob h
  | ptr h => cases d <;> exact .ptr (hι _ _ (.inl (Nat.le_of_ble_eq_true hd)) h)
  | map h => cases d <;> exact .map (hι _ _ (.inl (Nat.le_of_ble_eq_true hd)) h)
  | slice h hn hc hq => cases d <;> exact .slice (hι _ _ (.inl (Nat.le_of_ble_eq_true hd)) h) hn hc hq
  | slice0 h => exact .slice0 h
  | mptr h => exact .mptr (hι _ _ (.inr (Zg1 _ _ _)) h)
  | mslice h hn hc => exact .mslice (hι _ _ (.inr (Zg1 _ _ _)) h) hn hc
  | func hs ht h1 h2 =>
   rename_i fn a a' b b'
   have ha : Ev.atom (.func fn a b) = true := by cases d <;> exact hd
   have e := VR.eq_of_atom ha (.func hs ht h1 h2)
   rw [e]
   exact .atom ha
  | agg hs h1 =>
   cases d with
   | zero => simp [ZbE, Ev.atom] at hd
   | succ d =>
    simp only [ZbE] at hd
    exact .agg hs fun i x y hx hy => VR.cutU hι d x y (h1 i x y hx hy) (ZaL hd i x hx)
  | tuple hs h1 =>
   cases d with
   | zero => simp [ZbE, Ev.atom] at hd
   | succ d =>
    simp only [ZbE] at hd
    exact .tuple hs fun i x y hx hy => VR.cutU hι d x y (h1 i x y hx hy) (ZaL hd i x hx)
def ZgR (m : Nat) : List (Option AObj) → Prop
 | [] => True
 | o :: l => (match o with | some x => ZgO m x = true | none => True) ∧ ZgR m l
theorem ZmL {m : Nat} : ∀ {H : List (Option AObj)}, ZgR m H → ∀ k o, lkO H k = some o → ZgO m o = true
 | [], _, k, o, hk => by simp [lkO] at hk
 | x :: H, h, 0, o, hk => by
  have e : x = some o := by simpa [lkO] using hk
  subst e
  exact h.1
 | x :: H, h, k + 1, o, hk => ZmL h.2 k o (by simpa [lkO] using hk)
end
end Ev
end Go.Proofs.Ytmcgcapkldpjlaa
/- What a function hands back in a block of its own, which nobody writes any more: a plain value. -/
namespace Go.Proofs.Ytmcgcapkldpjlaa
open Go.RowKit
namespace Ev
set_option linter.unusedVariables false
section
variable {P : Program}
theorem ZkZ {c c' : List Cell} {o : Nat} (h : Zaj (code c) o c'.length = some c') : c' = (c.drop o).take c'.length ∧ c'.length ≤ (c.drop o).length := by
 unfold Zaj at h
 rw [Zc7] at h
 exact ZdU h
theorem Zq4 {c c' : List Cell} {o : Nat} (h : c' = (c.drop o).take c'.length) (hl : c'.length ≤ (c.drop o).length) : Zaj (code c) o c'.length = some c' := by
 unfold Zaj
 rw [Zc7]
 show Zl c'.length (c.drop o) = some c'
 rw [ZhR _ _ hl, ← h]
theorem Zt1 {c c1 c2 : List Cell} {o o2 : Nat} (h : Zaj (code c) o c1.length = some c1) (h2 : Zaj (code c1) o2 c2.length = some c2) : Zaj (code c) (o + o2) c2.length = some c2 := by
 obtain ⟨a1, a2⟩ := ZkZ h
 obtain ⟨b1, b2⟩ := ZkZ h2
 rw [List.length_drop] at a2 b2
 have e2 : c1.drop o2 = ((c.drop o).drop o2).take (c1.length - o2) := by rw [← List.drop_take, ← a1]
 refine Zq4 ?_ (by rw [List.length_drop]; omega)
 rw [← List.drop_drop]
 conv => lhs; rw [b1, e2, List.take_take, Nat.min_eq_left b2]
noncomputable def ιFz (ι : Ren) (j b0 : Nat) (c : List Cell) : Ren := fun k => @ite _ (k < j ∨ (ZbW k ∧ ι k ≠ none)) (Classical.propDecidable _) (ι k) (@dite _ (∃ o c', k = ZY b0 o (code c') ∧ Zaj (code c) o c'.length = some c') (Classical.propDecidable _) (fun _ => some (b0, 0)) (fun _ => none))
theorem ιFz_old {ι : Ren} {j b0 k : Nat} {c : List Cell} (h : k < j ∨ (ZbW k ∧ ι k ≠ none)) : ιFz ι j b0 c k = ι k := by unfold ιFz; rw [if_pos h]
theorem ιFz_new {ι : Ren} {j b0 o : Nat} {c c' : List Cell} (hj : j ≤ 1000000000) (hn : ι (ZY b0 o (code c')) = none) (h : Zaj (code c) o c'.length = some c') : ιFz ι j b0 c (ZY b0 o (code c')) = some (b0, 0) := by
 unfold ιFz
 rw [if_neg (fun q => q.elim (fun q => by have := Ze3 b0 o (code c'); omega) (fun q => q.2 hn)), dif_pos ⟨o, c', rfl, h⟩]
theorem ιFz_inv {ι : Ren} {j b0 k : Nat} {c : List Cell} {q : Nat × Nat} (h : ιFz ι j b0 c k = some q) : ((k < j ∨ (ZbW k ∧ ι k ≠ none)) ∧ ι k = some q) ∨ (q = (b0, 0) ∧ ∃ o c', k = ZY b0 o (code c') ∧ Zaj (code c) o c'.length = some c') := by
 by_cases hk : k < j ∨ (ZbW k ∧ ι k ≠ none)
 ·rw [ιFz_old hk] at h; exact .inl ⟨hk, h⟩
 ·unfold ιFz at h
  rw [if_neg hk] at h
  by_cases hd : ∃ o c', k = ZY b0 o (code c') ∧ Zaj (code c) o c'.length = some c'
  ·rw [dif_pos hd] at h; injection h with h; exact .inr ⟨h.symm, hd⟩
  ·rw [dif_neg hd] at h; cases h
theorem Zq5 {post : List (Option AObj)} {o : AObj} : lkO (post ++ [some o]) post.length = some o := by simp [lkO]
theorem ZhT {post : List (Option AObj)} {x : Option AObj} {k : Nat} {o : AObj} (h : lkO post k = some o) : k < post.length ∧ lkO (post ++ [x]) k = some o := by
 unfold lkO at h ⊢
 cases hx : post[k]? with
 | none => rw [hx] at h; cases h
 | some y =>
  have hk := (List.getElem?_eq_some_iff.1 hx).1
  exact ⟨hk, by rw [List.getElem?_append_left hk]; exact h⟩
theorem ZmM {post : List (Option AObj)} {x : Option AObj} {k : Nat} (h : isC (lkO post k) = true) : k < post.length ∧ isC (lkO (post ++ [x]) k) = true := by
 cases ho : lkO post k with
 | none => rw [ho] at h; cases h
 | some o => obtain ⟨h1, h2⟩ := ZhT (x := x) ho; rw [ho] at h; exact ⟨h1, by rw [h2]; exact h⟩
theorem Zt2 {ι : Ren} {w w' : World} {e : Ending} {pre : List AObj} {v v2 : Value} {post : List (Option AObj)} {c : List Cell} {t : TypeId} (hd : ∀ k, ι k ≠ none → k < pre.length ∨ ZbW k) (hfin : Fin P ι pre w v (post ++ [some (.cells (Z9 c) t)]) e w') (hpre : pre.length ≤ post.length) (hle : post.length < 1000000000) (hUA : ZgR post.length post)
  (hv : ∀ (ι ι2 : Ren) v', (∀ k b, k < post.length ∨ ZbW k → ι k = some b → ι2 k = some b) → (∀ b, ι post.length = some b → ∃ q, ι2 (ZY b.1 0 (code c)) = some q) → VR ι v v' → VR ι2 v2 v') : Fin P ι pre w v2 post e w' := by
 obtain ⟨v', ι', rfl, hS, hdm, hvr⟩ := hfin
 obtain ⟨b0, C, q1, q2, q3, q4⟩ := hS.emb.obj post.length (Z9 c) t Zq5
 have hC0 : isC (lkO (post ++ [some (.cells (Z9 c) t)]) post.length) = true := by rw [Zq5]; rfl
 have hno : ∀ base id, ι' (ZY b0.1 base id) = none := fun base id => by
  cases hm : ι' (ZY b0.1 base id) with
  | none => rfl
  | some q => exact absurd rfl ((hS.emb.mks _ _ _ _ hm).2.2 _ _ hC0 q1)
 have hι : ∀ k b, k < post.length ∨ ZbW k → ι' k = some b → ιFz ι' post.length b0.1 c k = some b := fun k b hk hb => by
  rw [ιFz_old (hk.imp id fun q => ⟨q, by rw [hb]; simp⟩)]; exact hb
 have hself : Zaj (code c) 0 c.length = some c := Zq4 (by simp) (by simp)
 have hj : ι post.length = none := by
  cases hk : ι post.length with
  | none => rfl
  | some b => exact absurd (hd post.length (by rw [hk]; simp)) (by unfold ZbW; omega)
 have hnew : w.heap.size ≤ b0.1 ∨ ∃ i d, isC (lk pre i) = true ∧ ι i = some d ∧ d.1 = b0.1 := hS.new _ _ hj q1
 have hlow : ∀ k b, k < post.length → ιFz ι' post.length b0.1 c k = some b → ι' k = some b := fun k b hk hb => by
  rwa [ιFz_old (.inl hk)] at hb
 refine ⟨v', ιFz ι' post.length b0.1 c, rfl, ⟨fun k b hb => hι k b ((hd k (by rw [hb]; simp)).imp (fun q => by omega) id) (hS.ext k b hb), ⟨fun k c' t' hk => ?_, fun k O hk => ?_, fun k k' b b' h1 h2 h3 h4 h5 => ?_, fun k b hb => ?_, fun b base id q hq => ?_⟩, hS.os, hS.tape, hS.output, hS.size, hS.frame, fun k b h1 h2 => ?_, fun k h1 h2 => ?_, fun k h1 h2 => ?_⟩, fun k hk => ?_, hv ι' _ v' hι (fun b hb => ?_) hvr⟩
 ·obtain ⟨hk1, hk2⟩ := ZhT (x := some (.cells (Z9 c) t)) hk
  obtain ⟨b, D, r1, r2, r3, r4⟩ := hS.emb.obj k c' t' hk2
  have hcs : Z4 (ZbE post.length 1) c' = true := ZmL hUA k (.cells c' t') hk
  exact ⟨b, D, hι k b (.inl hk1) r1, r2, ⟨r3.1, fun i x y hx hy => VR.cutU hι 1 x y (r3.2 i x y hx hy) (Za2 hcs x (List.mem_of_getElem? hx))⟩, r4⟩
 ·obtain ⟨hk1, hk2⟩ := ZhT (x := some (.cells (Z9 c) t)) hk
  obtain ⟨b, r1, r2⟩ := hS.emb.ro k O hk2
  exact ⟨b, hι k b (.inl hk1) r1, r2⟩
 ·obtain ⟨g1, g2⟩ := ZmM (x := some (.cells (Z9 c) t)) h1
  cases ho : lkO post k' with
  | none => rw [ho] at h2; cases h2
  | some o =>
   obtain ⟨g3, g4⟩ := ZhT (x := some (.cells (Z9 c) t)) ho
   exact hS.emb.inj k k' b b' g2 (by rw [g4]; rfl) (hlow k b g1 h3) (hlow k' b' g3 h4) h5
 ·rcases ιFz_inv hb with ⟨_, h2⟩ | ⟨rfl, _⟩
  ·exact hS.emb.lt k b h2
  ·exact (show b0.1 < _ from hS.emb.lt _ _ q1)
 ·have hmk : ∀ b base id q, ι' (ZY b base id) = some q → ιFz ι' post.length b0.1 c (ZY b base id) = some q := fun b base id q h => hι _ _ (.inr (Zg1 _ _ _)) h
  have hiso : ∀ k d, isC (lkO post k) = true → ιFz ι' post.length b0.1 c k = some d → d.1 ≠ b0.1 := fun k d hk hd2 hb => by
   obtain ⟨g1, g2⟩ := ZmM (x := some (.cells (Z9 c) t)) hk
   have := hS.emb.inj k post.length d b0 g2 (Zbi hC0) (hlow k d g1 hd2) q1 hb
   omega
  rcases ιFz_inv hq with ⟨_, h2⟩ | ⟨rfl, o, c', hk, hg⟩
  ·obtain ⟨m1, m2, m3⟩ := hS.emb.mks b base id q h2
   refine ⟨m1, ⟨m2.1.on hmk, fun o c' hc => hmk _ _ _ _ (m2.2 o c' hc)⟩, fun k d hk hd2 => ?_⟩
   obtain ⟨g1, g2⟩ := ZmM (x := some (.cells (Z9 c) t)) hk
   exact m3 k d g2 (hlow k d g1 hd2)
  ·obtain ⟨rfl, rfl, rfl⟩ := ZlP hk
   obtain ⟨a1, a2⟩ := ZkZ hg
   rw [List.length_drop] at a2
   have hsz : (Z9 c).length = c.length := by simp [Z9]
   refine ⟨rfl, ⟨⟨c', C, t, (0, 0), Zc7 c', q2, fun hp => by have := q3.1; omega, fun i x y hx hy => ?_⟩, fun o2 c2 hc2 => ιFz_new (by omega) (hno _ _) (Zt1 hg hc2)⟩, hiso⟩
   have hi : i < c'.length := by
    have := (List.getElem?_eq_some_iff.1 hx).1
    simpa [Z9] using this
   have hx2 : (Z9 c)[base + i]? = some x := by
    unfold Z9 at hx ⊢
    rw [List.getElem?_map] at hx ⊢
    rw [a1, List.getElem?_take_of_lt hi, List.getElem?_drop] at hx
    exact hx
   have hv2 := q3.2 (base + i) x y hx2 hy
   unfold Z9 at hx2
   rw [List.getElem?_map] at hx2
   cases hz : c[base + i]? with
   | none => rw [hz] at hx2; cases hx2
   | some z =>
    rw [hz] at hx2
    injection hx2 with hx2
    subst hx2
    exact ZoD hmk hv2
 ·rcases ιFz_inv h2 with ⟨_, h3⟩ | ⟨rfl, _⟩
  ·exact hS.new k b h1 h3
  ·exact hnew
 ·cases ho : lkO post k with
  | none => rw [ho] at h1; cases h1
  | some o => exact hS.alive k (by rw [(ZhT (x := some (.cells (Z9 c) t)) ho).2]; rfl) h2
 ·exact hS.kind k (ZmM h1).2 h2
 ·cases hq : ιFz ι' post.length b0.1 c k with
  | none => exact absurd hq hk
  | some q =>
   rcases ιFz_inv hq with ⟨h1 | ⟨h1, _⟩, _⟩ | ⟨_, o, c', rfl, _⟩
   ·exact .inl h1
   ·exact .inr h1.1
   ·exact .inr (Ze3 _ _ _).1
 ·obtain rfl : b = b0 := by rw [q1] at hb; injection hb with hb; exact hb.symm
  exact ⟨_, ιFz_new (by omega) (hno _ _) hself⟩
theorem Zt3 {α : Type} {E : Enc α} {L : List α} {j n m : Nat} {ι ι2 : Ren} {v' : Value} (hb : ∀ b, ι j = some b → ∃ q, ι2 (ZY b.1 0 (code (ZI E L))) = some q) (hv : VR ι (.slice (some ⟨j, 0, none⟩) n m) v') : VR ι2 (.slice (some ⟨code (ZI E L), 0, some 0⟩) n m) v' := by
 cases hv with
 | atom h => cases h
 | slice h1 h2 h3 h4 =>
  obtain ⟨q, hq⟩ := hb _ h1
  have := VR.mslice (ι := ι2) (base := 0) (o := 0) (z := 0) hq h2 h3
  exact this
 | slice0 h => exact .slice0 h
theorem Zmh {α : Type} {E : Enc α} {L : List α} {ι : Ren} {w w' : World} {e : Ending} {pre : List AObj} {post : List (Option AObj)} {t : TypeId} (hd : ∀ k, ι k ≠ none → k < pre.length ∨ ZbW k) (h : Fin P ι pre w (.slice (some ⟨post.length, 0, none⟩) L.length L.length) (post ++ [some (.cells (Zb E L) t)]) e w') (hpre : pre.length ≤ post.length) (hle : post.length < 1000000000) (hUA : ZgR post.length post) : Fin P ι pre w (ms E L) post e w' := by
 rw [Zff] at h
 exact Zt2 hd h hpre hle hUA fun ι ι2 v' hk hb hv => Zt3 hb hv
theorem LSpec.frz1 {α : Type} {E : Enc α} {L : List α} {f : FuncId} {A : Array Value} {pre : List AObj} {post : List (Option AObj)} {t : TypeId} {n m : Nat} (h : LSpec P f A pre (.slice (some ⟨post.length, 0, none⟩) n m) (post ++ [some (.cells (Zb E L) t)])) (hpre : pre.length ≤ post.length) (hle : post.length < 1000000000) (hUA : ZgR post.length post) (hn : n = L.length) (hm : m = L.length) : LSpec P f A pre (ms E L) post := by
 subst hn hm
 intro ι w args' hd ha he
 exact (h ι w args' hd ha he).mono fun e w' hf => Zmh hd hf hpre hle hUA
end
end Ev
end Go.Proofs.Ytmcgcapkldpjlaa
/- slices.Clone, in a store of one's own. -/
namespace Go.Proofs.Ytmcgcapkldpjlaa
open Go.RowKit
namespace Ev
set_option linter.unusedVariables false
section
variable {P : Program}
theorem Zps {w : World} {b o : Nat} {C : Array Value} {t : TypeId} {fr : Nat × Nat} (hB : w.heap[b]? = some (.cells C t fr)) : w.cell? ⟨b, o, none⟩ = C[o]? := by simp [World.cell?, hB]
theorem VR.oneC {ι : Ren} {z : Cell} {y : Value} (h : VR ι (Zdt z) y) : y.oneCell' = true := by
 cases z with
 | any => cases h with
  | atom h => exact (Bool.false_ne_true h).elim
  | glob h => exact h
 | m id o n c => cases h with
  | atom h => exact (Bool.false_ne_true h).elim
  | slice0 h => rfl
  | mslice h hn hc => rfl
 | _ => rw [h.eq_of_atom rfl]; rfl
theorem ZmN {ι : Ren} {h : AH} {w w' : World} (e : Emb P ι h w) (hB : Below w.heap.size w w') : Step P ι h w ι h w' := by
 have hs : ∀ k b, ι k = some b → w'.heap[b.1]? = w.heap[b.1]? := fun k b hk => hB.block _ (e.lt k b hk)
 refine ⟨fun _ _ h => h, ⟨fun k c t hk => ?_, fun k O hk => ?_, e.inj, fun k b hk => Nat.lt_of_lt_of_le (e.lt k b hk) hB.size, e.marks (fun _ _ h => h) (fun b hb _ => hB.block b hb) (fun _ _ _ _ h => h) fun k d hk hd => .inr ⟨k, d, hk, hd, rfl⟩⟩, hB.os, hB.tape, hB.output, hB.size, fun b hb _ => hB.block b hb, fun k b h1 h2 => (by rw [h1] at h2; cases h2), fun k h1 _ => h1, fun k h1 _ => h1⟩
 ·obtain ⟨b, C, h1, h2, h3⟩ := e.obj k c t hk
  exact ⟨b, C, h1, (hs k b h1).trans h2, h3⟩
 ·obtain ⟨b, h1, h2⟩ := e.ro k O hk
  exact ⟨b, h1, by rw [hs k b h1]; exact h2⟩
theorem Zt4 {ι : Ren} {h : AH} {w : World} (e : Emb P ι h w) {n : Nat} (hnf : n < 1000000000) (hn : ι n = none) {g cap : Nat} {c : List Value} {cur : Array Value} {t : TypeId} (hg : ∀ k b, ι k = some b → b.1 ≠ g) (hgc : w.heap[g]? = some (.cells cur t (0, 0))) (hc : CR ι c cur) (hq : ∀ i, P.info? t = some i → cap * i.size ≤ cur.size) : Emb P (upd ι n (some (g, cap))) (upd h n (some (.cells c t))) w := by
 have hx : ∀ k b, ι k = some b → upd ι n (some (g, cap)) k = some b := fun k b hk => by
  rw [Zj]; · exact hk
  ·intro e; subst e; rw [hn] at hk; cases hk
 refine ⟨fun k c' t' hk => ?_, fun k O hk => ?_, fun k k' b b' h1 h2 h3 h4 h5 => ?_, fun k b hk => ?_, fun b base id q hq => ?_⟩
 ·by_cases hk0 : k = n
  ·subst hk0
   rw [Zu] at hk
   injection hk with hk
   injection hk with h1 h2
   subst h1 h2
   exact ⟨_, cur, Zu, hgc, hc.ext hx, hq⟩
  ·rw [Zj hk0] at hk
   obtain ⟨b, C', hb, hB, hC, hQ⟩ := e.obj k c' t' hk
   exact ⟨b, C', hx k b hb, hB, hC.ext hx, hQ⟩
 ·by_cases hk0 : k = n
  ·subst hk0; rw [Zu] at hk; injection hk with hk; cases hk
  ·rw [Zj hk0] at hk
   obtain ⟨b, hb, hB⟩ := e.ro k O hk
   exact ⟨b, hx k b hb, hB⟩
 ·by_cases hk0 : k = n
  ·by_cases hk1 : k' = n
   ·exact hk0.trans hk1.symm
   ·subst hk0
    rw [Zu] at h3; rw [Zj hk1] at h4
    injection h3 with h3; subst h3
    exact absurd h5.symm (hg _ _ h4)
  ·rw [Zj hk0] at h1 h3
   by_cases hk1 : k' = n
   ·subst hk1
    rw [Zu] at h4
    injection h4 with h4; subst h4
    exact absurd h5 (hg _ _ h3)
   ·rw [Zj hk1] at h2 h4
    exact e.inj k k' b b' h1 h2 h3 h4 h5
 ·by_cases hk0 : k = n
  ·subst hk0; rw [Zu] at hk; injection hk with hk; subst hk; exact (Array.getElem?_eq_some_iff.1 hgc).1
  ·rw [Zj hk0] at hk; exact e.lt k b hk
 ·have h0 := Zj6 hnf _ _ _ _ hq
  obtain ⟨m1, m2, m3⟩ := e.mks b base id q h0
  refine ⟨m1, ⟨m2.1.ext hx rfl, fun o c hc => hx _ _ (m2.2 o c hc)⟩, fun k d hk hd => ?_⟩
  by_cases hk0 : k = n
  ·subst hk0
   rw [Zu] at hd; injection hd with hd; subst hd
   intro hb
   exact hg _ _ h0 (m1.trans hb.symm)
  ·rw [Zj hk0] at hk hd; exact m3 k d hk hd
theorem Zt5 (pre : List AObj) (o : AObj) : lkO (pre.map some ++ [some o]) = upd (lk pre) pre.length (some o) := by
 funext k
 unfold lkO lk upd
 by_cases h : k = pre.length
 ·subst h; simp
 ·rw [if_neg h]
  by_cases h2 : k < pre.length
  ·rw [List.getElem?_append_left (by simpa using h2)]; simp [h2]
  ·rw [List.getElem?_eq_none (by simp; omega)]
   show none = pre[k]?
   rw [List.getElem?_eq_none (by omega)]
theorem ZsK (pre : List AObj) : lkO (pre.map some) = lk pre := by
 funext k
 unfold lkO lk
 by_cases h2 : k < pre.length
 ·simp [h2]
 ·rw [List.getElem?_eq_none (by simp; omega)]
  show none = pre[k]?
  rw [List.getElem?_eq_none (by omega)]
theorem ZsL {ι : Ren} {pre : List AObj} {w w' : World} (hd : ∀ k, ι k ≠ none → k < pre.length ∨ ZbW k) (he : Emb P ι (lk pre) w) (hB : Below w.heap.size w w') {v v' : Value} (hv : VR ι v v') : Fin P ι pre w v (pre.map some) (.returned v') w' := by
 refine ⟨v', ι, rfl, ?_, fun k hk => (hd k hk).imp (fun q => by simpa using q) (fun q => q.1), hv⟩
 rw [ZsK]
 exact ZmN he hB
theorem Zt6 {ι : Ren} {pre : List AObj} {w w' : World} (hpre : pre.length < 1000000000) (hd : ∀ k, ι k ≠ none → k < pre.length ∨ ZbW k) (he : Emb P ι (lk pre) w) (hB : Below w.heap.size w w') {g cap n : Nat} {c : List Value} {cur : Array Value} {t : TypeId} (hg : w.heap.size ≤ g) (hgc : w'.heap[g]? = some (.cells cur t (0, 0))) (hc : CR ι c cur) (hq : ∀ i, P.info? t = some i → cap * i.size ≤ cur.size) (hn : n ≤ cap) :
  Fin P ι pre w (.slice (some ⟨pre.length, 0, none⟩) n n) (pre.map some ++ [some (.cells c t)]) (.returned (.slice (some ⟨g, 0, none⟩) n cap)) w' := by
 have hj : ι pre.length = none := by
  cases hk : ι pre.length with
  | none => rfl
  | some b => exact absurd (hd pre.length (by rw [hk]; simp)) (by unfold ZbW; omega)
 have S := ZmN he hB
 have E2 := Zt4 S.emb hpre hj (g := g) (cap := cap) (c := c) (cur := cur) (t := t) (fun k b hk hb => by have := he.lt k b hk; omega) hgc hc hq
 have hx : ∀ k b, ι k = some b → upd ι pre.length (some (g, cap)) k = some b := fun k b hk => by
  rw [Zj]; · exact hk
  ·intro e; subst e; rw [hj] at hk; cases hk
 refine ⟨_, upd ι pre.length (some (g, cap)), rfl, ?_, fun k hk => ?_, ?_⟩
 ·rw [Zt5]
  refine ⟨hx, E2, S.os, S.tape, S.output, S.size, S.frame, fun k b h1 h2 => ?_, fun k h1 h2 => ?_, fun k h1 h2 => ?_⟩
  ·by_cases hk0 : k = pre.length
   ·subst hk0; rw [Zu] at h2; injection h2 with h2; subst h2; exact .inl hg
   ·rw [Zj hk0, h1] at h2; cases h2
  ·by_cases hk0 : k = pre.length
   ·subst hk0; exact absurd hj h2
   ·rwa [Zj hk0] at h1
  ·by_cases hk0 : k = pre.length
   ·subst hk0; exact absurd hj h2
   ·rwa [Zj hk0] at h1
 ·by_cases hk0 : k = pre.length
  ·subst hk0; exact .inl (by simp)
  ·rw [Zj hk0] at hk; exact (hd k hk).imp (fun q => by simp; omega) (fun q => q.1)
 ·have := VR.slice (ι := upd ι pre.length (some (g, cap))) (k := pre.length) (b := (g, cap)) (o := 0) (n := n) (c := n) (c' := cap) Zu (Nat.le_refl _) hn (fun _ => .inr (Nat.le_refl _))
  exact this
variable {ρ : Shelf.Ren}
open Go.Shelf Go.Lib
set_option maxHeartbeats 2000000 in
set_option maxRecDepth 100000 in
theorem Zsd (L : SlLaysE0.n41 P ρ) {i0 : TypeInfo} {z : Value} {size bytes : Nat} (hi : P.info? (ρ.t 23) = some i0) (hz0 : i0.zero = some z) (hz1 : i0.size = size) (hz2 : i0.bytes = bytes) (hzs : z.cells.size = size) (hsz : 0 < size)
  (z23 : ∀ w, (Go.sizeOf (ρ.t 23)).run P w = .ok size w) (a : Addr) (n c : Nat) (news : List Value) (w : World) (hl : news.length = n * size) (hn : n ≤ maxLen) (hbig : n * bytes ≤ 140737488355328) (hc : ∀ j u, news[j]? = some u → w.cell? (a.add j) = some u) (h1 : ∀ u ∈ news, u.oneCell' = true) :
  Calls P (ρ.f 41) #[.slice (some a) n c] w fun e w' => ∃ v', e = .returned v' ∧ w'.ownsRow w.heap.size (ρ.t 23) size v' n news ∧ v' ≠ .slice none 0 0 ∧ Below w.heap.size w w' := by
 have g0 := L.mixed; have g1 := L.t4; have g2 := L.a4; have g3 := L.z4; have g4 := L.v4; have g5 := L.t22; have g6 := L.a22; have g7 := L.z22; have g8 := L.v22
 have g9 : ∀ (w : World) (a : Option Addr) (n c n' c' : Nat), (binOp .eql (ρ.t 22) (.slice a n c) (.slice none n' c')).run P w = .ok (.bool a.isNone) w := fun w a n c n' c' => Lib.run_eql_slice_nil w _ _ a n c n' c' L.t22
 have g10 : ∀ w, Sem.run P (underlying (ρ.t 22)) w = .ok (TypeDesc.slice (ρ.t 23)) w := run_underlying g5
 have K : Aside (∀ j u, news[j]? = some u → w.cell? (a.add j) = some u) := hc
 clear hc
 obtain ⟨_, _, FG⟩ := L.f41
 go_enter FG, SlBodyN.n41_ntmps ρ
 go_wp2_with (at_builtin; refine wpList_append_own _ rfl _ _ (ρ.t 22) rfl w.heap.size (ρ.t 23) i0 z size bytes g5 hi hz0 hz1 hz2 hzs hsz _ _ _ rfl (World.ownsRow_made w #[] 0 (Nat.le_refl _) (Nat.zero_le _) (by simp)) a n c news rfl hl ?k1 h1 ?k2 ?k3 ?k4 ?_)
 case k1 => exact fun j u hj => Lib.cell?_alloc_some _ (K.out j u hj)
 case k2 => rw [Nat.zero_add]; exact hn
 case k3 => rw [Nat.zero_add]; exact hbig
 case k4 => simp
 intro v' w1 o1 o2 o3
 go_wp2
 go_ret
 exact ⟨v', rfl, by simpa using o1, o3, ((Below.refl _ w).alloc (Nat.le_refl _) _).grown o2 (by simp) (by intro k hk; simp [Value.ownBlock] at hk; omega)⟩
end
end Ev
end Go.Proofs.Ytmcgcapkldpjlaa
/- slices.Clone: what it does of a plain row, and of one of one's own. -/
namespace Go.Proofs.Ytmcgcapkldpjlaa
open Go.RowKit Go.Lib
namespace Ev
set_option linter.unusedVariables false
section
variable {P : Program} {ρ : Shelf.Ren} {α : Type} {E : Enc α} {L : List α}
theorem ZnW {ι : Ren} {id n m : Nat} {x' : Value} (h : VR ι (.slice (some ⟨id, 0, some 0⟩) n m) x') : (∃ b base q c', ι (ZY b base id) = some q ∧ n ≤ m ∧ m ≤ c' ∧ x' = .slice (some ⟨b, base, none⟩) n c') ∨ (n = 0 ∧ m = 0 ∧ ∃ a', x' = .slice a' 0 0) := by
 cases h with
 | atom h => exact (Bool.false_ne_true h).elim
 | mslice h1 h2 h3 => exact .inl ⟨_, _, _, _, h1, h2, h3, rfl⟩
 | slice0 h => exact .inr ⟨rfl, rfl, _, rfl⟩
theorem Zq6 {ι : Ren} {a : Value} {args' : Array Value} (h : VRs ι #[a] args') : ∃ x', args' = #[x'] ∧ VR ι a x' := by
 obtain ⟨l⟩ := args'
 match l, h with
 | [x], h => exact ⟨x, rfl, h.2 0 a x rfl rfl⟩
 | [], h => exact absurd h.1 (by simp)
 | _ :: _ :: _, h => exact absurd h.1 (by simp)
structure Zjl (P : Program) (ρ : Shelf.Ren) (sz bytes : Nat) : Prop where
 L : SlLaysE0.n41 P ρ
 hi : ∃ i0 z, P.info? (ρ.t 23) = some i0 ∧ i0.zero = some z ∧ i0.size = sz ∧ i0.bytes = bytes ∧ z.cells.size = sz
 pos : 0 < sz
 z23 : ∀ w, (Go.sizeOf (ρ.t 23)).run P w = .ok sz w
theorem ZsM {ι : Ren} {j : Nat} {x y : Value} (hx : (Zb E L)[j]? = some x) (h : VR ι x y) : y.oneCell' = true := by
 rw [Zff] at hx
 unfold Z9 at hx
 rw [List.getElem?_map] at hx
 cases hz : (ZI E L)[j]? with
 | none => rw [hz] at hx; cases hx
 | some z => rw [hz] at hx; injection hx with hx; subst hx; exact VR.oneC h
theorem Zla {bytes : Nat} (C : Zjl P ρ E.w bytes) (hn : L.length ≤ maxLen) (hbig : L.length * bytes ≤ 140737488355328) {ι : Ren} {pre : List AObj} {w : World} (hpre : pre.length < 1000000000) (hd : ∀ k, ι k ≠ none → k < pre.length ∨ ZbW k) (he : Emb P ι (lk pre) w) {a : Addr} {c : Nat}
  (hc : ∀ j, j < L.length * E.w → ∃ y, w.cell? (a.add j) = some y ∧ ∀ x, (Zb E L)[j]? = some x → VR ι x y) :
  Calls P (ρ.f 41) #[.slice (some a) L.length c] w (Fin P ι pre w (.slice (some ⟨pre.length, 0, none⟩) L.length L.length) (pre.map some ++ [some (.cells (Zb E L) (ρ.t 23))])) := by
 obtain ⟨i0, z, k1, k2, k3, k4, k5⟩ := C.hi
 obtain ⟨news, hnl, hng⟩ : ∃ news : List Value, news.length = L.length * E.w ∧ ∀ j u, news[j]? = some u → j < L.length * E.w ∧ w.cell? (a.add j) = some u := by
  refine ⟨(List.range (L.length * E.w)).map fun j => (w.cell? (a.add j)).getD undef, by simp, fun j u hj => ?_⟩
  have hl := (List.getElem?_eq_some_iff.1 hj).1
  simp only [List.length_map, List.length_range] at hl
  obtain ⟨y, hy, _⟩ := hc j hl
  simp only [List.getElem?_map, List.getElem?_range hl, Option.map_some, hy, Option.getD_some, Option.some.injEq] at hj
  exact ⟨hl, by rw [hy, hj]⟩
 have hrow : ∀ j, j < L.length * E.w → ∃ x, (Zb E L)[j]? = some x := fun j hj => by
  have : j < (Zb E L).length := by rw [Zeb]; exact hj
  exact ⟨_, List.getElem?_eq_getElem this⟩
 refine (Zsd C.L k1 k2 k3 k4 k5 C.pos C.z23 a L.length c news w hnl hn hbig (fun j u hj => (hng j u hj).2) (fun u hu => ?_)).mono ?_
 ·obtain ⟨j, hj⟩ := List.mem_iff_getElem?.1 hu
  obtain ⟨h1, h2⟩ := hng j u hj
  obtain ⟨y, hy, hv⟩ := hc j h1
  obtain ⟨x, hx⟩ := hrow j h1
  rw [h2] at hy; injection hy with hy; subst hy
  exact ZsM hx (hv x hx)
 ·rintro e w' ⟨v', rfl, ⟨_, ⟨h1, _⟩ | ⟨g, cap, cur, rfl, h2, h3, h4, h5, h6, h7⟩⟩, hnil, hB⟩
  ·exact absurd h1 hnil
  ·refine Zt6 hpre hd he hB h2 h3 ⟨?_, fun i x y hx hy => ?_⟩ (fun i hi => ?_) h4
   ·rw [Zeb, h6]; exact Nat.mul_le_mul_right _ h4
   ·have hil := (List.getElem?_eq_some_iff.1 hx).1
    rw [Zeb] at hil
    obtain ⟨y2, hy2, hv⟩ := hc i hil
    have hu : news[i]? = some y := by
     rw [← h7, List.getElem?_take_of_lt hil, Array.getElem?_toList]; exact hy
    have := (hng i y hu).2
    rw [hy2] at this; injection this with this; subst this
    exact hv x hx
   ·rw [k1] at hi; injection hi with hi; subst hi
    rw [k3, h6]; exact Nat.le_refl _
theorem Zt7 {bytes : Nat} (C : Zjl P ρ E.w bytes) (hn : L.length ≤ maxLen) (hbig : L.length * bytes ≤ 140737488355328) : LSpec P (ρ.f 41) #[ms E L] [] (ms E L) [] := by
 intro ι w args' hd ha he
 obtain ⟨x', rfl, hv⟩ := Zq6 ha
 rcases ZnW hv with ⟨b, base, q, c', h1, _, h3, rfl⟩ | ⟨h0, _, a', rfl⟩
 ·obtain ⟨_, ⟨⟨c, D, t, fr, m1, m2, m3, m4⟩, _⟩, _⟩ := he.mks b base _ q h1
  rw [Zc7] at m1; injection m1 with m1; subst m1
  have hlen : (ZI E L).length = L.length * E.w := by
   have := Zeb (E := E) L
   rw [Zff] at this
   simpa [Z9] using this
  refine (Zla C hn hbig (pre := []) (by decide) hd he (a := ⟨b, base, none⟩) (c := c') fun j hj => ?_).mono fun e w' hf => Zmh (post := []) hd hf (Nat.le_refl _) (by decide) trivial
  have hsz := m3 (by omega)
  rw [hlen] at hsz
  have hD : base + j < D.size := by omega
  refine ⟨D[base + j], ?_, fun x hx => m4 j x _ (by rw [← Zff]; exact hx) (Array.getElem?_eq_getElem hD)⟩
  rw [Addr.add_lit, Zps m2, Array.getElem?_eq_getElem hD]
 ·have hL : L = [] := List.length_eq_zero_iff.1 h0
  subst hL
  cases a' with
  | none => exact (AnyE.slices_Clone_nil C.L 0 0 w).mono fun e w' ⟨h1, h2⟩ => by subst h1 h2; exact ZsL (pre := []) hd he (Below.refl _ _) (.slice0 fun _ => rfl)
  | some a => exact (Zla C hn hbig (pre := []) (by decide) hd he (a := a) (c := 0) fun j hj => by simp at hj).mono fun e w' hf => Zmh (post := []) hd hf (Nat.le_refl _) (by decide) trivial
theorem ZsN {bytes : Nat} (C : Zjl P ρ E.w bytes) (hL : L ≠ []) (hn : L.length ≤ maxLen) (hbig : L.length * bytes ≤ 140737488355328) : LSpec P (ρ.f 41) #[ms E L] [] (.slice (some ⟨0, 0, none⟩) L.length L.length) [some (.cells (Zb E L) (ρ.t 23))] := by
 intro ι w args' hd ha he
 obtain ⟨x', rfl, hv⟩ := Zq6 ha
 rcases ZnW hv with ⟨b, base, q, c', h1, _, h3, rfl⟩ | ⟨h0, _, a', rfl⟩
 ·obtain ⟨_, ⟨⟨c, D, t, fr, m1, m2, m3, m4⟩, _⟩, _⟩ := he.mks b base _ q h1
  rw [Zc7] at m1; injection m1 with m1; subst m1
  have hlen : (ZI E L).length = L.length * E.w := by
   have := Zeb (E := E) L
   rw [Zff] at this
   simpa [Z9] using this
  refine Zla C hn hbig (pre := []) (by decide) hd he (a := ⟨b, base, none⟩) (c := c') fun j hj => ?_
  have hsz := m3 (by omega)
  rw [hlen] at hsz
  have hD : base + j < D.size := by omega
  refine ⟨D[base + j], ?_, fun x hx => m4 j x _ (by rw [← Zff]; exact hx) (Array.getElem?_eq_getElem hD)⟩
  rw [Addr.add_lit, Zps m2, Array.getElem?_eq_getElem hD]
 ·exact absurd (List.length_eq_zero_iff.1 h0) hL
end
end Ev
end Go.Proofs.Ytmcgcapkldpjlaa
/- slices.Clone, laid at this program. -/
namespace Go.Proofs
open Go.Shelf
def Ytmcgcapkldpjlaa.Ev.cloneV_ren : Go.Shelf.Ren := ⟨fun | 41 => 24 | n => n, fun | 22 => 27 | 23 => 25 | 4 => 4 | n => n, fun | n => n⟩
theorem Ytmcgcapkldpjlaa.Ev.cloneV : Go.Proofs.SlLaysE0.n41 Try.prog Ytmcgcapkldpjlaa.Ev.cloneV_ren := {
  mixed := by kernel_rfl
  f41 := ⟨Try.f24.name, by decide, Try.func24.trans (congrArg some (by kernel_rfl))⟩
  t4 := Try.underlying4
  a4 := Try.isAgg4
  z4 := Try.sizeOf4
  v4 := Try.zeroValue4
  t22 := Try.underlying27
  a22 := Try.isAgg27
  z22 := Try.sizeOf27
  v22 := Try.zeroValue27 }
end Go.Proofs
namespace Go.Proofs.Ytmcgcapkldpjlaa
open Go.RowKit Go.Lib
namespace Ev
def ZsO (P : Program) (t : TypeId) (sz bytes : Nat) : Bool := match P.info? t with
 | some i => match i.zero with
  | some z => Nat.beq i.size sz && Nat.beq i.bytes bytes && Nat.beq z.cells.size sz
  | none => false
 | none => false
theorem Zuc {P : Program} {t : TypeId} {sz bytes : Nat} (h : ZsO P t sz bytes = true) : ∃ i0 z, P.info? t = some i0 ∧ i0.zero = some z ∧ i0.size = sz ∧ i0.bytes = bytes ∧ z.cells.size = sz := by
 unfold ZsO at h
 split at h
 ·rename_i i hi
  split at h
  ·rename_i z hz
   simp only [Bool.and_eq_true] at h
   exact ⟨i, z, hi, hz, Nat.eq_of_beq_eq_true h.1.1, Nat.eq_of_beq_eq_true h.1.2, Nat.eq_of_beq_eq_true h.2⟩
  ·cases h
 ·cases h
theorem ZsP {P : Program} {t : TypeId} {i : TypeInfo} (h : P.info? t = some i) (w : World) : (Go.sizeOf t).run P w = .ok i.size w := by
 simp [Go.sizeOf, typeInfo, h, Result.andThen, Sem.run]
theorem Zt8 {ρ : Shelf.Ren} {P : Program} (L : SlLaysE0.n41 P ρ) {t : TypeId} {sz bytes : Nat} (ht : ρ.t 23 = t) (h : ZsO P t sz bytes = true) (hp : 0 < sz) : Zjl P ρ sz bytes := by
 subst ht
 obtain ⟨i0, z, k1, k2, k3, k4, k5⟩ := Zuc h
 exact ⟨L, ⟨i0, z, k1, k2, k3, k4, k5⟩, hp, fun w => by rw [ZsP k1, k3]⟩
theorem Zpt : Zjl Try.prog cloneV_ren 2 16 := Zt8 cloneV (t := 25) rfl (by kernel_rfl) (by decide)
end Ev
end Go.Proofs.Ytmcgcapkldpjlaa
