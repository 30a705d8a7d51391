/- How records are written, and which functions are told. -/
import Derived.Test.YtjamgoohhcdaeaaRw
import Derived.Test.YtjamgoohhcdaeaaEvS
import Derived.Test.YtjamgoohhcdaeaaUbr
namespace Go.Proofs.Ytjamgoohhcdaeaa
open Go.RowKit
namespace Ev
set_option linter.unusedVariables false
theorem fit_less {P : Program} {ext : FuncId → Option Ext} (F : Fit P ext) (p : FuncId → Bool) : Fit P (fun f => bif p f then none else ext f) :=
  have h : ∀ f e, (bif p f then none else ext f) = some e → ext f = some e := fun f e h => by cases hp : p f <;> rw [hp] at h <;> first | cases h; done | exact h
  ⟨F.mixed, F.go, fun f g e => F.fn f g (h _ _ e), fun f g e => F.hp f g (h _ _ e), fun f S e => F.tc f S (h _ _ e), fun f n e => F.mark f n (h _ _ e), fun f k e' he => F.ext f k e' (h _ _ he)⟩
theorem toL_inj {a b : ByteArray} : (a.toList == b.toList) = (a == b) := (beq_toListBytes a b).symm
theorem ii (x : Int) : -9223372036854775808 ≤ IntKind.i64.wrap x ∧ IntKind.i64.wrap x ≤ 9223372036854775807 := by
  by_cases h : x % 18446744073709551616 < 9223372036854775808
  · have h' : ¬ (x % 18446744073709551616 ≥ 9223372036854775808) := by omega
    have e : IntKind.i64.wrap x = x % 18446744073709551616 := by simp [IntKind.wrap, IntKind.bits, IntKind.signed, h']
    rw [e]; omega
  · have h' : x % 18446744073709551616 ≥ 9223372036854775808 := by omega
    have e : IntKind.i64.wrap x = x % 18446744073709551616 - 18446744073709551616 := by simp [IntKind.wrap, IntKind.bits, IntKind.signed, h']
    rw [e]; omega
theorem lit_bd {l : List Int} {i : Nat} (h : ∀ x ∈ (0 : Int) :: l, -9223372036854775808 ≤ x ∧ x ≤ 9223372036854775807) : -9223372036854775808 ≤ l.getD i 0 ∧ l.getD i 0 ≤ 9223372036854775807 := by
  by_cases hi : i < l.length
  · have e : l.getD i 0 = l[i] := by simp [List.getD, hi]
    rw [e]; exact h _ (List.mem_cons_of_mem _ (List.getElem_mem hi))
  · have e : l.getD i 0 = 0 := by simp [List.getD, List.getElem?_eq_none (Nat.le_of_not_lt hi)]
    rw [e]; exact h _ (List.mem_cons_self ..)
theorem fold_push (ns : List Int) : ∀ acc : ByteArray, (ns.foldl (fun r n => r.push (UInt8.ofNat n.toNat)) acc).data = acc.data ++ (ns.map fun n => UInt8.ofNat n.toNat).toArray := by
  induction ns with
  | nil => intro acc; simp
  | cons n ns ih => intro acc; rw [List.foldl_cons, ih]; simp [ByteArray.push]
theorem strOf_data (ns : List Int) : (strOf ns).data = (ns.map fun n => UInt8.ofNat n.toNat).toArray := by
  unfold strOf; rw [fold_push]; simp
theorem cat_eq (a b : List Int) : strOf a ++ strOf b = strOf (a ++ b) := by
  apply ByteArray.ext
  rw [ByteArray.data_append, strOf_data, strOf_data, strOf_data]; simp
theorem str_size {x y : List Int} (h : x.length + y.length ≤ 1000000) : (((strOf x).size + (strOf y).size : Nat) : Int) ≤ IntKind.i64.max := by
  have e : ∀ l : List Int, (strOf l).size = l.length := fun l => by
    show (strOf l).data.size = l.length
    rw [strOf_data]; simp
  rw [e, e]
  have : IntKind.i64.max = 9223372036854775807 := by decide
  omega
theorem strB_t {x y : List Int} (h : strB x y = true) : ((strOf x).toList == (strOf y).toList) = true := toL_inj.trans h
theorem strB_f {x y : List Int} (h : ¬ (strB x y = true)) : ((strOf x).toList == (strOf y).toList) = false := toL_inj.trans (Bool.eq_false_iff.2 h)
theorem strB_n {x y : List Int} (h : ¬ (strB x y = true)) : (!((strOf x).toList == (strOf y).toList)) = true := by rw [strB_f h]; rfl
theorem strB_m {x y : List Int} (h : strB x y = true) : (!((strOf x).toList == (strOf y).toList)) = false := by rw [strB_t h]; rfl
theorem uu (x : Int) : 0 ≤ IntKind.u64.wrap x ∧ IntKind.u64.wrap x ≤ 18446744073709551615 := by
  have h : IntKind.u64.wrap x = x % 18446744073709551616 := by simp [IntKind.wrap, IntKind.bits, IntKind.signed]
  rw [h]; omega
abbrev vq : Value := .int .i64 0
abbrev vf : Value := .bool false
abbrev vT : Value := .bool true
abbrev vn : Value := .slice none 0 0
abbrev vtt : Value := .tuple #[]
noncomputable abbrev dS {α : Type} (a : α) : Bool := dP (a = a)
theorem ltA {p : Prop} (h : p := by first | omega | (simp only [List.length_set, List.length_append, List.length_cons, List.length_nil, List.length_replicate, List.length_take, List.length_drop] at * <;> omega)) : p := h
theorem eqA {p : Prop} (h : p := by first | rfl | omega | (simp only [List.length_set, List.length_append, List.length_cons, List.length_nil, List.length_replicate, List.length_take, List.length_drop] at * <;> omega)) : p := h
theorem rr {p q : Prop} (h : p := by rfl) (h2 : q := by rfl) : p ∧ q := ⟨h, h2⟩
section
variable {l : List (Bool × Bool)}
theorem oT {a b : Int} (hl : ∀ q ∈ l, q.1 = q.2) (h : a = b := by omega) : ∀ q ∈ ((a == b), true) :: l, q.1 = q.2 := obs_cons (bT h) hl
theorem oF {a b : Int} (hl : ∀ q ∈ l, q.1 = q.2) (h : ¬ a = b := by omega) : ∀ q ∈ ((a == b), false) :: l, q.1 = q.2 := obs_cons (bF h) hl
theorem oD {a b : Int} (hl : ∀ q ∈ l, q.1 = q.2) (h : a ≠ b := by omega) : ∀ q ∈ ((a != b), true) :: l, q.1 = q.2 := obs_cons (bne_iff_ne.2 h) hl
theorem oE {a b : Int} (hl : ∀ q ∈ l, q.1 = q.2) (h : a = b := by omega) : ∀ q ∈ ((a != b), false) :: l, q.1 = q.2 := obs_cons (bne_eq_false_iff_eq.2 h) hl
theorem oY {p : Prop} [Decidable p] (hl : ∀ q ∈ l, q.1 = q.2) (h : p := by omega) : ∀ q ∈ (decide p, true) :: l, q.1 = q.2 := obs_cons (decide_eq_true h) hl
theorem oN {p : Prop} [Decidable p] (hl : ∀ q ∈ l, q.1 = q.2) (h : ¬ p := by omega) : ∀ q ∈ (decide p, false) :: l, q.1 = q.2 := obs_cons (decide_eq_false h) hl
theorem oR {α : Type} {a b : α} (hl : ∀ q ∈ l, q.1 = q.2) (h : a = b := by rfl) : ∀ q ∈ (dP (a = b), true) :: l, q.1 = q.2 := obs_cons (dP_of h) hl
theorem oB {a b : Nat} (hl : ∀ q ∈ l, q.1 = q.2) (h : a < b := by omega) : ∀ q ∈ (Nat.blt a b, true) :: l, q.1 = q.2 := obs_cons (blt_of h) hl
theorem oL {a b : Nat} (hl : ∀ q ∈ l, q.1 = q.2) (h : a < b := by first | omega | (simp only [List.length_set, List.length_append, List.length_cons, List.length_nil, List.length_replicate, List.length_take, List.length_drop] at * <;> omega)) : ∀ q ∈ (Nat.blt a b, true) :: l, q.1 = q.2 := obs_cons (blt_of h) hl
theorem oI {a b : Int} (hl : ∀ q ∈ l, q.1 = q.2) (h : a = b := by first | rfl | exact idx_eq (by omega)) : ∀ q ∈ ((a == b), true) :: l, q.1 = q.2 := obs_cons (bT h) hl
end
abbrev RO_ii (O : Obj) (o : Nat) (L : List R_ii) : Prop := ∀ i, i < L.length → RowOK O (o + i * 2) [.i (L.getD i R_ii.z).a0, .i (L.getD i R_ii.z).a1]
abbrev RO_iiiiibi (O : Obj) (o : Nat) (L : List R_iiiiibi) : Prop := ∀ i, i < L.length → RowOK O (o + i * 7) [.i (L.getD i R_iiiiibi.z).a0, .i (L.getD i R_iiiiibi.z).a1, .i (L.getD i R_iiiiibi.z).a2, .i (L.getD i R_iiiiibi.z).a3, .i (L.getD i R_iiiiibi.z).a4, .b (L.getD i R_iiiiibi.z).a5, .i (L.getD i R_iiiiibi.z).a6]
def E_ii : Enc R_ii := ⟨fun x => [.int .i64 x.a0, .int .i64 x.a1], 2, R_ii.z, fun _ => rfl, fun _ => rfl⟩
def E_iiiiibi : Enc R_iiiiibi := ⟨fun x => [.int .i64 x.a0, .int .i64 x.a1, .int .i64 x.a2, .int .i64 x.a3, .int .i64 x.a4, .bool x.a5, .int .i64 x.a6], 7, R_iiiiibi.z, fun _ => rfl, fun _ => rfl⟩
instance : Inhabited R_ii := ⟨R_ii.z⟩
instance : Inhabited R_iiiiibi := ⟨R_iiiiibi.z⟩
/-- What is known. -/
def sp_Ub : FuncId → Option (List Value → Option Value) := fun f =>
  bif Nat.beq f 6 then some (fun l => match l with | [] => some (.bool true) | _ => none) else
  none
theorem known0_Ub (w : World) : Calls Try.prog 6 #[] w (Ret (.bool true) w) := ret_of 40000 w (by kernel_rfl) rfl
theorem spk_Ub : Known sp_Ub := fun f g h => by
  unfold sp_Ub at h
  cases hb : Nat.beq f 6 with
  | true =>
    rw [hb] at h
    obtain rfl := Nat.eq_of_beq_eq_true hb
    simp only [cond_true, Option.some.injEq] at h
    subst h
    refine ⟨⟨_, _, Try.func6, rfl⟩, fun args v ha hv w => ?_⟩
    obtain ⟨l⟩ := args
    cases l with
    | nil =>
      change some (Value.bool true) = some v at hv
      injection hv with hv
      subst hv
      exact known0_Ub w
    | cons x l => change (none : Option Value) = some v at hv; cases hv
  | false =>
    rw [hb] at h
    simp only [cond_false] at h
    cases h
def tc_Ub : FuncId → Bool := fun f => Nat.beq f 8 || Nat.beq f 7 || Nat.beq f 3 || Nat.beq f 5
noncomputable def ext_Ub : FuncId → Option Ext := extT (extS sp_Ub) tc_Ub
theorem fit_Ub : Fit Try.prog ext_Ub := fitT (fitS spk_Ub) (fun f h => by
  simp only [tc_Ub, Bool.or_eq_true] at h
  simp only [Nat.beq_eq] at h
  rcases h with ((rfl | rfl) | rfl) | rfl
  · exact ⟨_, _, Try.func8, rfl⟩
  · exact ⟨_, _, Try.func7, rfl⟩
  · exact ⟨_, _, Try.func3, rfl⟩
  · exact ⟨_, _, Try.func5, rfl⟩
  )
end Ev
end Go.Proofs.Ytjamgoohhcdaeaa
