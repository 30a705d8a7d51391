/- How records are written, and which functions are told. -/
import Derived.Test.YtbhnaaingkbeiaaRw
import Derived.Test.YtbhnaaingkbeiaaEvS
import Derived.Test.YtbhnaaingkbeiaaSrr
namespace Go.Proofs.Ytbhnaaingkbeiaa
open Go.RowKit
namespace Ev
set_option linter.unusedVariables false
theorem fit_less {P : Program} {ext : FuncId → Option Ext} (F : Fit P ext) (p : FuncId → Bool) : Fit P (fun f => bif p f then none else ext f) :=
  have h : ∀ f e, (bif p f then none else ext f) = some e → ext f = some e := fun f e h => by cases hp : p f <;> rw [hp] at h <;> first | cases h; done | exact h
  ⟨F.mixed, F.go, fun f g e => F.fn f g (h _ _ e), fun f g e => F.hp f g (h _ _ e), fun f S e => F.tc f S (h _ _ e), fun f n e => F.mark f n (h _ _ e), fun f k e' he => F.ext f k e' (h _ _ he)⟩
theorem toL_inj {a b : ByteArray} : (a.toList == b.toList) = (a == b) := (beq_toListBytes a b).symm
theorem ii (x : Int) : -9223372036854775808 ≤ IntKind.i64.wrap x ∧ IntKind.i64.wrap x ≤ 9223372036854775807 := by
  by_cases h : x % 18446744073709551616 < 9223372036854775808
  · have h' : ¬ (x % 18446744073709551616 ≥ 9223372036854775808) := by omega
    have e : IntKind.i64.wrap x = x % 18446744073709551616 := by simp [IntKind.wrap, IntKind.bits, IntKind.signed, h']
    rw [e]; omega
  · have h' : x % 18446744073709551616 ≥ 9223372036854775808 := by omega
    have e : IntKind.i64.wrap x = x % 18446744073709551616 - 18446744073709551616 := by simp [IntKind.wrap, IntKind.bits, IntKind.signed, h']
    rw [e]; omega
theorem lit_bd {l : List Int} {i : Nat} (h : ∀ x ∈ (0 : Int) :: l, -9223372036854775808 ≤ x ∧ x ≤ 9223372036854775807) : -9223372036854775808 ≤ l.getD i 0 ∧ l.getD i 0 ≤ 9223372036854775807 := by
  by_cases hi : i < l.length
  · have e : l.getD i 0 = l[i] := by simp [List.getD, hi]
    rw [e]; exact h _ (List.mem_cons_of_mem _ (List.getElem_mem hi))
  · have e : l.getD i 0 = 0 := by simp [List.getD, List.getElem?_eq_none (Nat.le_of_not_lt hi)]
    rw [e]; exact h _ (List.mem_cons_self ..)
theorem fold_push (ns : List Int) : ∀ acc : ByteArray, (ns.foldl (fun r n => r.push (UInt8.ofNat n.toNat)) acc).data = acc.data ++ (ns.map fun n => UInt8.ofNat n.toNat).toArray := by
  induction ns with
  | nil => intro acc; simp
  | cons n ns ih => intro acc; rw [List.foldl_cons, ih]; simp [ByteArray.push]
theorem strOf_data (ns : List Int) : (strOf ns).data = (ns.map fun n => UInt8.ofNat n.toNat).toArray := by
  unfold strOf; rw [fold_push]; simp
theorem cat_eq (a b : List Int) : strOf a ++ strOf b = strOf (a ++ b) := by
  apply ByteArray.ext
  rw [ByteArray.data_append, strOf_data, strOf_data, strOf_data]; simp
theorem str_size {x y : List Int} (h : x.length + y.length ≤ 1000000) : (((strOf x).size + (strOf y).size : Nat) : Int) ≤ IntKind.i64.max := by
  have e : ∀ l : List Int, (strOf l).size = l.length := fun l => by
    show (strOf l).data.size = l.length
    rw [strOf_data]; simp
  rw [e, e]
  have : IntKind.i64.max = 9223372036854775807 := by decide
  omega
theorem strB_t {x y : List Int} (h : strB x y = true) : ((strOf x).toList == (strOf y).toList) = true := toL_inj.trans h
theorem strB_f {x y : List Int} (h : ¬ (strB x y = true)) : ((strOf x).toList == (strOf y).toList) = false := toL_inj.trans (Bool.eq_false_iff.2 h)
theorem strB_n {x y : List Int} (h : ¬ (strB x y = true)) : (!((strOf x).toList == (strOf y).toList)) = true := by rw [strB_f h]; rfl
theorem strB_m {x y : List Int} (h : strB x y = true) : (!((strOf x).toList == (strOf y).toList)) = false := by rw [strB_t h]; rfl
theorem uu (x : Int) : 0 ≤ IntKind.u64.wrap x ∧ IntKind.u64.wrap x ≤ 18446744073709551615 := by
  have h : IntKind.u64.wrap x = x % 18446744073709551616 := by simp [IntKind.wrap, IntKind.bits, IntKind.signed]
  rw [h]; omega
abbrev vq : Value := .int .i64 0
abbrev vf : Value := .bool false
abbrev vT : Value := .bool true
abbrev vn : Value := .slice none 0 0
abbrev vtt : Value := .tuple #[]
noncomputable abbrev dS {α : Type} (a : α) : Bool := dP (a = a)
theorem ltA {p : Prop} (h : p := by first | omega | (simp only [List.length_set, List.length_append, List.length_cons, List.length_nil, List.length_replicate, List.length_take, List.length_drop] at * <;> omega)) : p := h
theorem eqA {p : Prop} (h : p := by first | rfl | omega | (simp only [List.length_set, List.length_append, List.length_cons, List.length_nil, List.length_replicate, List.length_take, List.length_drop] at * <;> omega)) : p := h
theorem rr {p q : Prop} (h : p := by rfl) (h2 : q := by rfl) : p ∧ q := ⟨h, h2⟩
section
variable {l : List (Bool × Bool)}
theorem oT {a b : Int} (hl : ∀ q ∈ l, q.1 = q.2) (h : a = b := by omega) : ∀ q ∈ ((a == b), true) :: l, q.1 = q.2 := obs_cons (bT h) hl
theorem oF {a b : Int} (hl : ∀ q ∈ l, q.1 = q.2) (h : ¬ a = b := by omega) : ∀ q ∈ ((a == b), false) :: l, q.1 = q.2 := obs_cons (bF h) hl
theorem oD {a b : Int} (hl : ∀ q ∈ l, q.1 = q.2) (h : a ≠ b := by omega) : ∀ q ∈ ((a != b), true) :: l, q.1 = q.2 := obs_cons (bne_iff_ne.2 h) hl
theorem oE {a b : Int} (hl : ∀ q ∈ l, q.1 = q.2) (h : a = b := by omega) : ∀ q ∈ ((a != b), false) :: l, q.1 = q.2 := obs_cons (bne_eq_false_iff_eq.2 h) hl
theorem oY {p : Prop} [Decidable p] (hl : ∀ q ∈ l, q.1 = q.2) (h : p := by omega) : ∀ q ∈ (decide p, true) :: l, q.1 = q.2 := obs_cons (decide_eq_true h) hl
theorem oN {p : Prop} [Decidable p] (hl : ∀ q ∈ l, q.1 = q.2) (h : ¬ p := by omega) : ∀ q ∈ (decide p, false) :: l, q.1 = q.2 := obs_cons (decide_eq_false h) hl
theorem oR {α : Type} {a b : α} (hl : ∀ q ∈ l, q.1 = q.2) (h : a = b := by rfl) : ∀ q ∈ (dP (a = b), true) :: l, q.1 = q.2 := obs_cons (dP_of h) hl
theorem oB {a b : Nat} (hl : ∀ q ∈ l, q.1 = q.2) (h : a < b := by omega) : ∀ q ∈ (Nat.blt a b, true) :: l, q.1 = q.2 := obs_cons (blt_of h) hl
theorem oL {a b : Nat} (hl : ∀ q ∈ l, q.1 = q.2) (h : a < b := by first | omega | (simp only [List.length_set, List.length_append, List.length_cons, List.length_nil, List.length_replicate, List.length_take, List.length_drop] at * <;> omega)) : ∀ q ∈ (Nat.blt a b, true) :: l, q.1 = q.2 := obs_cons (blt_of h) hl
theorem oI {a b : Int} (hl : ∀ q ∈ l, q.1 = q.2) (h : a = b := by first | rfl | exact idx_eq (by omega)) : ∀ q ∈ ((a == b), true) :: l, q.1 = q.2 := obs_cons (bT h) hl
end
abbrev RO_ii (O : Obj) (o : Nat) (L : List R_ii) : Prop := ∀ i, i < L.length → RowOK O (o + i * 2) [.i (L.getD i R_ii.z).a0, .i (L.getD i R_ii.z).a1]
abbrev RO_uii (O : Obj) (o : Nat) (L : List R_uii) : Prop := ∀ i, i < L.length → RowOK O (o + i * 3) [.k .u8 (L.getD i R_uii.z).a0, .i (L.getD i R_uii.z).a1, .i (L.getD i R_uii.z).a2]
def E_ii : Enc R_ii := ⟨fun x => [.int .i64 x.a0, .int .i64 x.a1], 2, R_ii.z, fun _ => rfl, fun _ => rfl⟩
def E_uii : Enc R_uii := ⟨fun x => [.int .u8 x.a0, .int .i64 x.a1, .int .i64 x.a2], 3, R_uii.z, fun _ => rfl, fun _ => rfl⟩
def mapE (L : List R_ii) : List MapEntry := L.map fun x => ⟨.int .i64 x.a0, .int .i64 x.a1, 0⟩
def mapV (L : List R_ii) : Obj := .map (mapE L).toArray 0
theorem mp_find (k : Int) : ∀ (L : List R_ii) (i : Nat), Instr.findNow (.int .i64) (.int .i64 k) (mapE L) i = some ((L.findIdx? (fun x => x.a0 == k)).map fun j => (i + j, .int .i64 (mGet L k)))
  | [], i => rfl
  | x :: L, i => by
    simp only [mapE, List.map_cons, Instr.findNow, Instr.sameNow, if_true]
    have ih := mp_find k L (i + 1)
    simp only [mapE] at ih
    cases h : (x.a0 == k) with
    | true =>
      have h' : (k == x.a0) = true := by rw [beq_iff_eq] at h ⊢; exact h.symm
      simp [h', List.findIdx?_cons, h, mGet, List.find?_cons]
    | false =>
      have h' : (k == x.a0) = false := by rw [beq_eq_false_iff_ne] at h ⊢; exact fun e => h e.symm
      rw [h']
      simp only [ih]
      have hg : mGet (x :: L) k = mGet L k := by simp [mGet, List.find?_cons, h]
      rw [hg, List.findIdx?_cons]
      simp only [h, cond_false, Bool.false_eq_true, if_false]
      cases L.findIdx? (fun x => x.a0 == k) with
      | none => rfl
      | some j => simp; omega
theorem mp_has {L : List R_ii} {k : Int} : mHas L k = (L.findIdx? (fun x => x.a0 == k)).isSome := by
  induction L with
  | nil => rfl
  | cons x L ih =>
    unfold mHas at ih ⊢
    rw [List.any_cons, List.findIdx?_cons, ih]
    cases h : (x.a0 == k) with
    | true => rfl
    | false => cases L.findIdx? (fun x => x.a0 == k) <;> rfl
theorem mp_some {L : List R_ii} {k : Int} (h : mHas L k = true) : lookE .i64 (.int .i64 k) (mapE L) = some (some (.int .i64 (mGet L k))) := by
  unfold lookE
  rw [mp_find]
  rw [mp_has] at h
  cases hi : L.findIdx? (fun x => x.a0 == k) with
  | none => rw [hi] at h; cases h
  | some j => rfl
theorem mp_none {L : List R_ii} {k : Int} (h : ¬ (mHas L k = true)) : lookE .i64 (.int .i64 k) (mapE L) = some none := by
  unfold lookE
  rw [mp_find]
  rw [mp_has] at h
  cases hi : L.findIdx? (fun x => x.a0 == k) with
  | none => rfl
  | some j => rw [hi] at h; exact absurd rfl h
theorem mp_put' (k v : Int) : ∀ (L : List R_ii), (match L.findIdx? (fun x => x.a0 == k) with | none => mapE L ++ [⟨.int .i64 k, .int .i64 v, 0⟩] | some j => (mapE L).modify j fun e => ⟨.int .i64 k, .int .i64 v, e.born⟩) = mapE (mPut L k v)
  | [] => rfl
  | x :: L => by
    rw [List.findIdx?_cons]
    by_cases h : x.a0 = k
    · have h' : (x.a0 == k) = true := beq_iff_eq.2 h
      simp only [h', if_true, mPut, h]
      simp [mapE]
    · have h' : (x.a0 == k) = false := beq_eq_false_iff_ne.2 h
      simp only [h', Bool.false_eq_true, if_false, mPut, h]
      have ih := mp_put' k v L
      cases hi : L.findIdx? (fun x => x.a0 == k) with
      | none =>
        rw [hi] at ih
        simp only [Option.map_none]
        simp only [mapE, List.map_cons, List.cons_append] at ih ⊢
        rw [ih]
      | some j =>
        rw [hi] at ih
        simp only [Option.map_some]
        simp only [mapE, List.map_cons, List.modify_succ_cons] at ih ⊢
        rw [ih]
theorem mp_put (L : List R_ii) (k v : Int) : putE .i64 (.int .i64 k) (.int .i64 v) (mapE L) = some (mapE (mPut L k v)) := by
  unfold putE
  rw [mp_find]
  have h := mp_put' k v L
  cases hi : L.findIdx? (fun x => x.a0 == k) with
  | none => rw [hi] at h; exact congrArg some h
  | some j =>
    rw [hi] at h
    simp only [Option.map_some, Nat.zero_add]
    exact congrArg some h
theorem fit_hp {P : Program} {e : FuncId → Option Ext} {f : FuncId} {g : Array Value → St → Out} (F : Fit P e) (D : Does P f g) : Fit P (fun x => bif Nat.beq x f then some (.hp g) else e x) :=
  have cs : ∀ {x : Nat} {y : Ext}, (bif Nat.beq x f then some (.hp g) else e x) = some y → (x = f ∧ y = .hp g) ∨ e x = some y := fun {x y} h => by
    cases hb : Nat.beq x f with
    | true => rw [hb] at h; injection h with h; exact .inl ⟨Nat.eq_of_beq_eq_true hb, h.symm⟩
    | false => rw [hb] at h; exact .inr h
  ⟨F.mixed, F.go, fun x g' h => (cs h).elim (fun q => by cases q.2) (F.fn x g'), fun x g' h => (cs h).elim (fun q => by obtain ⟨rfl, q2⟩ := q; injection q2 with q2; subst q2; exact D) (F.hp x g'), fun x S h => (cs h).elim (fun q => by cases q.2) (F.tc x S), fun x n h => (cs h).elim (fun q => by cases q.2) (F.mark x n), fun x k y h => (cs h).elim (fun q => by cases q.2) (F.ext x k y)⟩
instance : Inhabited R_ii := ⟨R_ii.z⟩
instance : Inhabited R_uii := ⟨R_uii.z⟩
/-- What is known. -/
def sp_Sr : FuncId → Option (List Value → Option Value) := fun f =>
  bif Nat.beq f 8 then some (fun l => match l with | [] => some (.bool true) | _ => none) else
  none
theorem known0_Sr (w : World) : Calls Try.prog 8 #[] w (Ret (.bool true) w) := ret_of 40000 w (by kernel_rfl) rfl
theorem spk_Sr : Known sp_Sr := fun f g h => by
  unfold sp_Sr at h
  cases hb : Nat.beq f 8 with
  | true =>
    rw [hb] at h
    obtain rfl := Nat.eq_of_beq_eq_true hb
    simp only [cond_true, Option.some.injEq] at h
    subst h
    refine ⟨⟨_, _, Try.func8, rfl⟩, fun args v ha hv w => ?_⟩
    obtain ⟨l⟩ := args
    cases l with
    | nil =>
      change some (Value.bool true) = some v at hv
      injection hv with hv
      subst hv
      exact known0_Sr w
    | cons x l => change (none : Option Value) = some v at hv; cases hv
  | false =>
    rw [hb] at h
    simp only [cond_false] at h
    cases h
def tc_Sr : FuncId → Bool := fun f => Nat.beq f 11 || Nat.beq f 15 || Nat.beq f 10 || Nat.beq f 13 || Nat.beq f 23 || Nat.beq f 3 || Nat.beq f 12 || Nat.beq f 14 || Nat.beq f 7 || Nat.beq f 17 || Nat.beq f 6
noncomputable def extd_Sr : FuncId → Option Ext := extT (extS sp_Sr) tc_Sr
theorem fitd_Sr : Fit Try.prog extd_Sr := fitT (fitS spk_Sr) (fun f h => by
  simp only [tc_Sr, Bool.or_eq_true] at h
  simp only [Nat.beq_eq] at h
  rcases h with (((((((((rfl | rfl) | rfl) | rfl) | rfl) | rfl) | rfl) | rfl) | rfl) | rfl) | rfl
  · exact ⟨_, _, Try.func11, rfl⟩
  · exact ⟨_, _, Try.func15, rfl⟩
  · exact ⟨_, _, Try.func10, rfl⟩
  · exact ⟨_, _, Try.func13, rfl⟩
  · exact ⟨_, _, Try.func23, rfl⟩
  · exact ⟨_, _, Try.func3, rfl⟩
  · exact ⟨_, _, Try.func12, rfl⟩
  · exact ⟨_, _, Try.func14, rfl⟩
  · exact ⟨_, _, Try.func7, rfl⟩
  · exact ⟨_, _, Try.func17, rfl⟩
  · exact ⟨_, _, Try.func6, rfl⟩
  )
noncomputable def exti_Sr : FuncId → Option Ext := extT ext1 (fun f => Nat.beq f 23)
theorem fiti_Sr : Fit Try.prog exti_Sr := fitT fit1 (fun f h => by
  simp only [Nat.beq_eq] at h
  subst h
  exact ⟨_, _, Try.func23, rfl⟩)
noncomputable def ext_Sr : FuncId → Option Ext := fun x => bif Nat.beq x 25 then some (.hp (evCallD Try.prog exti_Sr 2000 25)) else extd_Sr x
theorem fit_Sr : Fit Try.prog ext_Sr := fit_hp fitd_Sr (calld_does fiti_Sr Try.func25 rfl)
end Ev
end Go.Proofs.Ytbhnaaingkbeiaa
