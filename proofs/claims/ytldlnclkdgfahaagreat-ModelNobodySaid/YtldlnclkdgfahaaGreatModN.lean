/- The law ModelNobody, for every input. -/
import Derived.Test.YtldlnclkdgfahaaGreatFlat
import Derived.Test.YtldlnclkdgfahaaGreatTail
import Derived.Test.YtldlnclkdgfahaaGreatRw
import Derived.Test.YtldlnclkdgfahaaGreatEvS
namespace Go.Proofs.YtldlnclkdgfahaaGreat
open Go.ChangeShapes Go.WideShapes Go.ChangeAt Go.RowKit
namespace Ev
set_option linter.unusedVariables false
theorem fit_less {P : Program} {ext : FuncId → Option Ext} (F : Fit P ext) (p : FuncId → Bool) : Fit P (fun f => bif p f then none else ext f) :=
  have h : ∀ f e, (bif p f then none else ext f) = some e → ext f = some e := fun f e h => by cases hp : p f <;> rw [hp] at h <;> first | cases h; done | exact h
  ⟨F.mixed, F.go, fun f g e => F.fn f g (h _ _ e), fun f g e => F.hp f g (h _ _ e), fun f S e => F.tc f S (h _ _ e), fun f n e => F.mark f n (h _ _ e), fun f k e' he => F.ext f k e' (h _ _ he)⟩
theorem toL_inj {a b : ByteArray} : (a.toList == b.toList) = (a == b) := (beq_toListBytes a b).symm
theorem ii (x : Int) : -9223372036854775808 ≤ IntKind.i64.wrap x ∧ IntKind.i64.wrap x ≤ 9223372036854775807 := by
  by_cases h : x % 18446744073709551616 < 9223372036854775808
  · have h' : ¬ (x % 18446744073709551616 ≥ 9223372036854775808) := by omega
    have e : IntKind.i64.wrap x = x % 18446744073709551616 := by simp [IntKind.wrap, IntKind.bits, IntKind.signed, h']
    rw [e]; omega
  · have h' : x % 18446744073709551616 ≥ 9223372036854775808 := by omega
    have e : IntKind.i64.wrap x = x % 18446744073709551616 - 18446744073709551616 := by simp [IntKind.wrap, IntKind.bits, IntKind.signed, h']
    rw [e]; omega
theorem lit_bd {l : List Int} {i : Nat} (h : ∀ x ∈ (0 : Int) :: l, -9223372036854775808 ≤ x ∧ x ≤ 9223372036854775807) : -9223372036854775808 ≤ l.getD i 0 ∧ l.getD i 0 ≤ 9223372036854775807 := by
  by_cases hi : i < l.length
  · have e : l.getD i 0 = l[i] := by simp [List.getD, hi]
    rw [e]; exact h _ (List.mem_cons_of_mem _ (List.getElem_mem hi))
  · have e : l.getD i 0 = 0 := by simp [List.getD, List.getElem?_eq_none (Nat.le_of_not_lt hi)]
    rw [e]; exact h _ (List.mem_cons_self ..)
theorem fold_push (ns : List Int) : ∀ acc : ByteArray, (ns.foldl (fun r n => r.push (UInt8.ofNat n.toNat)) acc).data = acc.data ++ (ns.map fun n => UInt8.ofNat n.toNat).toArray := by
  induction ns with
  | nil => intro acc; simp
  | cons n ns ih => intro acc; rw [List.foldl_cons, ih]; simp [ByteArray.push]
theorem strOf_data (ns : List Int) : (strOf ns).data = (ns.map fun n => UInt8.ofNat n.toNat).toArray := by
  unfold strOf; rw [fold_push]; simp
theorem cat_eq (a b : List Int) : strOf a ++ strOf b = strOf (a ++ b) := by
  apply ByteArray.ext
  rw [ByteArray.data_append, strOf_data, strOf_data, strOf_data]; simp
theorem str_size {x y : List Int} (h : x.length + y.length ≤ 1000000) : (((strOf x).size + (strOf y).size : Nat) : Int) ≤ IntKind.i64.max := by
  have e : ∀ l : List Int, (strOf l).size = l.length := fun l => by
    show (strOf l).data.size = l.length
    rw [strOf_data]; simp
  rw [e, e]
  have : IntKind.i64.max = 9223372036854775807 := by decide
  omega
theorem strB_t {x y : List Int} (h : strB x y = true) : ((strOf x).toList == (strOf y).toList) = true := toL_inj.trans h
theorem strB_f {x y : List Int} (h : ¬ (strB x y = true)) : ((strOf x).toList == (strOf y).toList) = false := toL_inj.trans (Bool.eq_false_iff.2 h)
theorem strB_n {x y : List Int} (h : ¬ (strB x y = true)) : (!((strOf x).toList == (strOf y).toList)) = true := by rw [strB_f h]; rfl
theorem strB_m {x y : List Int} (h : strB x y = true) : (!((strOf x).toList == (strOf y).toList)) = false := by rw [strB_t h]; rfl
theorem tmod_neg8 {a b : Int} (h : ¬ 0 ≤ a) (hb : 0 < b) : Int.tmod a b = 0 - ((0 - a) % b) := by
  have e : a = -(-a) := by omega
  rw [e, Int.neg_tmod, Int.tmod_eq_emod_of_nonneg (by omega)]
  simp
theorem and_seven (n : Int) : IntKind.i64.wrap (((BitVec.ofInt IntKind.i64.bits n &&& BitVec.ofInt IntKind.i64.bits 7).toNat : Nat) : Int) = n % 8 := by
  have e1 : (BitVec.ofInt 64 n &&& BitVec.ofInt 64 7).toNat = (BitVec.ofInt 64 n).toNat % 8 := by
    rw [BitVec.toNat_and]
    have : (BitVec.ofInt 64 7).toNat = 2 ^ 3 - 1 := by decide
    rw [this, Nat.and_two_pow_sub_one_eq_mod]
  have e2 : ((BitVec.ofInt 64 n).toNat : Int) = n % 18446744073709551616 := by
    rw [BitVec.toNat_ofInt]
    omega
  show IntKind.i64.wrap (((BitVec.ofInt 64 n &&& BitVec.ofInt 64 7).toNat : Nat) : Int) = n % 8
  rw [e1, wrap_i64 (by omega)]
  omega
theorem uu (x : Int) : 0 ≤ IntKind.u64.wrap x ∧ IntKind.u64.wrap x ≤ 18446744073709551615 := by
  have h : IntKind.u64.wrap x = x % 18446744073709551616 := by simp [IntKind.wrap, IntKind.bits, IntKind.signed]
  rw [h]; omega
abbrev vq : Value := .int .i64 0
abbrev vf : Value := .bool false
abbrev vT : Value := .bool true
abbrev vn : Value := .slice none 0 0
abbrev vtt : Value := .tuple #[]
noncomputable abbrev dS {α : Type} (a : α) : Bool := dP (a = a)
theorem ltA {p : Prop} (h : p := by first | omega | (simp only [List.length_set, List.length_append, List.length_cons, List.length_nil, List.length_replicate, List.length_take, List.length_drop] at * <;> omega)) : p := h
theorem eqA {p : Prop} (h : p := by first | rfl | omega | (simp only [List.length_set, List.length_append, List.length_cons, List.length_nil, List.length_replicate, List.length_take, List.length_drop] at * <;> omega)) : p := h
theorem rr {p q : Prop} (h : p := by rfl) (h2 : q := by rfl) : p ∧ q := ⟨h, h2⟩
section
variable {l : List (Bool × Bool)}
theorem oT {a b : Int} (hl : ∀ q ∈ l, q.1 = q.2) (h : a = b := by omega) : ∀ q ∈ ((a == b), true) :: l, q.1 = q.2 := obs_cons (bT h) hl
theorem oF {a b : Int} (hl : ∀ q ∈ l, q.1 = q.2) (h : ¬ a = b := by omega) : ∀ q ∈ ((a == b), false) :: l, q.1 = q.2 := obs_cons (bF h) hl
theorem oD {a b : Int} (hl : ∀ q ∈ l, q.1 = q.2) (h : a ≠ b := by omega) : ∀ q ∈ ((a != b), true) :: l, q.1 = q.2 := obs_cons (bne_iff_ne.2 h) hl
theorem oE {a b : Int} (hl : ∀ q ∈ l, q.1 = q.2) (h : a = b := by omega) : ∀ q ∈ ((a != b), false) :: l, q.1 = q.2 := obs_cons (bne_eq_false_iff_eq.2 h) hl
theorem oY {p : Prop} [Decidable p] (hl : ∀ q ∈ l, q.1 = q.2) (h : p := by omega) : ∀ q ∈ (decide p, true) :: l, q.1 = q.2 := obs_cons (decide_eq_true h) hl
theorem oN {p : Prop} [Decidable p] (hl : ∀ q ∈ l, q.1 = q.2) (h : ¬ p := by omega) : ∀ q ∈ (decide p, false) :: l, q.1 = q.2 := obs_cons (decide_eq_false h) hl
theorem oR {α : Type} {a b : α} (hl : ∀ q ∈ l, q.1 = q.2) (h : a = b := by rfl) : ∀ q ∈ (dP (a = b), true) :: l, q.1 = q.2 := obs_cons (dP_of h) hl
theorem oB {a b : Nat} (hl : ∀ q ∈ l, q.1 = q.2) (h : a < b := by omega) : ∀ q ∈ (Nat.blt a b, true) :: l, q.1 = q.2 := obs_cons (blt_of h) hl
theorem oL {a b : Nat} (hl : ∀ q ∈ l, q.1 = q.2) (h : a < b := by first | omega | (simp only [List.length_set, List.length_append, List.length_cons, List.length_nil, List.length_replicate, List.length_take, List.length_drop] at * <;> omega)) : ∀ q ∈ (Nat.blt a b, true) :: l, q.1 = q.2 := obs_cons (blt_of h) hl
theorem oI {a b : Int} (hl : ∀ q ∈ l, q.1 = q.2) (h : a = b := by first | rfl | exact idx_eq (by omega)) : ∀ q ∈ ((a == b), true) :: l, q.1 = q.2 := obs_cons (bT h) hl
end
set_option maxRecDepth 100000
/-- The same as ret_rel, of an argument with a row that no one looks into. -/
theorem ret_rel1 (fu : Nat) {f : FuncId} {args args' : Array Value} {v : Value} {orc : Orc} {ob : List (Bool × Bool)} (w : World) {b : Nat} (hb : b < w.heap.size) (h : outO (evCall Tryz.prog ext fu f args ⟨.nil, 1, [], orc, []⟩) = some (v, ob)) (ho : ∀ p ∈ ob, p.1 = p.2) (ha : VRs (upd (fun _ => none) 0 (some (b, 0))) args args') : Calls Tryz.prog f args' w (Ret v w) := by
  unfold outO at h
  split at h
  · rename_i u s hr
    obtain ⟨hf, h⟩ := bif_some h
    injection h with h
    injection h with h1 h2
    subst h1 h2
    have hF := (sound_all (P := Tryz.prog) fit fu).2.2.2.1 f args _ u s hr ho (upd (fun _ => none) 0 (some (b, 0))) w args' ha
      ⟨fun k c t hk => by simp [Tr.get_nil] at hk, fun k O hk => by simp [Tr.get_nil] at hk, fun k k' b b' hk => by simp [Tr.get_nil, isC] at hk, fun k b1 hk => by
        by_cases h0 : k = 0
        · subst h0; rw [upd_same] at hk; injection hk with hk; subst hk; exact hb
        · rw [upd_other h0] at hk; cases hk⟩ ⟨Nat.le_of_ble_eq_true (Bool.and_eq_true_iff.1 hf).2, fun k hk _ => upd_other (by show k ≠ 0; have : 1 ≤ k := hk; omega)⟩
    refine hF.mono ?_
    rintro e w' ⟨v', ι', rfl, g1, g2, g3⟩
    have := g3.eq_of_free (Bool.and_eq_true_iff.1 hf).1
    subst this
    exact ⟨rfl, g1.os, g1.tape, g1.output, g1.size, fun k hk => g1.frame k hk fun j c hj => by simp [Tr.get_nil, isC] at hj⟩
  · cases h
theorem cell_slice {P : Program} {w : World} {r : Reach} {base : Nat} {u e : TypeId} {c : Value} (hu : P.underlying u = some (.slice e)) (h : Cell.okWide P w r base u c) : c = .slice none 0 0 ∨ ∃ (b o len cap : Nat), c = .slice (some ⟨b, o, none⟩) len cap ∧ len ≤ cap ∧ b < w.heap.size := by
  simp only [Cell.okWide, hu, Cell.ok] at h
  cases c with
  | slice a l cp =>
    cases a with
    | none =>
      left
      cases l with
      | zero => cases cp with
        | zero => rfl
        | succ n => exact (show False from h).elim
      | succ n => exact (show False from h).elim
    | some a =>
      right
      simp only at h
      obtain ⟨b, o, spot⟩ := a
      obtain ⟨_, hspot, row, cells, hsh, _⟩ := h.2.2
      have hspot : spot = none := hspot
      subst hspot
      have hsh : w.shape? b = some (row, cells) := hsh
      unfold World.shape? at hsh
      split at hsh
      · rename_i C el fr hB
        exact ⟨b, o, l, cp, rfl, h.1, (Array.getElem?_eq_some_iff.1 hB).1⟩
      · cases hsh
  | _ => simp at h
theorem pth0 (z0_0 z0_1 z0_2 z0_3 z0_4 z0_5 z0_7 z1_0 z1_1 z2 : Int) (w : World) : Calls Tryz.prog 3 #[Value.agg #[Value.int .i64 z0_0, Value.int .i64 z0_1, Value.int .i64 z0_2, Value.int .i64 z0_3, Value.int .i64 z0_4, Value.int .i64 z0_5, Value.slice none 0 0, Value.int .i64 z0_7], Value.agg #[Value.int .i64 z1_0, Value.int .i64 z1_1], Value.int .i64 z2] w (Ret (.bool true) w) :=
  ret_rel 40000 (args := #[Value.agg #[Value.int .i64 z0_0, Value.int .i64 z0_1, Value.int .i64 z0_2, Value.int .i64 z0_3, Value.int .i64 z0_4, Value.int .i64 z0_5, Value.slice none 0 0, Value.int .i64 z0_7], Value.agg #[Value.int .i64 z1_0, Value.int .i64 z1_1], Value.int .i64 z2]) (orc := (orcw [] [] [] [] [])) (ob := []) w (by kernel_rfl) obs_nil (VRl_cons (.aggl (VRl_cons (.atom rfl) (VRl_cons (.atom rfl) (VRl_cons (.atom rfl) (VRl_cons (.atom rfl) (VRl_cons (.atom rfl) (VRl_cons (.atom rfl) (VRl_cons (.atom rfl) (VRl_cons (.atom rfl) VRl_nil))))))))) (VRl_cons (.aggl (VRl_cons (.atom rfl) (VRl_cons (.atom rfl) VRl_nil))) (VRl_cons (.atom rfl) VRl_nil)))
theorem pth1 (z0_0 z0_1 z0_2 z0_3 z0_4 z0_5 z0_7 z1_0 z1_1 z2 : Int) (b o n c : Nat) (hn : n ≤ c) (g0 : (12 : Int) < ((n : Nat) : Int)) (g1 : (12 : Int) ≤ ((c : Nat) : Int)) (w : World) (hb : b < w.heap.size) : Calls Tryz.prog 3 #[Value.agg #[Value.int .i64 z0_0, Value.int .i64 z0_1, Value.int .i64 z0_2, Value.int .i64 z0_3, Value.int .i64 z0_4, Value.int .i64 z0_5, Value.slice (some ⟨b, o, none⟩) n c, Value.int .i64 z0_7], Value.agg #[Value.int .i64 z1_0, Value.int .i64 z1_1], Value.int .i64 z2] w (Ret (.bool true) w) :=
  ret_rel1 40000 (args := #[Value.agg #[Value.int .i64 z0_0, Value.int .i64 z0_1, Value.int .i64 z0_2, Value.int .i64 z0_3, Value.int .i64 z0_4, Value.int .i64 z0_5, Value.slice (some ⟨0, o, none⟩) n c, Value.int .i64 z0_7], Value.agg #[Value.int .i64 z1_0, Value.int .i64 z1_1], Value.int .i64 z2]) (orc := (orcw [(10, true), (45, true)] [] [] [] [(6, .sl 0 12), (15, .sl 0 12)])) (ob := [(dP (0 ≤ 12 ∧ 12 ≤ c), true), ((12 : Int) == Int.ofNat 12, true), (dS 0, true), ((decide (((n : Nat) : Int) > (12 : Int))), true), (dP (0 ≤ 12 ∧ 12 ≤ c), true), ((12 : Int) == Int.ofNat 12, true), (dS 0, true), ((decide (((n : Nat) : Int) > (12 : Int))), true)]) w hb (by kernel_rfl) (obs_cons (dP_of ⟨ltA, ltA⟩) <| oI <| oR <| oY <| obs_cons (dP_of ⟨ltA, ltA⟩) <| oI <| oR <| oY obs_nil) (VRl_cons (.aggl (VRl_cons (.atom rfl) (VRl_cons (.atom rfl) (VRl_cons (.atom rfl) (VRl_cons (.atom rfl) (VRl_cons (.atom rfl) (VRl_cons (.atom rfl) (VRl_cons (.slice (b := (b, 0)) upd_same hn (Nat.le_refl c) (fun _ => .inl (Nat.le_refl c))) (VRl_cons (.atom rfl) VRl_nil))))))))) (VRl_cons (.aggl (VRl_cons (.atom rfl) (VRl_cons (.atom rfl) VRl_nil))) (VRl_cons (.atom rfl) VRl_nil)))
theorem pth2 (z0_0 z0_1 z0_2 z0_3 z0_4 z0_5 z0_7 z1_0 z1_1 z2 : Int) (b o n c : Nat) (hn : n ≤ c) (g0 : ¬ ((12 : Int) < ((n : Nat) : Int))) (w : World) (hb : b < w.heap.size) : Calls Tryz.prog 3 #[Value.agg #[Value.int .i64 z0_0, Value.int .i64 z0_1, Value.int .i64 z0_2, Value.int .i64 z0_3, Value.int .i64 z0_4, Value.int .i64 z0_5, Value.slice (some ⟨b, o, none⟩) n c, Value.int .i64 z0_7], Value.agg #[Value.int .i64 z1_0, Value.int .i64 z1_1], Value.int .i64 z2] w (Ret (.bool true) w) :=
  ret_rel1 40000 (args := #[Value.agg #[Value.int .i64 z0_0, Value.int .i64 z0_1, Value.int .i64 z0_2, Value.int .i64 z0_3, Value.int .i64 z0_4, Value.int .i64 z0_5, Value.slice (some ⟨0, o, none⟩) n c, Value.int .i64 z0_7], Value.agg #[Value.int .i64 z1_0, Value.int .i64 z1_1], Value.int .i64 z2]) (orc := (orcw [(10, false), (45, false)] [] [] [] [])) (ob := [((decide (((n : Nat) : Int) > (12 : Int))), false), ((decide (((n : Nat) : Int) > (12 : Int))), false)]) w hb (by kernel_rfl) (oN <| oN obs_nil) (VRl_cons (.aggl (VRl_cons (.atom rfl) (VRl_cons (.atom rfl) (VRl_cons (.atom rfl) (VRl_cons (.atom rfl) (VRl_cons (.atom rfl) (VRl_cons (.atom rfl) (VRl_cons (.slice (b := (b, 0)) upd_same hn (Nat.le_refl c) (fun _ => .inl (Nat.le_refl c))) (VRl_cons (.atom rfl) VRl_nil))))))))) (VRl_cons (.aggl (VRl_cons (.atom rfl) (VRl_cons (.atom rfl) VRl_nil))) (VRl_cons (.atom rfl) VRl_nil)))
namespace ModelNobody
noncomputable def cellTs0 : List TypeId := (Tryz.prog.cellTypes Tryz.prog.depth 26).getD []
noncomputable def cellTs1 : List TypeId := (Tryz.prog.cellTypes Tryz.prog.depth 29).getD []
theorem own : ownKnob Tryz.prog.godebug = none := by kernel_rfl
set_option maxRecDepth 100000 in
theorem lifted (os : Os) (started : os.Started) (H : Type) (enc : TypeId × Value → H) :
    ReturnsInHanded {} Tryz.checked os 3 .any (Rows.modelNobodySpec.pre6 enc Tryz.prog Tryz.f3 Rows.modelNobodyRow.domain false) (Rows.modelNobodySpec.post enc Tryz.prog Tryz.f3 false true false false) := by
  refine law_frame (C := Tryz.checked) own started (by kernel_rfl) Tryz.func3 rfl rfl Tryz.underlying4 ?_ (by kernel_rfl) (by kernel_rfl)
    (ChangeSpec.witness6 (enc := enc) (C := Tryz.checked) false ⟨#[], #[.agg #[.int .i64 0, .int .i64 0, .int .i64 0, .int .i64 0, .int .i64 0, .int .i64 0, .slice none 0 0, .int .i64 0], .agg #[.int .i64 0, .int .i64 0], .int .i64 0], []⟩ 8 (by kernel_rfl) (by kernel_rfl) (by kernel_rfl) (by kernel_rfl)) ?_
  · intro ds hlen
    have hlen : ds.length = 3 := hlen.trans (by kernel_rfl)
    match ds, hlen with
    | [_, _, _], _ => rfl
  intro W base args ds p hval hA hlt hsz
  rw [Tryz.params3] at hA hval
  obtain ⟨v0, vs0, d0, ds0, p0, q0, hargs, rfl, rfl, h0, r0⟩ := trodAll_cons hA
  obtain ⟨v1, vs1, d1, ds1, p1, q1, rfl, rfl, rfl, h1, r1⟩ := trodAll_cons r0
  obtain ⟨v2, vs2, d2, ds2, p2, q2, rfl, rfl, rfl, h2, r2⟩ := trodAll_cons r1
  obtain ⟨rfl, rfl, rfl⟩ := trodAll_nil r2
  obtain rfl : args = #[v0, v1, v2] := by cases args; simp_all
  obtain ⟨cs0, rfl, hl0, hc0⟩ := okWide_cells (ts := cellTs0) (by kernel_rfl) (by kernel_rfl) (by kernel_rfl) (hval 0 26 v0 rfl rfl)
  match cs0, hl0 with
  | [x0_0, x0_1, x0_2, x0_3, x0_4, x0_5, x0_6, x0_7], _ =>
  obtain ⟨z0_0, rfl, w0_0⟩ := okWide_int (k := .i64) (by kernel_rfl) (hc0 0 _ _ rfl rfl)
  obtain ⟨z0_1, rfl, w0_1⟩ := okWide_int (k := .i64) (by kernel_rfl) (hc0 1 _ _ rfl rfl)
  obtain ⟨z0_2, rfl, w0_2⟩ := okWide_int (k := .i64) (by kernel_rfl) (hc0 2 _ _ rfl rfl)
  obtain ⟨z0_3, rfl, w0_3⟩ := okWide_int (k := .i64) (by kernel_rfl) (hc0 3 _ _ rfl rfl)
  obtain ⟨z0_4, rfl, w0_4⟩ := okWide_int (k := .i64) (by kernel_rfl) (hc0 4 _ _ rfl rfl)
  obtain ⟨z0_5, rfl, w0_5⟩ := okWide_int (k := .i64) (by kernel_rfl) (hc0 5 _ _ rfl rfl)
  obtain ⟨z0_7, rfl, w0_7⟩ := okWide_int (k := .i64) (by kernel_rfl) (hc0 7 _ _ rfl rfl)
  obtain ⟨cs1, rfl, hl1, hc1⟩ := okWide_cells (ts := cellTs1) (by kernel_rfl) (by kernel_rfl) (by kernel_rfl) (hval 1 29 v1 rfl rfl)
  match cs1, hl1 with
  | [x1_0, x1_1], _ =>
  obtain ⟨z1_0, rfl, w1_0⟩ := okWide_int (k := .i64) (by kernel_rfl) (hc1 0 _ _ rfl rfl)
  obtain ⟨z1_1, rfl, w1_1⟩ := okWide_int (k := .i64) (by kernel_rfl) (hc1 1 _ _ rfl rfl)
  obtain ⟨z2, rfl, w2⟩ := okWide_int (k := .i64) (by kernel_rfl) (okWide_one (by kernel_rfl) (hval 2 3 v2 rfl rfl))
  rcases cell_slice (e := 29) (by kernel_rfl) (hc0 6 _ _ rfl rfl) with rfl | ⟨b, o, n, c, rfl, hn, hb⟩
  ·
    exact pth0 z0_0 z0_1 z0_2 z0_3 z0_4 z0_5 z0_7 z1_0 z1_1 z2 W
  ·
    by_cases g0 : (12 : Int) < ((n : Nat) : Int)
    ·
      by_cases g1 : (12 : Int) ≤ ((c : Nat) : Int)
      ·
        exact pth1 z0_0 z0_1 z0_2 z0_3 z0_4 z0_5 z0_7 z1_0 z1_1 z2 b o n c hn g0 g1 W hb
      ·
        exfalso; omega
    ·
      exact pth2 z0_0 z0_1 z0_2 z0_3 z0_4 z0_5 z0_7 z1_0 z1_1 z2 b o n c hn g0 W hb
theorem over : Rows.modelNobodyRow.holds Tryz.pinned (OpenSpec.ofChange Rows.modelNobodySpec) :=
  OpenClaim.holds_of_wide 3 Tryz.f3 rfl rfl rfl rfl rfl rfl rfl ⟨rfl, rfl, rfl, rfl, rfl⟩ rfl rfl rfl rfl rfl (by kernel_rfl) Tryz.func3 (by kernel_rfl)
    (of_decide_eq_true (by kernel_rfl)) (by unfold Func.isWrapper; first | (rw [if_pos (by decide +kernel)]; kernel_rfl) | (rw [if_neg (by decide +kernel)]; exact ⟨rfl, rfl⟩))
    (fun os started H enc _ => lifted os started H enc)
/-- The statement. -/
theorem proved : Rows.ModelNobodySaid := over
#print axioms proved
end ModelNobody
end Ev
end Go.Proofs.YtldlnclkdgfahaaGreat
