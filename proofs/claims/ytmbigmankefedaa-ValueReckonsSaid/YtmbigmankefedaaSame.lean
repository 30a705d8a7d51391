/- Rows of values: when two are the same. -/
import Derived.Test.YtmbigmankefedaaTail
import Derived.Test.YtmbigmankefedaaValD
import Derived.Deep.LoopGhost
import Derived.Test.YtmbigmankefedaaFrame
namespace Go.Proofs.Ytmbigmankefedaa
open Go.ChangeShapes Go.WideShapes Go.ChangeAt Go.RowKit
namespace Val


attribute [local go_sem ↓] run_eql_val run_neq_val

/-- A slice that reads as these values. -/
def Vals (w : World) (A : Option Addr) (n : Nat) (xs : List (Int × Int)) : Prop :=
  xs.length = n ∧ (0 < n → ∃ b o, A = some ⟨b, o, none⟩ ∧ b < w.heap.size ∧ ∀ i x, xs[i]? = some x → w.cell? ⟨b, o + i * 2, none⟩ = some (.int .i64 x.1) ∧ w.cell? ⟨b, o + i * 2 + 1, none⟩ = some (.int .i64 x.2))
theorem Vals.below {w w' : World} {A : Option Addr} {n : Nat} {xs : List (Int × Int)} (h : Vals w A n xs) (hb : Below w.heap.size w w') : Vals w' A n xs :=
  ⟨h.1, fun hn => by
    obtain ⟨b, o, e, hlt, hc⟩ := h.2 hn
    exact ⟨b, o, e, Nat.lt_of_lt_of_le hlt hb.size, fun i x hx => ⟨(hb.cell (p := ⟨b, _, none⟩) hlt).trans (hc i x hx).1, (hb.cell (p := ⟨b, _, none⟩) hlt).trans (hc i x hx).2⟩⟩⟩
def sameB (xs ys : List (Int × Int)) : Bool := decide (xs = ys)
theorem sameB_take {xs ys : List (Int × Int)} {k : Nat} (h : xs.take k = ys.take k) (hx : xs.length ≤ k) (hy : ys.length ≤ k) : sameB xs ys = true := by
  rw [List.take_of_length_le hx, List.take_of_length_le hy] at h
  simp [sameB, h]
theorem sameB_len {xs ys : List (Int × Int)} (h : xs.length ≠ ys.length) : sameB xs ys = false := by
  simp only [sameB, decide_eq_false_iff_not]; rintro rfl; exact h rfl
theorem sameB_at {xs ys : List (Int × Int)} {k : Nat} {x y : Int × Int} (hx : xs[k]? = some x) (hy : ys[k]? = some y) (h : (x.1 == y.1 && x.2 == y.2) = false) : sameB xs ys = false := by
  simp only [sameB, decide_eq_false_iff_not]; rintro rfl
  rw [hx] at hy; injection hy with hy; subst hy; simp at h
theorem take_step {xs ys : List (Int × Int)} {k : Nat} {x y : Int × Int} (hk : xs.take k = ys.take k) (hx : xs[k]? = some x) (hy : ys[k]? = some y) (h : (x.1 == y.1 && x.2 == y.2) = true) : xs.take (k + 1) = ys.take (k + 1) := by
  rw [List.take_add_one, List.take_add_one, hk, hx, hy]
  have : x = y := by
    simp only [Bool.and_eq_true, beq_iff_eq] at h
    exact Prod.ext h.1 h.2
  rw [this]
def SameRel (w : World) (xs ys : List (Int × Int)) (n : Nat) (i : Value) (wr : World) : Prop := ∃ k : Nat, k ≤ n ∧ i = .int .i64 k ∧ Below w.heap.size w wr ∧ xs.take k = ys.take k

set_option maxRecDepth 100000 in
set_option maxHeartbeats 1000000 in
theorem same_eq (A B : Option Addr) (n c d : Nat) (xs ys : List (Int × Int)) (w : World) (hA : Vals w A n xs) (hB : Vals w B n ys) (hn : n ≤ 50) :
    Calls Try.prog 33 #[.slice A n c, .slice B n d] w (Ret (.bool (sameB xs ys)) w) := by
  go_enter Try.func33, Try.ntmps33
  go_wp2_with fail
  go_loopw [14] (fun i wr => SameRel w xs ys n i wr) (fun i _ => n - (intOf i).toNat)
  case atStart => exact ⟨0, Nat.zero_le _, rfl, Below.refl _ _, rfl⟩
  case round =>
    obtain ⟨k, hk, rfl, hbl, htk⟩ := hrel
    by_cases hlt : k < n
    · obtain ⟨b, o, rfl, hb, hc⟩ := (hA.below hbl).2 (by omega)
      obtain ⟨b', o', rfl, hb', hc'⟩ := (hB.below hbl).2 (by omega)
      have hkx : k < xs.length := by have := hA.1; omega
      have hky : k < ys.length := by have := hB.1; omega
      obtain ⟨x, hx⟩ : ∃ x, xs[k]? = some x := ⟨_, List.getElem?_eq_getElem hkx⟩
      obtain ⟨y, hy⟩ : ∃ y, ys[k]? = some y := ⟨_, List.getElem?_eq_getElem hky⟩
      obtain ⟨c0, c1⟩ := hc k x hx
      obtain ⟨d0, d1⟩ := hc' k y hy
      have Hx := Lib.hid hx
      have Hy := Lib.hid hy
      have Hk := Lib.hid htk
      clear hx hy htk hc hc' hA hB
      have q0 : (0 : Int) ≤ (k : Int) := Int.natCast_nonneg _
      obtain ⟨E, hE⟩ : ∃ E : Bool, (x.1 == y.1 && x.2 == y.2) = E := ⟨_, rfl⟩
      cases E
      · skip
        go_wp2_with fail
        refine wp_cl fun z => ?_
        have hbl2 : Below w.heap.size w z.w := z.out (outA hbl _)
        have e0 := z.all wr.heap.size 0 (.int .i64 x.1) (by simp) (by simp [go_sem])
        have e1 := z.all wr.heap.size 1 (.int .i64 x.2) (by simp) (by simp [go_sem])
        have f0 := z.all b' (o' + k * 2) (.int .i64 y.1) (by simp; omega) (cell_old _ hb' d0)
        have f1 := z.all b' (o' + k * 2 + 1) (.int .i64 y.2) (by simp; omega) (cell_old _ hb' d1)
        clear c0 c1 d0 d1
        have hk0 : (k : Int) < (n : Int) := by omega
        refine region_cl (x := z) (by kernel_rfl) (by kernel_rfl) ?_
        repeat (go_big_quiet_step (fail))
        refine wpQuiet_nil ?_
        rintro w' ⟨yy, rfl⟩
        clear hbl2
        have hbl2 : Below w.heap.size w yy.w := yy.out (outA hbl _)
        go_wp2_with fail
        go_ret
        refine ⟨?_, hbl2⟩
        rw [sameB_at Hx.out Hy.out hE]
        rfl
      · skip
        go_wp2_with fail
        refine wp_cl fun z => ?_
        have hbl2 : Below w.heap.size w z.w := z.out (outA hbl _)
        have e0 := z.all wr.heap.size 0 (.int .i64 x.1) (by simp) (by simp [go_sem])
        have e1 := z.all wr.heap.size 1 (.int .i64 x.2) (by simp) (by simp [go_sem])
        have f0 := z.all b' (o' + k * 2) (.int .i64 y.1) (by simp; omega) (cell_old _ hb' d0)
        have f1 := z.all b' (o' + k * 2 + 1) (.int .i64 y.2) (by simp; omega) (cell_old _ hb' d1)
        clear c0 c1 d0 d1
        have hk0 : (k : Int) < (n : Int) := by omega
        refine region_cl (x := z) (by kernel_rfl) (by kernel_rfl) ?_
        repeat (go_big_quiet_step (fail))
        refine wpQuiet_nil ?_
        rintro w' ⟨yy, rfl⟩
        clear hbl2
        have hbl2 : Below w.heap.size w yy.w := yy.out (outA hbl _)
        go_wp2_with fail
        go_roundw
        case rel => exact ⟨k + 1, by omega, by go_num, hbl2, take_step Hk.out Hx.out Hy.out hE⟩
        case measure => simp [intOf]; omega
    · obtain rfl : k = n := by omega
      go_wp2_with fail
      go_ret
      refine ⟨?_, hbl⟩
      rw [sameB_take htk (by have := hA.1; omega) (by have := hB.1; omega)]
      rfl

theorem same_ne (A B : Option Addr) (n m c d : Nat) (xs ys : List (Int × Int)) (w : World) (hA : Vals w A n xs) (hB : Vals w B m ys) (hn : n ≤ 50) (hm : m ≤ 50) (hne : n ≠ m) :
    Calls Try.prog 33 #[.slice A n c, .slice B m d] w (Ret (.bool (sameB xs ys)) w) := by
  rw [sameB_len (by rw [hA.1, hB.1]; exact hne)]
  have hne' : ((n : Int) != (m : Int)) = true := by simp; omega
  go_enter Try.func33, Try.ntmps33
  go_wp2_with fail
  go_ret
  exact Ret.of (Below.refl _ _)

theorem same_any (A B : Option Addr) (n m c d : Nat) (xs ys : List (Int × Int)) (e : Bool) (he : sameB xs ys = e) (w : World) (hA : Vals w A n xs) (hB : Vals w B m ys) (hn : n ≤ 50) (hm : m ≤ 50) :
    Calls Try.prog 33 #[.slice A n c, .slice B m d] w (Ret (.bool e) w) := by
  subst he
  by_cases h : n = m
  · subst h
    exact same_eq A B n c d xs ys w hA hB hn
  · exact same_ne A B n m c d xs ys w hA hB hn hm h

set_option maxRecDepth 100000 in
set_option maxHeartbeats 1000000 in
theorem rsame_eq (A B : Option Addr) (n c d : Nat) (xs ys : List (Int × Int)) (w : World) (hA : Vals w A n xs) (hB : Vals w B n ys) (hn : n ≤ 50) :
    Calls Try.prog 34 #[.slice A n c, .slice B n d] w (Ret (.bool (sameB xs ys)) w) := by
  go_enter Try.func34, Try.ntmps34
  go_wp2_with fail
  go_loopw [5] (fun i wr => SameRel w xs ys n i wr) (fun i _ => n - (intOf i).toNat)
  case atStart => exact ⟨0, Nat.zero_le _, rfl, Below.refl _ _, rfl⟩
  case round =>
    obtain ⟨k, hk, rfl, hbl, htk⟩ := hrel
    by_cases hlt : k < n
    · obtain ⟨b, o, rfl, hb, hc⟩ := (hA.below hbl).2 (by omega)
      obtain ⟨b', o', rfl, hb', hc'⟩ := (hB.below hbl).2 (by omega)
      have hkx : k < xs.length := by have := hA.1; omega
      have hky : k < ys.length := by have := hB.1; omega
      obtain ⟨x, hx⟩ : ∃ x, xs[k]? = some x := ⟨_, List.getElem?_eq_getElem hkx⟩
      obtain ⟨y, hy⟩ : ∃ y, ys[k]? = some y := ⟨_, List.getElem?_eq_getElem hky⟩
      obtain ⟨c0, c1⟩ := hc k x hx
      obtain ⟨d0, d1⟩ := hc' k y hy
      have Hx := Lib.hid hx
      have Hy := Lib.hid hy
      have Hk := Lib.hid htk
      clear hx hy htk hc hc' hA hB
      have q0 : (0 : Int) ≤ (k : Int) := Int.natCast_nonneg _
      obtain ⟨E, hE⟩ : ∃ E : Bool, (x.1 == y.1 && x.2 == y.2) = E := ⟨_, rfl⟩
      cases E
      · skip
        go_wp2_with fail
        refine wp_cl fun z => ?_
        have hbl2 : Below w.heap.size w z.w := z.out hbl
        have e0 := z.all b (o + k * 2) (.int .i64 x.1) hb c0
        have e1 := z.all b (o + k * 2 + 1) (.int .i64 x.2) hb c1
        have f0 := z.all b' (o' + k * 2) (.int .i64 y.1) hb' d0
        have f1 := z.all b' (o' + k * 2 + 1) (.int .i64 y.2) hb' d1
        clear c0 c1 d0 d1
        have hk0 : (k : Int) < (n : Int) := by omega
        refine region_cl (x := z) (by kernel_rfl) (by kernel_rfl) ?_
        repeat (go_big_quiet_step (fail))
        refine wpQuiet_nil ?_
        rintro w' ⟨yy, rfl⟩
        clear hbl2
        have hbl2 : Below w.heap.size w yy.w := yy.out hbl
        go_wp2_with fail
        go_ret
        refine ⟨?_, hbl2⟩
        rw [sameB_at Hx.out Hy.out hE]
        rfl
      · skip
        go_wp2_with fail
        refine wp_cl fun z => ?_
        have hbl2 : Below w.heap.size w z.w := z.out hbl
        have e0 := z.all b (o + k * 2) (.int .i64 x.1) hb c0
        have e1 := z.all b (o + k * 2 + 1) (.int .i64 x.2) hb c1
        have f0 := z.all b' (o' + k * 2) (.int .i64 y.1) hb' d0
        have f1 := z.all b' (o' + k * 2 + 1) (.int .i64 y.2) hb' d1
        clear c0 c1 d0 d1
        have hk0 : (k : Int) < (n : Int) := by omega
        refine region_cl (x := z) (by kernel_rfl) (by kernel_rfl) ?_
        repeat (go_big_quiet_step (fail))
        refine wpQuiet_nil ?_
        rintro w' ⟨yy, rfl⟩
        clear hbl2
        have hbl2 : Below w.heap.size w yy.w := yy.out hbl
        go_wp2_with fail
        go_roundw
        case rel => exact ⟨k + 1, by omega, by go_num, hbl2, take_step Hk.out Hx.out Hy.out hE⟩
        case measure => simp [intOf]; omega
    · obtain rfl : k = n := by omega
      go_wp2_with fail
      go_ret
      refine ⟨?_, hbl⟩
      rw [sameB_take htk (by have := hA.1; omega) (by have := hB.1; omega)]
      rfl

theorem rsame_ne (A B : Option Addr) (n m c d : Nat) (xs ys : List (Int × Int)) (w : World) (hA : Vals w A n xs) (hB : Vals w B m ys) (hn : n ≤ 50) (hm : m ≤ 50) (hne : n ≠ m) :
    Calls Try.prog 34 #[.slice A n c, .slice B m d] w (Ret (.bool (sameB xs ys)) w) := by
  rw [sameB_len (by rw [hA.1, hB.1]; exact hne)]
  have hne' : ((n : Int) != (m : Int)) = true := by simp; omega
  go_enter Try.func34, Try.ntmps34
  go_wp2_with fail
  go_ret
  exact Ret.of (Below.refl _ _)

theorem rsame_any (A B : Option Addr) (n m c d : Nat) (xs ys : List (Int × Int)) (e : Bool) (he : sameB xs ys = e) (w : World) (hA : Vals w A n xs) (hB : Vals w B m ys) (hn : n ≤ 50) (hm : m ≤ 50) :
    Calls Try.prog 34 #[.slice A n c, .slice B m d] w (Ret (.bool e) w) := by
  subst he
  by_cases h : n = m
  · subst h
    exact rsame_eq A B n c d xs ys w hA hB hn
  · exact rsame_ne A B n m c d xs ys w hA hB hn hm h

end Val
end Go.Proofs.Ytmbigmankefedaa
